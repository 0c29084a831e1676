/- Layer 42: the reference's jump (written by gen/boju.py). -/
import Derived.Test.YtgiglbjkijlchaaRy
import Derived.Test.YtgiglbjkijlchaaNumLawTwo
namespace Go.Proofs.Ytgiglbjkijlchaa
open Go.ChangeShapes Go.WideShapes Go.ChangeAt Go.RowKit Go.PlainAid
set_option linter.unusedSimpArgs false
set_option linter.unusedVariables false

set_option maxRecDepth 100000 in
set_option maxHeartbeats 1000000 in
theorem jump_36 {w0 W : World} {b : Nat} {h : Hd8} {r : Rs} {lA : Option Addr} {lc : Nat} {sA : Option Addr} {sc : Nat} {ia ib it : Int} {kA : Option Addr} {kn kc : Nat} {ks : List Int} {tA : Option Addr} {tn tc : Nat} {ts : List Int} {r1 r2 r3 s : ByteArray} (hok : In.ok w0 w0.heap.size (⟨36, ia, ib, it, kA, kn, kc, ks, tA, tn, tc, ts, r1, r2, r3, s⟩ : In)) (h1 : kn ≤ 100000) (h2 : tn ≤ 100000) (hra : Rg ia) (hvs : VsIn r.ss) (H : HdSt w0 W b h r lA lc sA sc) (hl : r.ss.length ≤ 900000) :
    Calls Try.prog 25 #[.pointer (some ⟨b, 0, none⟩), .agg #[.int .i64 36, .int .i64 ia, .int .i64 ib, .int .i64 it, .slice kA kn kc, .slice tA tn tc, .string r1, .string r2, .string r3, .string s]] W (HdRet w0 W b h (jumpR (⟨36, ia, ib, it, kA, kn, kc, ks, tA, tn, tc, ts, r1, r2, r3, s⟩ : In) r) lA lc sA sc (.int .i64 (nextR (⟨36, ia, ib, it, kA, kn, kc, ks, tA, tn, tc, ts, r1, r2, r3, s⟩ : In) r h.pc))) := by
  have hb1 := below_al (Below.refl W.heap.size W) (.cells #[.int .i64 36, .int .i64 ia, .int .i64 ib, .int .i64 it, .slice kA kn kc, .slice tA tn tc, .string r1, .string r2, .string r3, .string s] 29)
  have R := World.alloc_heap_new W (.cells #[.int .i64 36, .int .i64 ia, .int .i64 ib, .int .i64 it, .slice kA kn kc, .slice tA tn tc, .string r1, .string r2, .string r3, .string s] 29)
  have HQ := Lib.hid (H.up hb1)
  have hz := lt_heapV H.box
  have hz1 : W.heap.size < (W.alloc (.cells #[.int .i64 36, .int .i64 ia, .int .i64 ib, .int .i64 it, .slice kA kn kc, .slice tA tn tc, .string r1, .string r2, .string r3, .string s] 29)).heap.size := by simp
  have HK1 := Lib.hid (Kb.of_below (b := b) hb1)
  have HOK := Lib.hid hok
  have HVS := Lib.hid hvs
  have HRA := Lib.hid hra
  clear H hok hvs hra
  have HT := Lib.hid (take_any HQ.out 1 (by omega))
  have HS := Lib.hid (show jumpR (⟨36, ia, ib, it, kA, kn, kc, ks, tA, tn, tc, ts, r1, r2, r3, s⟩ : In) r = takeS 1 r from rfl)
  have HN := Lib.hid (show nextR (⟨36, ia, ib, it, kA, kn, kc, ks, tA, tn, tc, ts, r1, r2, r3, s⟩ : In) r h.pc = if condV 36 (takeV r).2 0 = true then it else wrap64 (h.pc + 1) from rfl)
  obtain ⟨⟨ak, an⟩, ha⟩ : ∃ x, takeV r = x := ⟨_, rfl⟩
  rw [ha] at HT HN
  clear ha
  dsimp only at HT HN
  have HC := Lib.hid (fun w => rcond_any 36 an 0 w)
  obtain ⟨cv, hcv⟩ : ∃ cv, condV 36 an 0 = cv := ⟨_, rfl⟩
  obtain ⟨ce, hce⟩ : ∃ ce, condE 36 = ce := ⟨_, rfl⟩
  rw [hcv, hce] at HC
  rw [hcv] at HN
  clear hcv hce
  go_enter Try.func25, Try.ntmps25
  go_upto_region 1 with fail
  generalize W.alloc (.cells #[.int .i64 36, .int .i64 ia, .int .i64 ib, .int .i64 it, .slice kA kn kc, .slice tA tn tc, .string r1, .string r2, .string r3, .string s] 29) = W1 at R HQ HK1 hz1 hb1 HT ⊢
  obtain ⟨q0, q1, q2, q3, q4, q5, q6, q7, q8, q9⟩ := ten_cells R
  have HR := Lib.hid R
  clear hb1
  cases cv
  all_goals
    go_wp2_with (first | (go_at_call 37; refine HT.out.mono ?_; rintro e w2 ⟨rfl, hr2, hk2⟩; have c2 := (nine_cells hr2.box).2.2.1; have yb := lt_heapV hr2.box; have x2 := (hk2.block W.heap.size hz1 (by omega)).trans HR.out; obtain ⟨q0, q1, q2, q3, q4, q5, q6, q7, q8, q9⟩ := ten_cells x2; have y2 := lt_heapV x2) | (go_at_call 41; refine (HC.out _).mono ?_; rintro e w' ⟨rfl, rfl⟩))
    go_ret
    rw [HS.out, HN.out]
    have hb9 := below_al (Below.refl w2.heap.size w2) (.cells #[.int .i64 ak, .int .i64 an] 42)
    exact ⟨rfl, hr2.up hb9, (HK1.out.trans hk2).trans (Kb.of_below hb9)⟩
set_option maxRecDepth 100000 in
set_option maxHeartbeats 1000000 in
theorem jump_37 {w0 W : World} {b : Nat} {h : Hd8} {r : Rs} {lA : Option Addr} {lc : Nat} {sA : Option Addr} {sc : Nat} {ia ib it : Int} {kA : Option Addr} {kn kc : Nat} {ks : List Int} {tA : Option Addr} {tn tc : Nat} {ts : List Int} {r1 r2 r3 s : ByteArray} (hok : In.ok w0 w0.heap.size (⟨37, ia, ib, it, kA, kn, kc, ks, tA, tn, tc, ts, r1, r2, r3, s⟩ : In)) (h1 : kn ≤ 100000) (h2 : tn ≤ 100000) (hra : Rg ia) (hvs : VsIn r.ss) (H : HdSt w0 W b h r lA lc sA sc) (hl : r.ss.length ≤ 900000) :
    Calls Try.prog 25 #[.pointer (some ⟨b, 0, none⟩), .agg #[.int .i64 37, .int .i64 ia, .int .i64 ib, .int .i64 it, .slice kA kn kc, .slice tA tn tc, .string r1, .string r2, .string r3, .string s]] W (HdRet w0 W b h (jumpR (⟨37, ia, ib, it, kA, kn, kc, ks, tA, tn, tc, ts, r1, r2, r3, s⟩ : In) r) lA lc sA sc (.int .i64 (nextR (⟨37, ia, ib, it, kA, kn, kc, ks, tA, tn, tc, ts, r1, r2, r3, s⟩ : In) r h.pc))) := by
  have hb1 := below_al (Below.refl W.heap.size W) (.cells #[.int .i64 37, .int .i64 ia, .int .i64 ib, .int .i64 it, .slice kA kn kc, .slice tA tn tc, .string r1, .string r2, .string r3, .string s] 29)
  have R := World.alloc_heap_new W (.cells #[.int .i64 37, .int .i64 ia, .int .i64 ib, .int .i64 it, .slice kA kn kc, .slice tA tn tc, .string r1, .string r2, .string r3, .string s] 29)
  have HQ := Lib.hid (H.up hb1)
  have hz := lt_heapV H.box
  have hz1 : W.heap.size < (W.alloc (.cells #[.int .i64 37, .int .i64 ia, .int .i64 ib, .int .i64 it, .slice kA kn kc, .slice tA tn tc, .string r1, .string r2, .string r3, .string s] 29)).heap.size := by simp
  have HK1 := Lib.hid (Kb.of_below (b := b) hb1)
  have HOK := Lib.hid hok
  have HVS := Lib.hid hvs
  have HRA := Lib.hid hra
  clear H hok hvs hra
  have HT := Lib.hid (take_any HQ.out 1 (by omega))
  have HS := Lib.hid (show jumpR (⟨37, ia, ib, it, kA, kn, kc, ks, tA, tn, tc, ts, r1, r2, r3, s⟩ : In) r = takeS 1 r from rfl)
  have HN := Lib.hid (show nextR (⟨37, ia, ib, it, kA, kn, kc, ks, tA, tn, tc, ts, r1, r2, r3, s⟩ : In) r h.pc = if condV 37 (takeV r).2 0 = true then it else wrap64 (h.pc + 1) from rfl)
  obtain ⟨⟨ak, an⟩, ha⟩ : ∃ x, takeV r = x := ⟨_, rfl⟩
  rw [ha] at HT HN
  clear ha
  dsimp only at HT HN
  have HC := Lib.hid (fun w => rcond_any 37 an 0 w)
  obtain ⟨cv, hcv⟩ : ∃ cv, condV 37 an 0 = cv := ⟨_, rfl⟩
  obtain ⟨ce, hce⟩ : ∃ ce, condE 37 = ce := ⟨_, rfl⟩
  rw [hcv, hce] at HC
  rw [hcv] at HN
  clear hcv hce
  go_enter Try.func25, Try.ntmps25
  go_upto_region 1 with fail
  generalize W.alloc (.cells #[.int .i64 37, .int .i64 ia, .int .i64 ib, .int .i64 it, .slice kA kn kc, .slice tA tn tc, .string r1, .string r2, .string r3, .string s] 29) = W1 at R HQ HK1 hz1 hb1 HT ⊢
  obtain ⟨q0, q1, q2, q3, q4, q5, q6, q7, q8, q9⟩ := ten_cells R
  have HR := Lib.hid R
  clear hb1
  cases cv
  all_goals
    go_wp2_with (first | (go_at_call 37; refine HT.out.mono ?_; rintro e w2 ⟨rfl, hr2, hk2⟩; have c2 := (nine_cells hr2.box).2.2.1; have yb := lt_heapV hr2.box; have x2 := (hk2.block W.heap.size hz1 (by omega)).trans HR.out; obtain ⟨q0, q1, q2, q3, q4, q5, q6, q7, q8, q9⟩ := ten_cells x2; have y2 := lt_heapV x2) | (go_at_call 41; refine (HC.out _).mono ?_; rintro e w' ⟨rfl, rfl⟩))
    go_ret
    rw [HS.out, HN.out]
    have hb9 := below_al (Below.refl w2.heap.size w2) (.cells #[.int .i64 ak, .int .i64 an] 42)
    exact ⟨rfl, hr2.up hb9, (HK1.out.trans hk2).trans (Kb.of_below hb9)⟩
set_option maxRecDepth 100000 in
set_option maxHeartbeats 1000000 in
theorem jump_38 {w0 W : World} {b : Nat} {h : Hd8} {r : Rs} {lA : Option Addr} {lc : Nat} {sA : Option Addr} {sc : Nat} {ia ib it : Int} {kA : Option Addr} {kn kc : Nat} {ks : List Int} {tA : Option Addr} {tn tc : Nat} {ts : List Int} {r1 r2 r3 s : ByteArray} (hok : In.ok w0 w0.heap.size (⟨38, ia, ib, it, kA, kn, kc, ks, tA, tn, tc, ts, r1, r2, r3, s⟩ : In)) (h1 : kn ≤ 100000) (h2 : tn ≤ 100000) (hra : Rg ia) (hvs : VsIn r.ss) (H : HdSt w0 W b h r lA lc sA sc) (hl : r.ss.length ≤ 900000) :
    Calls Try.prog 25 #[.pointer (some ⟨b, 0, none⟩), .agg #[.int .i64 38, .int .i64 ia, .int .i64 ib, .int .i64 it, .slice kA kn kc, .slice tA tn tc, .string r1, .string r2, .string r3, .string s]] W (HdRet w0 W b h (jumpR (⟨38, ia, ib, it, kA, kn, kc, ks, tA, tn, tc, ts, r1, r2, r3, s⟩ : In) r) lA lc sA sc (.int .i64 (nextR (⟨38, ia, ib, it, kA, kn, kc, ks, tA, tn, tc, ts, r1, r2, r3, s⟩ : In) r h.pc))) := by
  have hb1 := below_al (Below.refl W.heap.size W) (.cells #[.int .i64 38, .int .i64 ia, .int .i64 ib, .int .i64 it, .slice kA kn kc, .slice tA tn tc, .string r1, .string r2, .string r3, .string s] 29)
  have R := World.alloc_heap_new W (.cells #[.int .i64 38, .int .i64 ia, .int .i64 ib, .int .i64 it, .slice kA kn kc, .slice tA tn tc, .string r1, .string r2, .string r3, .string s] 29)
  have HQ := Lib.hid (H.up hb1)
  have hz := lt_heapV H.box
  have hz1 : W.heap.size < (W.alloc (.cells #[.int .i64 38, .int .i64 ia, .int .i64 ib, .int .i64 it, .slice kA kn kc, .slice tA tn tc, .string r1, .string r2, .string r3, .string s] 29)).heap.size := by simp
  have HK1 := Lib.hid (Kb.of_below (b := b) hb1)
  have HOK := Lib.hid hok
  have HVS := Lib.hid hvs
  have HRA := Lib.hid hra
  clear H hok hvs hra
  have HT := Lib.hid (take_any HQ.out 1 (by omega))
  have HS := Lib.hid (show jumpR (⟨38, ia, ib, it, kA, kn, kc, ks, tA, tn, tc, ts, r1, r2, r3, s⟩ : In) r = takeS 1 r from rfl)
  have HN := Lib.hid (show nextR (⟨38, ia, ib, it, kA, kn, kc, ks, tA, tn, tc, ts, r1, r2, r3, s⟩ : In) r h.pc = if condV 38 (takeV r).2 0 = true then it else wrap64 (h.pc + 1) from rfl)
  obtain ⟨⟨ak, an⟩, ha⟩ : ∃ x, takeV r = x := ⟨_, rfl⟩
  rw [ha] at HT HN
  clear ha
  dsimp only at HT HN
  have HC := Lib.hid (fun w => rcond_any 38 an 0 w)
  obtain ⟨cv, hcv⟩ : ∃ cv, condV 38 an 0 = cv := ⟨_, rfl⟩
  obtain ⟨ce, hce⟩ : ∃ ce, condE 38 = ce := ⟨_, rfl⟩
  rw [hcv, hce] at HC
  rw [hcv] at HN
  clear hcv hce
  go_enter Try.func25, Try.ntmps25
  go_upto_region 1 with fail
  generalize W.alloc (.cells #[.int .i64 38, .int .i64 ia, .int .i64 ib, .int .i64 it, .slice kA kn kc, .slice tA tn tc, .string r1, .string r2, .string r3, .string s] 29) = W1 at R HQ HK1 hz1 hb1 HT ⊢
  obtain ⟨q0, q1, q2, q3, q4, q5, q6, q7, q8, q9⟩ := ten_cells R
  have HR := Lib.hid R
  clear hb1
  cases cv
  all_goals
    go_wp2_with (first | (go_at_call 37; refine HT.out.mono ?_; rintro e w2 ⟨rfl, hr2, hk2⟩; have c2 := (nine_cells hr2.box).2.2.1; have yb := lt_heapV hr2.box; have x2 := (hk2.block W.heap.size hz1 (by omega)).trans HR.out; obtain ⟨q0, q1, q2, q3, q4, q5, q6, q7, q8, q9⟩ := ten_cells x2; have y2 := lt_heapV x2) | (go_at_call 41; refine (HC.out _).mono ?_; rintro e w' ⟨rfl, rfl⟩))
    go_ret
    rw [HS.out, HN.out]
    have hb9 := below_al (Below.refl w2.heap.size w2) (.cells #[.int .i64 ak, .int .i64 an] 42)
    exact ⟨rfl, hr2.up hb9, (HK1.out.trans hk2).trans (Kb.of_below hb9)⟩
set_option maxRecDepth 100000 in
set_option maxHeartbeats 1000000 in
theorem jump_39 {w0 W : World} {b : Nat} {h : Hd8} {r : Rs} {lA : Option Addr} {lc : Nat} {sA : Option Addr} {sc : Nat} {ia ib it : Int} {kA : Option Addr} {kn kc : Nat} {ks : List Int} {tA : Option Addr} {tn tc : Nat} {ts : List Int} {r1 r2 r3 s : ByteArray} (hok : In.ok w0 w0.heap.size (⟨39, ia, ib, it, kA, kn, kc, ks, tA, tn, tc, ts, r1, r2, r3, s⟩ : In)) (h1 : kn ≤ 100000) (h2 : tn ≤ 100000) (hra : Rg ia) (hvs : VsIn r.ss) (H : HdSt w0 W b h r lA lc sA sc) (hl : r.ss.length ≤ 900000) :
    Calls Try.prog 25 #[.pointer (some ⟨b, 0, none⟩), .agg #[.int .i64 39, .int .i64 ia, .int .i64 ib, .int .i64 it, .slice kA kn kc, .slice tA tn tc, .string r1, .string r2, .string r3, .string s]] W (HdRet w0 W b h (jumpR (⟨39, ia, ib, it, kA, kn, kc, ks, tA, tn, tc, ts, r1, r2, r3, s⟩ : In) r) lA lc sA sc (.int .i64 (nextR (⟨39, ia, ib, it, kA, kn, kc, ks, tA, tn, tc, ts, r1, r2, r3, s⟩ : In) r h.pc))) := by
  have hb1 := below_al (Below.refl W.heap.size W) (.cells #[.int .i64 39, .int .i64 ia, .int .i64 ib, .int .i64 it, .slice kA kn kc, .slice tA tn tc, .string r1, .string r2, .string r3, .string s] 29)
  have R := World.alloc_heap_new W (.cells #[.int .i64 39, .int .i64 ia, .int .i64 ib, .int .i64 it, .slice kA kn kc, .slice tA tn tc, .string r1, .string r2, .string r3, .string s] 29)
  have HQ := Lib.hid (H.up hb1)
  have hz := lt_heapV H.box
  have hz1 : W.heap.size < (W.alloc (.cells #[.int .i64 39, .int .i64 ia, .int .i64 ib, .int .i64 it, .slice kA kn kc, .slice tA tn tc, .string r1, .string r2, .string r3, .string s] 29)).heap.size := by simp
  have HK1 := Lib.hid (Kb.of_below (b := b) hb1)
  have HOK := Lib.hid hok
  have HVS := Lib.hid hvs
  have HRA := Lib.hid hra
  clear H hok hvs hra
  have HT := Lib.hid (take_any HQ.out 1 (by omega))
  have HS := Lib.hid (show jumpR (⟨39, ia, ib, it, kA, kn, kc, ks, tA, tn, tc, ts, r1, r2, r3, s⟩ : In) r = takeS 1 r from rfl)
  have HN := Lib.hid (show nextR (⟨39, ia, ib, it, kA, kn, kc, ks, tA, tn, tc, ts, r1, r2, r3, s⟩ : In) r h.pc = if condV 39 (takeV r).2 0 = true then it else wrap64 (h.pc + 1) from rfl)
  obtain ⟨⟨ak, an⟩, ha⟩ : ∃ x, takeV r = x := ⟨_, rfl⟩
  rw [ha] at HT HN
  clear ha
  dsimp only at HT HN
  have HC := Lib.hid (fun w => rcond_any 39 an 0 w)
  obtain ⟨cv, hcv⟩ : ∃ cv, condV 39 an 0 = cv := ⟨_, rfl⟩
  obtain ⟨ce, hce⟩ : ∃ ce, condE 39 = ce := ⟨_, rfl⟩
  rw [hcv, hce] at HC
  rw [hcv] at HN
  clear hcv hce
  go_enter Try.func25, Try.ntmps25
  go_upto_region 1 with fail
  generalize W.alloc (.cells #[.int .i64 39, .int .i64 ia, .int .i64 ib, .int .i64 it, .slice kA kn kc, .slice tA tn tc, .string r1, .string r2, .string r3, .string s] 29) = W1 at R HQ HK1 hz1 hb1 HT ⊢
  obtain ⟨q0, q1, q2, q3, q4, q5, q6, q7, q8, q9⟩ := ten_cells R
  have HR := Lib.hid R
  clear hb1
  cases cv
  all_goals
    go_wp2_with (first | (go_at_call 37; refine HT.out.mono ?_; rintro e w2 ⟨rfl, hr2, hk2⟩; have c2 := (nine_cells hr2.box).2.2.1; have yb := lt_heapV hr2.box; have x2 := (hk2.block W.heap.size hz1 (by omega)).trans HR.out; obtain ⟨q0, q1, q2, q3, q4, q5, q6, q7, q8, q9⟩ := ten_cells x2; have y2 := lt_heapV x2) | (go_at_call 41; refine (HC.out _).mono ?_; rintro e w' ⟨rfl, rfl⟩))
    go_ret
    rw [HS.out, HN.out]
    have hb9 := below_al (Below.refl w2.heap.size w2) (.cells #[.int .i64 ak, .int .i64 an] 42)
    exact ⟨rfl, hr2.up hb9, (HK1.out.trans hk2).trans (Kb.of_below hb9)⟩
set_option maxRecDepth 100000 in
set_option maxHeartbeats 1000000 in
theorem jump_40 {w0 W : World} {b : Nat} {h : Hd8} {r : Rs} {lA : Option Addr} {lc : Nat} {sA : Option Addr} {sc : Nat} {ia ib it : Int} {kA : Option Addr} {kn kc : Nat} {ks : List Int} {tA : Option Addr} {tn tc : Nat} {ts : List Int} {r1 r2 r3 s : ByteArray} (hok : In.ok w0 w0.heap.size (⟨40, ia, ib, it, kA, kn, kc, ks, tA, tn, tc, ts, r1, r2, r3, s⟩ : In)) (h1 : kn ≤ 100000) (h2 : tn ≤ 100000) (hra : Rg ia) (hvs : VsIn r.ss) (H : HdSt w0 W b h r lA lc sA sc) (hl : r.ss.length ≤ 900000) :
    Calls Try.prog 25 #[.pointer (some ⟨b, 0, none⟩), .agg #[.int .i64 40, .int .i64 ia, .int .i64 ib, .int .i64 it, .slice kA kn kc, .slice tA tn tc, .string r1, .string r2, .string r3, .string s]] W (HdRet w0 W b h (jumpR (⟨40, ia, ib, it, kA, kn, kc, ks, tA, tn, tc, ts, r1, r2, r3, s⟩ : In) r) lA lc sA sc (.int .i64 (nextR (⟨40, ia, ib, it, kA, kn, kc, ks, tA, tn, tc, ts, r1, r2, r3, s⟩ : In) r h.pc))) := by
  have hb1 := below_al (Below.refl W.heap.size W) (.cells #[.int .i64 40, .int .i64 ia, .int .i64 ib, .int .i64 it, .slice kA kn kc, .slice tA tn tc, .string r1, .string r2, .string r3, .string s] 29)
  have R := World.alloc_heap_new W (.cells #[.int .i64 40, .int .i64 ia, .int .i64 ib, .int .i64 it, .slice kA kn kc, .slice tA tn tc, .string r1, .string r2, .string r3, .string s] 29)
  have HQ := Lib.hid (H.up hb1)
  have hz := lt_heapV H.box
  have hz1 : W.heap.size < (W.alloc (.cells #[.int .i64 40, .int .i64 ia, .int .i64 ib, .int .i64 it, .slice kA kn kc, .slice tA tn tc, .string r1, .string r2, .string r3, .string s] 29)).heap.size := by simp
  have HK1 := Lib.hid (Kb.of_below (b := b) hb1)
  have HOK := Lib.hid hok
  have HVS := Lib.hid hvs
  have HRA := Lib.hid hra
  clear H hok hvs hra
  have HT := Lib.hid (take_any HQ.out 1 (by omega))
  have HS := Lib.hid (show jumpR (⟨40, ia, ib, it, kA, kn, kc, ks, tA, tn, tc, ts, r1, r2, r3, s⟩ : In) r = takeS 1 r from rfl)
  have HN := Lib.hid (show nextR (⟨40, ia, ib, it, kA, kn, kc, ks, tA, tn, tc, ts, r1, r2, r3, s⟩ : In) r h.pc = if condV 40 (takeV r).2 0 = true then it else wrap64 (h.pc + 1) from rfl)
  obtain ⟨⟨ak, an⟩, ha⟩ : ∃ x, takeV r = x := ⟨_, rfl⟩
  rw [ha] at HT HN
  clear ha
  dsimp only at HT HN
  have HC := Lib.hid (fun w => rcond_any 40 an 0 w)
  obtain ⟨cv, hcv⟩ : ∃ cv, condV 40 an 0 = cv := ⟨_, rfl⟩
  obtain ⟨ce, hce⟩ : ∃ ce, condE 40 = ce := ⟨_, rfl⟩
  rw [hcv, hce] at HC
  rw [hcv] at HN
  clear hcv hce
  go_enter Try.func25, Try.ntmps25
  go_upto_region 1 with fail
  generalize W.alloc (.cells #[.int .i64 40, .int .i64 ia, .int .i64 ib, .int .i64 it, .slice kA kn kc, .slice tA tn tc, .string r1, .string r2, .string r3, .string s] 29) = W1 at R HQ HK1 hz1 hb1 HT ⊢
  obtain ⟨q0, q1, q2, q3, q4, q5, q6, q7, q8, q9⟩ := ten_cells R
  have HR := Lib.hid R
  clear hb1
  cases cv
  all_goals
    go_wp2_with (first | (go_at_call 37; refine HT.out.mono ?_; rintro e w2 ⟨rfl, hr2, hk2⟩; have c2 := (nine_cells hr2.box).2.2.1; have yb := lt_heapV hr2.box; have x2 := (hk2.block W.heap.size hz1 (by omega)).trans HR.out; obtain ⟨q0, q1, q2, q3, q4, q5, q6, q7, q8, q9⟩ := ten_cells x2; have y2 := lt_heapV x2) | (go_at_call 41; refine (HC.out _).mono ?_; rintro e w' ⟨rfl, rfl⟩))
    go_ret
    rw [HS.out, HN.out]
    have hb9 := below_al (Below.refl w2.heap.size w2) (.cells #[.int .i64 ak, .int .i64 an] 42)
    exact ⟨rfl, hr2.up hb9, (HK1.out.trans hk2).trans (Kb.of_below hb9)⟩
set_option maxRecDepth 100000 in
set_option maxHeartbeats 1000000 in
theorem jump_41 {w0 W : World} {b : Nat} {h : Hd8} {r : Rs} {lA : Option Addr} {lc : Nat} {sA : Option Addr} {sc : Nat} {ia ib it : Int} {kA : Option Addr} {kn kc : Nat} {ks : List Int} {tA : Option Addr} {tn tc : Nat} {ts : List Int} {r1 r2 r3 s : ByteArray} (hok : In.ok w0 w0.heap.size (⟨41, ia, ib, it, kA, kn, kc, ks, tA, tn, tc, ts, r1, r2, r3, s⟩ : In)) (h1 : kn ≤ 100000) (h2 : tn ≤ 100000) (hra : Rg ia) (hvs : VsIn r.ss) (H : HdSt w0 W b h r lA lc sA sc) (hl : r.ss.length ≤ 900000) :
    Calls Try.prog 25 #[.pointer (some ⟨b, 0, none⟩), .agg #[.int .i64 41, .int .i64 ia, .int .i64 ib, .int .i64 it, .slice kA kn kc, .slice tA tn tc, .string r1, .string r2, .string r3, .string s]] W (HdRet w0 W b h (jumpR (⟨41, ia, ib, it, kA, kn, kc, ks, tA, tn, tc, ts, r1, r2, r3, s⟩ : In) r) lA lc sA sc (.int .i64 (nextR (⟨41, ia, ib, it, kA, kn, kc, ks, tA, tn, tc, ts, r1, r2, r3, s⟩ : In) r h.pc))) := by
  have hb1 := below_al (Below.refl W.heap.size W) (.cells #[.int .i64 41, .int .i64 ia, .int .i64 ib, .int .i64 it, .slice kA kn kc, .slice tA tn tc, .string r1, .string r2, .string r3, .string s] 29)
  have R := World.alloc_heap_new W (.cells #[.int .i64 41, .int .i64 ia, .int .i64 ib, .int .i64 it, .slice kA kn kc, .slice tA tn tc, .string r1, .string r2, .string r3, .string s] 29)
  have HQ := Lib.hid (H.up hb1)
  have hz := lt_heapV H.box
  have hz1 : W.heap.size < (W.alloc (.cells #[.int .i64 41, .int .i64 ia, .int .i64 ib, .int .i64 it, .slice kA kn kc, .slice tA tn tc, .string r1, .string r2, .string r3, .string s] 29)).heap.size := by simp
  have HK1 := Lib.hid (Kb.of_below (b := b) hb1)
  have HOK := Lib.hid hok
  have HVS := Lib.hid hvs
  have HRA := Lib.hid hra
  clear H hok hvs hra
  have HT := Lib.hid (take_any HQ.out 1 (by omega))
  have HS := Lib.hid (show jumpR (⟨41, ia, ib, it, kA, kn, kc, ks, tA, tn, tc, ts, r1, r2, r3, s⟩ : In) r = takeS 1 r from rfl)
  have HN := Lib.hid (show nextR (⟨41, ia, ib, it, kA, kn, kc, ks, tA, tn, tc, ts, r1, r2, r3, s⟩ : In) r h.pc = if condV 41 (takeV r).2 0 = true then it else wrap64 (h.pc + 1) from rfl)
  obtain ⟨⟨ak, an⟩, ha⟩ : ∃ x, takeV r = x := ⟨_, rfl⟩
  rw [ha] at HT HN
  clear ha
  dsimp only at HT HN
  have HC := Lib.hid (fun w => rcond_any 41 an 0 w)
  obtain ⟨cv, hcv⟩ : ∃ cv, condV 41 an 0 = cv := ⟨_, rfl⟩
  obtain ⟨ce, hce⟩ : ∃ ce, condE 41 = ce := ⟨_, rfl⟩
  rw [hcv, hce] at HC
  rw [hcv] at HN
  clear hcv hce
  go_enter Try.func25, Try.ntmps25
  go_upto_region 1 with fail
  generalize W.alloc (.cells #[.int .i64 41, .int .i64 ia, .int .i64 ib, .int .i64 it, .slice kA kn kc, .slice tA tn tc, .string r1, .string r2, .string r3, .string s] 29) = W1 at R HQ HK1 hz1 hb1 HT ⊢
  obtain ⟨q0, q1, q2, q3, q4, q5, q6, q7, q8, q9⟩ := ten_cells R
  have HR := Lib.hid R
  clear hb1
  cases cv
  all_goals
    go_wp2_with (first | (go_at_call 37; refine HT.out.mono ?_; rintro e w2 ⟨rfl, hr2, hk2⟩; have c2 := (nine_cells hr2.box).2.2.1; have yb := lt_heapV hr2.box; have x2 := (hk2.block W.heap.size hz1 (by omega)).trans HR.out; obtain ⟨q0, q1, q2, q3, q4, q5, q6, q7, q8, q9⟩ := ten_cells x2; have y2 := lt_heapV x2) | (go_at_call 41; refine (HC.out _).mono ?_; rintro e w' ⟨rfl, rfl⟩))
    go_ret
    rw [HS.out, HN.out]
    have hb9 := below_al (Below.refl w2.heap.size w2) (.cells #[.int .i64 ak, .int .i64 an] 42)
    exact ⟨rfl, hr2.up hb9, (HK1.out.trans hk2).trans (Kb.of_below hb9)⟩
set_option maxRecDepth 100000 in
set_option maxHeartbeats 1000000 in
theorem jump_42 {w0 W : World} {b : Nat} {h : Hd8} {r : Rs} {lA : Option Addr} {lc : Nat} {sA : Option Addr} {sc : Nat} {ia ib it : Int} {kA : Option Addr} {kn kc : Nat} {ks : List Int} {tA : Option Addr} {tn tc : Nat} {ts : List Int} {r1 r2 r3 s : ByteArray} (hok : In.ok w0 w0.heap.size (⟨42, ia, ib, it, kA, kn, kc, ks, tA, tn, tc, ts, r1, r2, r3, s⟩ : In)) (h1 : kn ≤ 100000) (h2 : tn ≤ 100000) (hra : Rg ia) (hvs : VsIn r.ss) (H : HdSt w0 W b h r lA lc sA sc) (hl : r.ss.length ≤ 900000) :
    Calls Try.prog 25 #[.pointer (some ⟨b, 0, none⟩), .agg #[.int .i64 42, .int .i64 ia, .int .i64 ib, .int .i64 it, .slice kA kn kc, .slice tA tn tc, .string r1, .string r2, .string r3, .string s]] W (HdRet w0 W b h (jumpR (⟨42, ia, ib, it, kA, kn, kc, ks, tA, tn, tc, ts, r1, r2, r3, s⟩ : In) r) lA lc sA sc (.int .i64 (nextR (⟨42, ia, ib, it, kA, kn, kc, ks, tA, tn, tc, ts, r1, r2, r3, s⟩ : In) r h.pc))) := by
  have hb1 := below_al (Below.refl W.heap.size W) (.cells #[.int .i64 42, .int .i64 ia, .int .i64 ib, .int .i64 it, .slice kA kn kc, .slice tA tn tc, .string r1, .string r2, .string r3, .string s] 29)
  have R := World.alloc_heap_new W (.cells #[.int .i64 42, .int .i64 ia, .int .i64 ib, .int .i64 it, .slice kA kn kc, .slice tA tn tc, .string r1, .string r2, .string r3, .string s] 29)
  have HQ := Lib.hid (H.up hb1)
  have hz := lt_heapV H.box
  have hz1 : W.heap.size < (W.alloc (.cells #[.int .i64 42, .int .i64 ia, .int .i64 ib, .int .i64 it, .slice kA kn kc, .slice tA tn tc, .string r1, .string r2, .string r3, .string s] 29)).heap.size := by simp
  have HK1 := Lib.hid (Kb.of_below (b := b) hb1)
  have HOK := Lib.hid hok
  have HVS := Lib.hid hvs
  have HRA := Lib.hid hra
  clear H hok hvs hra
  have HT := Lib.hid (take_any HQ.out 1 (by omega))
  have HL1 := Lib.hid (takeS_len 1 r)
  have HT2 := Lib.hid (fun (W : World) (H : HdSt w0 W b h (takeS 1 r) lA lc sA sc) => take_any H 1 (by have := HL1.out; omega))
  have HS := Lib.hid (show jumpR (⟨42, ia, ib, it, kA, kn, kc, ks, tA, tn, tc, ts, r1, r2, r3, s⟩ : In) r = takeS 1 (takeS 1 r) from rfl)
  have HN := Lib.hid (show nextR (⟨42, ia, ib, it, kA, kn, kc, ks, tA, tn, tc, ts, r1, r2, r3, s⟩ : In) r h.pc = if condV 42 (takeV (takeS 1 r)).2 (takeV r).2 = true then it else wrap64 (h.pc + 1) from rfl)
  obtain ⟨⟨bk, bn⟩, hb⟩ : ∃ x, takeV r = x := ⟨_, rfl⟩
  obtain ⟨⟨ak, an⟩, ha⟩ : ∃ x, takeV (takeS 1 r) = x := ⟨_, rfl⟩
  rw [hb] at HT HN
  rw [ha] at HT2 HN
  clear ha hb
  dsimp only at HT HT2 HN
  have HC := Lib.hid (fun w => rcond_any 42 an bn w)
  obtain ⟨cv, hcv⟩ : ∃ cv, condV 42 an bn = cv := ⟨_, rfl⟩
  obtain ⟨ce, hce⟩ : ∃ ce, condE 42 = ce := ⟨_, rfl⟩
  rw [hcv, hce] at HC
  rw [hcv] at HN
  clear hcv hce
  go_enter Try.func25, Try.ntmps25
  go_upto_region 1 with fail
  generalize W.alloc (.cells #[.int .i64 42, .int .i64 ia, .int .i64 ib, .int .i64 it, .slice kA kn kc, .slice tA tn tc, .string r1, .string r2, .string r3, .string s] 29) = W1 at R HQ HK1 hz1 hb1 HT ⊢
  obtain ⟨q0, q1, q2, q3, q4, q5, q6, q7, q8, q9⟩ := ten_cells R
  have HR := Lib.hid R
  clear hb1
  go_upto_region 13 with (go_at_call 37; refine HT.out.mono ?_; rintro e w2 ⟨rfl, hr2, hk2⟩)
  have x2 := (hk2.block W.heap.size hz1 (by omega)).trans HR.out
  have hb2 := below_al (Below.refl w2.heap.size w2) (.cells #[.int .i64 bk, .int .i64 bn] 42)
  have v2 := World.alloc_heap_new w2 (.cells #[.int .i64 bk, .int .i64 bn] 42)
  have x3 := (hb2.block _ (lt_heapV x2)).trans x2
  have hr3 := hr2.up hb2
  have hk3 := (HK1.out.trans hk2).trans (Kb.of_below hb2)
  have hb2z := lt_heapV hr2.box
  generalize w2.alloc (.cells #[.int .i64 bk, .int .i64 bn] 42) = w3 at v2 x3 hr3 hk3 ⊢
  have hz3 := lt_heapV v2
  have hy3 := lt_heapV x3
  have HT3 := Lib.hid (HT2.out _ hr3)
  clear hb2 q0 q1 q2 q3 q4 q5 q6 q7 q8 q9
  cases cv
  all_goals
    go_wp2_with (first | (go_at_call 37; refine HT3.out.mono ?_; rintro e w4 ⟨rfl, hr4, hk4⟩; have c2 := (nine_cells hr4.box).2.2.1; have yb := lt_heapV hr4.box; have x4 := (hk4.block W.heap.size hy3 (by omega)).trans x3; obtain ⟨q0, q1, q2, q3, q4, q5, q6, q7, q8, q9⟩ := ten_cells x4; have y4 := lt_heapV x4; have v4 := (hk4.block w2.heap.size hz3 (by omega)).trans v2; obtain ⟨u0, u1⟩ := two_cellsV v4; have y5 := lt_heapV v4) | (go_at_call 41; refine (HC.out _).mono ?_; rintro e w' ⟨rfl, rfl⟩))
    go_ret
    rw [HS.out, HN.out]
    have hb9 := below_al (Below.refl w4.heap.size w4) (.cells #[.int .i64 ak, .int .i64 an] 42)
    exact ⟨rfl, hr4.up hb9, (hk3.trans hk4).trans (Kb.of_below hb9)⟩
set_option maxRecDepth 100000 in
set_option maxHeartbeats 1000000 in
theorem jump_43 {w0 W : World} {b : Nat} {h : Hd8} {r : Rs} {lA : Option Addr} {lc : Nat} {sA : Option Addr} {sc : Nat} {ia ib it : Int} {kA : Option Addr} {kn kc : Nat} {ks : List Int} {tA : Option Addr} {tn tc : Nat} {ts : List Int} {r1 r2 r3 s : ByteArray} (hok : In.ok w0 w0.heap.size (⟨43, ia, ib, it, kA, kn, kc, ks, tA, tn, tc, ts, r1, r2, r3, s⟩ : In)) (h1 : kn ≤ 100000) (h2 : tn ≤ 100000) (hra : Rg ia) (hvs : VsIn r.ss) (H : HdSt w0 W b h r lA lc sA sc) (hl : r.ss.length ≤ 900000) :
    Calls Try.prog 25 #[.pointer (some ⟨b, 0, none⟩), .agg #[.int .i64 43, .int .i64 ia, .int .i64 ib, .int .i64 it, .slice kA kn kc, .slice tA tn tc, .string r1, .string r2, .string r3, .string s]] W (HdRet w0 W b h (jumpR (⟨43, ia, ib, it, kA, kn, kc, ks, tA, tn, tc, ts, r1, r2, r3, s⟩ : In) r) lA lc sA sc (.int .i64 (nextR (⟨43, ia, ib, it, kA, kn, kc, ks, tA, tn, tc, ts, r1, r2, r3, s⟩ : In) r h.pc))) := by
  have hb1 := below_al (Below.refl W.heap.size W) (.cells #[.int .i64 43, .int .i64 ia, .int .i64 ib, .int .i64 it, .slice kA kn kc, .slice tA tn tc, .string r1, .string r2, .string r3, .string s] 29)
  have R := World.alloc_heap_new W (.cells #[.int .i64 43, .int .i64 ia, .int .i64 ib, .int .i64 it, .slice kA kn kc, .slice tA tn tc, .string r1, .string r2, .string r3, .string s] 29)
  have HQ := Lib.hid (H.up hb1)
  have hz := lt_heapV H.box
  have hz1 : W.heap.size < (W.alloc (.cells #[.int .i64 43, .int .i64 ia, .int .i64 ib, .int .i64 it, .slice kA kn kc, .slice tA tn tc, .string r1, .string r2, .string r3, .string s] 29)).heap.size := by simp
  have HK1 := Lib.hid (Kb.of_below (b := b) hb1)
  have HOK := Lib.hid hok
  have HVS := Lib.hid hvs
  have HRA := Lib.hid hra
  clear H hok hvs hra
  have HT := Lib.hid (take_any HQ.out 1 (by omega))
  have HL1 := Lib.hid (takeS_len 1 r)
  have HT2 := Lib.hid (fun (W : World) (H : HdSt w0 W b h (takeS 1 r) lA lc sA sc) => take_any H 1 (by have := HL1.out; omega))
  have HS := Lib.hid (show jumpR (⟨43, ia, ib, it, kA, kn, kc, ks, tA, tn, tc, ts, r1, r2, r3, s⟩ : In) r = takeS 1 (takeS 1 r) from rfl)
  have HN := Lib.hid (show nextR (⟨43, ia, ib, it, kA, kn, kc, ks, tA, tn, tc, ts, r1, r2, r3, s⟩ : In) r h.pc = if condV 43 (takeV (takeS 1 r)).2 (takeV r).2 = true then it else wrap64 (h.pc + 1) from rfl)
  obtain ⟨⟨bk, bn⟩, hb⟩ : ∃ x, takeV r = x := ⟨_, rfl⟩
  obtain ⟨⟨ak, an⟩, ha⟩ : ∃ x, takeV (takeS 1 r) = x := ⟨_, rfl⟩
  rw [hb] at HT HN
  rw [ha] at HT2 HN
  clear ha hb
  dsimp only at HT HT2 HN
  have HC := Lib.hid (fun w => rcond_any 43 an bn w)
  obtain ⟨cv, hcv⟩ : ∃ cv, condV 43 an bn = cv := ⟨_, rfl⟩
  obtain ⟨ce, hce⟩ : ∃ ce, condE 43 = ce := ⟨_, rfl⟩
  rw [hcv, hce] at HC
  rw [hcv] at HN
  clear hcv hce
  go_enter Try.func25, Try.ntmps25
  go_upto_region 1 with fail
  generalize W.alloc (.cells #[.int .i64 43, .int .i64 ia, .int .i64 ib, .int .i64 it, .slice kA kn kc, .slice tA tn tc, .string r1, .string r2, .string r3, .string s] 29) = W1 at R HQ HK1 hz1 hb1 HT ⊢
  obtain ⟨q0, q1, q2, q3, q4, q5, q6, q7, q8, q9⟩ := ten_cells R
  have HR := Lib.hid R
  clear hb1
  go_upto_region 13 with (go_at_call 37; refine HT.out.mono ?_; rintro e w2 ⟨rfl, hr2, hk2⟩)
  have x2 := (hk2.block W.heap.size hz1 (by omega)).trans HR.out
  have hb2 := below_al (Below.refl w2.heap.size w2) (.cells #[.int .i64 bk, .int .i64 bn] 42)
  have v2 := World.alloc_heap_new w2 (.cells #[.int .i64 bk, .int .i64 bn] 42)
  have x3 := (hb2.block _ (lt_heapV x2)).trans x2
  have hr3 := hr2.up hb2
  have hk3 := (HK1.out.trans hk2).trans (Kb.of_below hb2)
  have hb2z := lt_heapV hr2.box
  generalize w2.alloc (.cells #[.int .i64 bk, .int .i64 bn] 42) = w3 at v2 x3 hr3 hk3 ⊢
  have hz3 := lt_heapV v2
  have hy3 := lt_heapV x3
  have HT3 := Lib.hid (HT2.out _ hr3)
  clear hb2 q0 q1 q2 q3 q4 q5 q6 q7 q8 q9
  cases cv
  all_goals
    go_wp2_with (first | (go_at_call 37; refine HT3.out.mono ?_; rintro e w4 ⟨rfl, hr4, hk4⟩; have c2 := (nine_cells hr4.box).2.2.1; have yb := lt_heapV hr4.box; have x4 := (hk4.block W.heap.size hy3 (by omega)).trans x3; obtain ⟨q0, q1, q2, q3, q4, q5, q6, q7, q8, q9⟩ := ten_cells x4; have y4 := lt_heapV x4; have v4 := (hk4.block w2.heap.size hz3 (by omega)).trans v2; obtain ⟨u0, u1⟩ := two_cellsV v4; have y5 := lt_heapV v4) | (go_at_call 41; refine (HC.out _).mono ?_; rintro e w' ⟨rfl, rfl⟩))
    go_ret
    rw [HS.out, HN.out]
    have hb9 := below_al (Below.refl w4.heap.size w4) (.cells #[.int .i64 ak, .int .i64 an] 42)
    exact ⟨rfl, hr4.up hb9, (hk3.trans hk4).trans (Kb.of_below hb9)⟩
set_option maxRecDepth 100000 in
set_option maxHeartbeats 1000000 in
theorem jump_44 {w0 W : World} {b : Nat} {h : Hd8} {r : Rs} {lA : Option Addr} {lc : Nat} {sA : Option Addr} {sc : Nat} {ia ib it : Int} {kA : Option Addr} {kn kc : Nat} {ks : List Int} {tA : Option Addr} {tn tc : Nat} {ts : List Int} {r1 r2 r3 s : ByteArray} (hok : In.ok w0 w0.heap.size (⟨44, ia, ib, it, kA, kn, kc, ks, tA, tn, tc, ts, r1, r2, r3, s⟩ : In)) (h1 : kn ≤ 100000) (h2 : tn ≤ 100000) (hra : Rg ia) (hvs : VsIn r.ss) (H : HdSt w0 W b h r lA lc sA sc) (hl : r.ss.length ≤ 900000) :
    Calls Try.prog 25 #[.pointer (some ⟨b, 0, none⟩), .agg #[.int .i64 44, .int .i64 ia, .int .i64 ib, .int .i64 it, .slice kA kn kc, .slice tA tn tc, .string r1, .string r2, .string r3, .string s]] W (HdRet w0 W b h (jumpR (⟨44, ia, ib, it, kA, kn, kc, ks, tA, tn, tc, ts, r1, r2, r3, s⟩ : In) r) lA lc sA sc (.int .i64 (nextR (⟨44, ia, ib, it, kA, kn, kc, ks, tA, tn, tc, ts, r1, r2, r3, s⟩ : In) r h.pc))) := by
  have hb1 := below_al (Below.refl W.heap.size W) (.cells #[.int .i64 44, .int .i64 ia, .int .i64 ib, .int .i64 it, .slice kA kn kc, .slice tA tn tc, .string r1, .string r2, .string r3, .string s] 29)
  have R := World.alloc_heap_new W (.cells #[.int .i64 44, .int .i64 ia, .int .i64 ib, .int .i64 it, .slice kA kn kc, .slice tA tn tc, .string r1, .string r2, .string r3, .string s] 29)
  have HQ := Lib.hid (H.up hb1)
  have hz := lt_heapV H.box
  have hz1 : W.heap.size < (W.alloc (.cells #[.int .i64 44, .int .i64 ia, .int .i64 ib, .int .i64 it, .slice kA kn kc, .slice tA tn tc, .string r1, .string r2, .string r3, .string s] 29)).heap.size := by simp
  have HK1 := Lib.hid (Kb.of_below (b := b) hb1)
  have HOK := Lib.hid hok
  have HVS := Lib.hid hvs
  have HRA := Lib.hid hra
  clear H hok hvs hra
  have HT := Lib.hid (take_any HQ.out 1 (by omega))
  have HL1 := Lib.hid (takeS_len 1 r)
  have HT2 := Lib.hid (fun (W : World) (H : HdSt w0 W b h (takeS 1 r) lA lc sA sc) => take_any H 1 (by have := HL1.out; omega))
  have HS := Lib.hid (show jumpR (⟨44, ia, ib, it, kA, kn, kc, ks, tA, tn, tc, ts, r1, r2, r3, s⟩ : In) r = takeS 1 (takeS 1 r) from rfl)
  have HN := Lib.hid (show nextR (⟨44, ia, ib, it, kA, kn, kc, ks, tA, tn, tc, ts, r1, r2, r3, s⟩ : In) r h.pc = if condV 44 (takeV (takeS 1 r)).2 (takeV r).2 = true then it else wrap64 (h.pc + 1) from rfl)
  obtain ⟨⟨bk, bn⟩, hb⟩ : ∃ x, takeV r = x := ⟨_, rfl⟩
  obtain ⟨⟨ak, an⟩, ha⟩ : ∃ x, takeV (takeS 1 r) = x := ⟨_, rfl⟩
  rw [hb] at HT HN
  rw [ha] at HT2 HN
  clear ha hb
  dsimp only at HT HT2 HN
  have HC := Lib.hid (fun w => rcond_any 44 an bn w)
  obtain ⟨cv, hcv⟩ : ∃ cv, condV 44 an bn = cv := ⟨_, rfl⟩
  obtain ⟨ce, hce⟩ : ∃ ce, condE 44 = ce := ⟨_, rfl⟩
  rw [hcv, hce] at HC
  rw [hcv] at HN
  clear hcv hce
  go_enter Try.func25, Try.ntmps25
  go_upto_region 1 with fail
  generalize W.alloc (.cells #[.int .i64 44, .int .i64 ia, .int .i64 ib, .int .i64 it, .slice kA kn kc, .slice tA tn tc, .string r1, .string r2, .string r3, .string s] 29) = W1 at R HQ HK1 hz1 hb1 HT ⊢
  obtain ⟨q0, q1, q2, q3, q4, q5, q6, q7, q8, q9⟩ := ten_cells R
  have HR := Lib.hid R
  clear hb1
  go_upto_region 13 with (go_at_call 37; refine HT.out.mono ?_; rintro e w2 ⟨rfl, hr2, hk2⟩)
  have x2 := (hk2.block W.heap.size hz1 (by omega)).trans HR.out
  have hb2 := below_al (Below.refl w2.heap.size w2) (.cells #[.int .i64 bk, .int .i64 bn] 42)
  have v2 := World.alloc_heap_new w2 (.cells #[.int .i64 bk, .int .i64 bn] 42)
  have x3 := (hb2.block _ (lt_heapV x2)).trans x2
  have hr3 := hr2.up hb2
  have hk3 := (HK1.out.trans hk2).trans (Kb.of_below hb2)
  have hb2z := lt_heapV hr2.box
  generalize w2.alloc (.cells #[.int .i64 bk, .int .i64 bn] 42) = w3 at v2 x3 hr3 hk3 ⊢
  have hz3 := lt_heapV v2
  have hy3 := lt_heapV x3
  have HT3 := Lib.hid (HT2.out _ hr3)
  clear hb2 q0 q1 q2 q3 q4 q5 q6 q7 q8 q9
  cases cv
  all_goals
    go_wp2_with (first | (go_at_call 37; refine HT3.out.mono ?_; rintro e w4 ⟨rfl, hr4, hk4⟩; have c2 := (nine_cells hr4.box).2.2.1; have yb := lt_heapV hr4.box; have x4 := (hk4.block W.heap.size hy3 (by omega)).trans x3; obtain ⟨q0, q1, q2, q3, q4, q5, q6, q7, q8, q9⟩ := ten_cells x4; have y4 := lt_heapV x4; have v4 := (hk4.block w2.heap.size hz3 (by omega)).trans v2; obtain ⟨u0, u1⟩ := two_cellsV v4; have y5 := lt_heapV v4) | (go_at_call 41; refine (HC.out _).mono ?_; rintro e w' ⟨rfl, rfl⟩))
    go_ret
    rw [HS.out, HN.out]
    have hb9 := below_al (Below.refl w4.heap.size w4) (.cells #[.int .i64 ak, .int .i64 an] 42)
    exact ⟨rfl, hr4.up hb9, (hk3.trans hk4).trans (Kb.of_below hb9)⟩
set_option maxRecDepth 100000 in
set_option maxHeartbeats 1000000 in
theorem jump_45 {w0 W : World} {b : Nat} {h : Hd8} {r : Rs} {lA : Option Addr} {lc : Nat} {sA : Option Addr} {sc : Nat} {ia ib it : Int} {kA : Option Addr} {kn kc : Nat} {ks : List Int} {tA : Option Addr} {tn tc : Nat} {ts : List Int} {r1 r2 r3 s : ByteArray} (hok : In.ok w0 w0.heap.size (⟨45, ia, ib, it, kA, kn, kc, ks, tA, tn, tc, ts, r1, r2, r3, s⟩ : In)) (h1 : kn ≤ 100000) (h2 : tn ≤ 100000) (hra : Rg ia) (hvs : VsIn r.ss) (H : HdSt w0 W b h r lA lc sA sc) (hl : r.ss.length ≤ 900000) :
    Calls Try.prog 25 #[.pointer (some ⟨b, 0, none⟩), .agg #[.int .i64 45, .int .i64 ia, .int .i64 ib, .int .i64 it, .slice kA kn kc, .slice tA tn tc, .string r1, .string r2, .string r3, .string s]] W (HdRet w0 W b h (jumpR (⟨45, ia, ib, it, kA, kn, kc, ks, tA, tn, tc, ts, r1, r2, r3, s⟩ : In) r) lA lc sA sc (.int .i64 (nextR (⟨45, ia, ib, it, kA, kn, kc, ks, tA, tn, tc, ts, r1, r2, r3, s⟩ : In) r h.pc))) := by
  have hb1 := below_al (Below.refl W.heap.size W) (.cells #[.int .i64 45, .int .i64 ia, .int .i64 ib, .int .i64 it, .slice kA kn kc, .slice tA tn tc, .string r1, .string r2, .string r3, .string s] 29)
  have R := World.alloc_heap_new W (.cells #[.int .i64 45, .int .i64 ia, .int .i64 ib, .int .i64 it, .slice kA kn kc, .slice tA tn tc, .string r1, .string r2, .string r3, .string s] 29)
  have HQ := Lib.hid (H.up hb1)
  have hz := lt_heapV H.box
  have hz1 : W.heap.size < (W.alloc (.cells #[.int .i64 45, .int .i64 ia, .int .i64 ib, .int .i64 it, .slice kA kn kc, .slice tA tn tc, .string r1, .string r2, .string r3, .string s] 29)).heap.size := by simp
  have HK1 := Lib.hid (Kb.of_below (b := b) hb1)
  have HOK := Lib.hid hok
  have HVS := Lib.hid hvs
  have HRA := Lib.hid hra
  clear H hok hvs hra
  have HT := Lib.hid (take_any HQ.out 1 (by omega))
  have HL1 := Lib.hid (takeS_len 1 r)
  have HT2 := Lib.hid (fun (W : World) (H : HdSt w0 W b h (takeS 1 r) lA lc sA sc) => take_any H 1 (by have := HL1.out; omega))
  have HS := Lib.hid (show jumpR (⟨45, ia, ib, it, kA, kn, kc, ks, tA, tn, tc, ts, r1, r2, r3, s⟩ : In) r = takeS 1 (takeS 1 r) from rfl)
  have HN := Lib.hid (show nextR (⟨45, ia, ib, it, kA, kn, kc, ks, tA, tn, tc, ts, r1, r2, r3, s⟩ : In) r h.pc = if condV 45 (takeV (takeS 1 r)).2 (takeV r).2 = true then it else wrap64 (h.pc + 1) from rfl)
  obtain ⟨⟨bk, bn⟩, hb⟩ : ∃ x, takeV r = x := ⟨_, rfl⟩
  obtain ⟨⟨ak, an⟩, ha⟩ : ∃ x, takeV (takeS 1 r) = x := ⟨_, rfl⟩
  rw [hb] at HT HN
  rw [ha] at HT2 HN
  clear ha hb
  dsimp only at HT HT2 HN
  have HC := Lib.hid (fun w => rcond_any 45 an bn w)
  obtain ⟨cv, hcv⟩ : ∃ cv, condV 45 an bn = cv := ⟨_, rfl⟩
  obtain ⟨ce, hce⟩ : ∃ ce, condE 45 = ce := ⟨_, rfl⟩
  rw [hcv, hce] at HC
  rw [hcv] at HN
  clear hcv hce
  go_enter Try.func25, Try.ntmps25
  go_upto_region 1 with fail
  generalize W.alloc (.cells #[.int .i64 45, .int .i64 ia, .int .i64 ib, .int .i64 it, .slice kA kn kc, .slice tA tn tc, .string r1, .string r2, .string r3, .string s] 29) = W1 at R HQ HK1 hz1 hb1 HT ⊢
  obtain ⟨q0, q1, q2, q3, q4, q5, q6, q7, q8, q9⟩ := ten_cells R
  have HR := Lib.hid R
  clear hb1
  go_upto_region 13 with (go_at_call 37; refine HT.out.mono ?_; rintro e w2 ⟨rfl, hr2, hk2⟩)
  have x2 := (hk2.block W.heap.size hz1 (by omega)).trans HR.out
  have hb2 := below_al (Below.refl w2.heap.size w2) (.cells #[.int .i64 bk, .int .i64 bn] 42)
  have v2 := World.alloc_heap_new w2 (.cells #[.int .i64 bk, .int .i64 bn] 42)
  have x3 := (hb2.block _ (lt_heapV x2)).trans x2
  have hr3 := hr2.up hb2
  have hk3 := (HK1.out.trans hk2).trans (Kb.of_below hb2)
  have hb2z := lt_heapV hr2.box
  generalize w2.alloc (.cells #[.int .i64 bk, .int .i64 bn] 42) = w3 at v2 x3 hr3 hk3 ⊢
  have hz3 := lt_heapV v2
  have hy3 := lt_heapV x3
  have HT3 := Lib.hid (HT2.out _ hr3)
  clear hb2 q0 q1 q2 q3 q4 q5 q6 q7 q8 q9
  cases cv
  all_goals
    go_wp2_with (first | (go_at_call 37; refine HT3.out.mono ?_; rintro e w4 ⟨rfl, hr4, hk4⟩; have c2 := (nine_cells hr4.box).2.2.1; have yb := lt_heapV hr4.box; have x4 := (hk4.block W.heap.size hy3 (by omega)).trans x3; obtain ⟨q0, q1, q2, q3, q4, q5, q6, q7, q8, q9⟩ := ten_cells x4; have y4 := lt_heapV x4; have v4 := (hk4.block w2.heap.size hz3 (by omega)).trans v2; obtain ⟨u0, u1⟩ := two_cellsV v4; have y5 := lt_heapV v4) | (go_at_call 41; refine (HC.out _).mono ?_; rintro e w' ⟨rfl, rfl⟩))
    go_ret
    rw [HS.out, HN.out]
    have hb9 := below_al (Below.refl w4.heap.size w4) (.cells #[.int .i64 ak, .int .i64 an] 42)
    exact ⟨rfl, hr4.up hb9, (hk3.trans hk4).trans (Kb.of_below hb9)⟩
set_option maxRecDepth 100000 in
set_option maxHeartbeats 1000000 in
theorem jump_46 {w0 W : World} {b : Nat} {h : Hd8} {r : Rs} {lA : Option Addr} {lc : Nat} {sA : Option Addr} {sc : Nat} {ia ib it : Int} {kA : Option Addr} {kn kc : Nat} {ks : List Int} {tA : Option Addr} {tn tc : Nat} {ts : List Int} {r1 r2 r3 s : ByteArray} (hok : In.ok w0 w0.heap.size (⟨46, ia, ib, it, kA, kn, kc, ks, tA, tn, tc, ts, r1, r2, r3, s⟩ : In)) (h1 : kn ≤ 100000) (h2 : tn ≤ 100000) (hra : Rg ia) (hvs : VsIn r.ss) (H : HdSt w0 W b h r lA lc sA sc) (hl : r.ss.length ≤ 900000) :
    Calls Try.prog 25 #[.pointer (some ⟨b, 0, none⟩), .agg #[.int .i64 46, .int .i64 ia, .int .i64 ib, .int .i64 it, .slice kA kn kc, .slice tA tn tc, .string r1, .string r2, .string r3, .string s]] W (HdRet w0 W b h (jumpR (⟨46, ia, ib, it, kA, kn, kc, ks, tA, tn, tc, ts, r1, r2, r3, s⟩ : In) r) lA lc sA sc (.int .i64 (nextR (⟨46, ia, ib, it, kA, kn, kc, ks, tA, tn, tc, ts, r1, r2, r3, s⟩ : In) r h.pc))) := by
  have hb1 := below_al (Below.refl W.heap.size W) (.cells #[.int .i64 46, .int .i64 ia, .int .i64 ib, .int .i64 it, .slice kA kn kc, .slice tA tn tc, .string r1, .string r2, .string r3, .string s] 29)
  have R := World.alloc_heap_new W (.cells #[.int .i64 46, .int .i64 ia, .int .i64 ib, .int .i64 it, .slice kA kn kc, .slice tA tn tc, .string r1, .string r2, .string r3, .string s] 29)
  have HQ := Lib.hid (H.up hb1)
  have hz := lt_heapV H.box
  have hz1 : W.heap.size < (W.alloc (.cells #[.int .i64 46, .int .i64 ia, .int .i64 ib, .int .i64 it, .slice kA kn kc, .slice tA tn tc, .string r1, .string r2, .string r3, .string s] 29)).heap.size := by simp
  have HK1 := Lib.hid (Kb.of_below (b := b) hb1)
  have HOK := Lib.hid hok
  have HVS := Lib.hid hvs
  have HRA := Lib.hid hra
  clear H hok hvs hra
  have HT := Lib.hid (take_any HQ.out 1 (by omega))
  have HL1 := Lib.hid (takeS_len 1 r)
  have HT2 := Lib.hid (fun (W : World) (H : HdSt w0 W b h (takeS 1 r) lA lc sA sc) => take_any H 1 (by have := HL1.out; omega))
  have HS := Lib.hid (show jumpR (⟨46, ia, ib, it, kA, kn, kc, ks, tA, tn, tc, ts, r1, r2, r3, s⟩ : In) r = takeS 1 (takeS 1 r) from rfl)
  have HN := Lib.hid (show nextR (⟨46, ia, ib, it, kA, kn, kc, ks, tA, tn, tc, ts, r1, r2, r3, s⟩ : In) r h.pc = if condV 46 (takeV (takeS 1 r)).2 (takeV r).2 = true then it else wrap64 (h.pc + 1) from rfl)
  obtain ⟨⟨bk, bn⟩, hb⟩ : ∃ x, takeV r = x := ⟨_, rfl⟩
  obtain ⟨⟨ak, an⟩, ha⟩ : ∃ x, takeV (takeS 1 r) = x := ⟨_, rfl⟩
  rw [hb] at HT HN
  rw [ha] at HT2 HN
  clear ha hb
  dsimp only at HT HT2 HN
  have HC := Lib.hid (fun w => rcond_any 46 an bn w)
  obtain ⟨cv, hcv⟩ : ∃ cv, condV 46 an bn = cv := ⟨_, rfl⟩
  obtain ⟨ce, hce⟩ : ∃ ce, condE 46 = ce := ⟨_, rfl⟩
  rw [hcv, hce] at HC
  rw [hcv] at HN
  clear hcv hce
  go_enter Try.func25, Try.ntmps25
  go_upto_region 1 with fail
  generalize W.alloc (.cells #[.int .i64 46, .int .i64 ia, .int .i64 ib, .int .i64 it, .slice kA kn kc, .slice tA tn tc, .string r1, .string r2, .string r3, .string s] 29) = W1 at R HQ HK1 hz1 hb1 HT ⊢
  obtain ⟨q0, q1, q2, q3, q4, q5, q6, q7, q8, q9⟩ := ten_cells R
  have HR := Lib.hid R
  clear hb1
  go_upto_region 13 with (go_at_call 37; refine HT.out.mono ?_; rintro e w2 ⟨rfl, hr2, hk2⟩)
  have x2 := (hk2.block W.heap.size hz1 (by omega)).trans HR.out
  have hb2 := below_al (Below.refl w2.heap.size w2) (.cells #[.int .i64 bk, .int .i64 bn] 42)
  have v2 := World.alloc_heap_new w2 (.cells #[.int .i64 bk, .int .i64 bn] 42)
  have x3 := (hb2.block _ (lt_heapV x2)).trans x2
  have hr3 := hr2.up hb2
  have hk3 := (HK1.out.trans hk2).trans (Kb.of_below hb2)
  have hb2z := lt_heapV hr2.box
  generalize w2.alloc (.cells #[.int .i64 bk, .int .i64 bn] 42) = w3 at v2 x3 hr3 hk3 ⊢
  have hz3 := lt_heapV v2
  have hy3 := lt_heapV x3
  have HT3 := Lib.hid (HT2.out _ hr3)
  clear hb2 q0 q1 q2 q3 q4 q5 q6 q7 q8 q9
  cases cv
  all_goals
    go_wp2_with (first | (go_at_call 37; refine HT3.out.mono ?_; rintro e w4 ⟨rfl, hr4, hk4⟩; have c2 := (nine_cells hr4.box).2.2.1; have yb := lt_heapV hr4.box; have x4 := (hk4.block W.heap.size hy3 (by omega)).trans x3; obtain ⟨q0, q1, q2, q3, q4, q5, q6, q7, q8, q9⟩ := ten_cells x4; have y4 := lt_heapV x4; have v4 := (hk4.block w2.heap.size hz3 (by omega)).trans v2; obtain ⟨u0, u1⟩ := two_cellsV v4; have y5 := lt_heapV v4) | (go_at_call 41; refine (HC.out _).mono ?_; rintro e w' ⟨rfl, rfl⟩))
    go_ret
    rw [HS.out, HN.out]
    have hb9 := below_al (Below.refl w4.heap.size w4) (.cells #[.int .i64 ak, .int .i64 an] 42)
    exact ⟨rfl, hr4.up hb9, (hk3.trans hk4).trans (Kb.of_below hb9)⟩
set_option maxRecDepth 100000 in
set_option maxHeartbeats 1000000 in
theorem jump_47 {w0 W : World} {b : Nat} {h : Hd8} {r : Rs} {lA : Option Addr} {lc : Nat} {sA : Option Addr} {sc : Nat} {ia ib it : Int} {kA : Option Addr} {kn kc : Nat} {ks : List Int} {tA : Option Addr} {tn tc : Nat} {ts : List Int} {r1 r2 r3 s : ByteArray} (hok : In.ok w0 w0.heap.size (⟨47, ia, ib, it, kA, kn, kc, ks, tA, tn, tc, ts, r1, r2, r3, s⟩ : In)) (h1 : kn ≤ 100000) (h2 : tn ≤ 100000) (hra : Rg ia) (hvs : VsIn r.ss) (H : HdSt w0 W b h r lA lc sA sc) (hl : r.ss.length ≤ 900000) :
    Calls Try.prog 25 #[.pointer (some ⟨b, 0, none⟩), .agg #[.int .i64 47, .int .i64 ia, .int .i64 ib, .int .i64 it, .slice kA kn kc, .slice tA tn tc, .string r1, .string r2, .string r3, .string s]] W (HdRet w0 W b h (jumpR (⟨47, ia, ib, it, kA, kn, kc, ks, tA, tn, tc, ts, r1, r2, r3, s⟩ : In) r) lA lc sA sc (.int .i64 (nextR (⟨47, ia, ib, it, kA, kn, kc, ks, tA, tn, tc, ts, r1, r2, r3, s⟩ : In) r h.pc))) := by
  have hb1 := below_al (Below.refl W.heap.size W) (.cells #[.int .i64 47, .int .i64 ia, .int .i64 ib, .int .i64 it, .slice kA kn kc, .slice tA tn tc, .string r1, .string r2, .string r3, .string s] 29)
  have R := World.alloc_heap_new W (.cells #[.int .i64 47, .int .i64 ia, .int .i64 ib, .int .i64 it, .slice kA kn kc, .slice tA tn tc, .string r1, .string r2, .string r3, .string s] 29)
  have HQ := Lib.hid (H.up hb1)
  have hz := lt_heapV H.box
  have hz1 : W.heap.size < (W.alloc (.cells #[.int .i64 47, .int .i64 ia, .int .i64 ib, .int .i64 it, .slice kA kn kc, .slice tA tn tc, .string r1, .string r2, .string r3, .string s] 29)).heap.size := by simp
  have HK1 := Lib.hid (Kb.of_below (b := b) hb1)
  have HOK := Lib.hid hok
  have HVS := Lib.hid hvs
  have HRA := Lib.hid hra
  clear H hok hvs hra
  have HT := Lib.hid (take_any HQ.out 1 (by omega))
  have HL1 := Lib.hid (takeS_len 1 r)
  have HT2 := Lib.hid (fun (W : World) (H : HdSt w0 W b h (takeS 1 r) lA lc sA sc) => take_any H 1 (by have := HL1.out; omega))
  have HS := Lib.hid (show jumpR (⟨47, ia, ib, it, kA, kn, kc, ks, tA, tn, tc, ts, r1, r2, r3, s⟩ : In) r = takeS 1 (takeS 1 r) from rfl)
  have HN := Lib.hid (show nextR (⟨47, ia, ib, it, kA, kn, kc, ks, tA, tn, tc, ts, r1, r2, r3, s⟩ : In) r h.pc = if condV 47 (takeV (takeS 1 r)).2 (takeV r).2 = true then it else wrap64 (h.pc + 1) from rfl)
  obtain ⟨⟨bk, bn⟩, hb⟩ : ∃ x, takeV r = x := ⟨_, rfl⟩
  obtain ⟨⟨ak, an⟩, ha⟩ : ∃ x, takeV (takeS 1 r) = x := ⟨_, rfl⟩
  rw [hb] at HT HN
  rw [ha] at HT2 HN
  clear ha hb
  dsimp only at HT HT2 HN
  have HC := Lib.hid (fun w => rcond_any 47 an bn w)
  obtain ⟨cv, hcv⟩ : ∃ cv, condV 47 an bn = cv := ⟨_, rfl⟩
  obtain ⟨ce, hce⟩ : ∃ ce, condE 47 = ce := ⟨_, rfl⟩
  rw [hcv, hce] at HC
  rw [hcv] at HN
  clear hcv hce
  go_enter Try.func25, Try.ntmps25
  go_upto_region 1 with fail
  generalize W.alloc (.cells #[.int .i64 47, .int .i64 ia, .int .i64 ib, .int .i64 it, .slice kA kn kc, .slice tA tn tc, .string r1, .string r2, .string r3, .string s] 29) = W1 at R HQ HK1 hz1 hb1 HT ⊢
  obtain ⟨q0, q1, q2, q3, q4, q5, q6, q7, q8, q9⟩ := ten_cells R
  have HR := Lib.hid R
  clear hb1
  go_upto_region 13 with (go_at_call 37; refine HT.out.mono ?_; rintro e w2 ⟨rfl, hr2, hk2⟩)
  have x2 := (hk2.block W.heap.size hz1 (by omega)).trans HR.out
  have hb2 := below_al (Below.refl w2.heap.size w2) (.cells #[.int .i64 bk, .int .i64 bn] 42)
  have v2 := World.alloc_heap_new w2 (.cells #[.int .i64 bk, .int .i64 bn] 42)
  have x3 := (hb2.block _ (lt_heapV x2)).trans x2
  have hr3 := hr2.up hb2
  have hk3 := (HK1.out.trans hk2).trans (Kb.of_below hb2)
  have hb2z := lt_heapV hr2.box
  generalize w2.alloc (.cells #[.int .i64 bk, .int .i64 bn] 42) = w3 at v2 x3 hr3 hk3 ⊢
  have hz3 := lt_heapV v2
  have hy3 := lt_heapV x3
  have HT3 := Lib.hid (HT2.out _ hr3)
  clear hb2 q0 q1 q2 q3 q4 q5 q6 q7 q8 q9
  cases cv
  all_goals
    go_wp2_with (first | (go_at_call 37; refine HT3.out.mono ?_; rintro e w4 ⟨rfl, hr4, hk4⟩; have c2 := (nine_cells hr4.box).2.2.1; have yb := lt_heapV hr4.box; have x4 := (hk4.block W.heap.size hy3 (by omega)).trans x3; obtain ⟨q0, q1, q2, q3, q4, q5, q6, q7, q8, q9⟩ := ten_cells x4; have y4 := lt_heapV x4; have v4 := (hk4.block w2.heap.size hz3 (by omega)).trans v2; obtain ⟨u0, u1⟩ := two_cellsV v4; have y5 := lt_heapV v4) | (go_at_call 41; refine (HC.out _).mono ?_; rintro e w' ⟨rfl, rfl⟩))
    go_ret
    rw [HS.out, HN.out]
    have hb9 := below_al (Below.refl w4.heap.size w4) (.cells #[.int .i64 ak, .int .i64 an] 42)
    exact ⟨rfl, hr4.up hb9, (hk3.trans hk4).trans (Kb.of_below hb9)⟩
set_option maxRecDepth 100000 in
set_option maxHeartbeats 1000000 in
theorem jump_48 {w0 W : World} {b : Nat} {h : Hd8} {r : Rs} {lA : Option Addr} {lc : Nat} {sA : Option Addr} {sc : Nat} {ia ib it : Int} {kA : Option Addr} {kn kc : Nat} {ks : List Int} {tA : Option Addr} {tn tc : Nat} {ts : List Int} {r1 r2 r3 s : ByteArray} (hok : In.ok w0 w0.heap.size (⟨48, ia, ib, it, kA, kn, kc, ks, tA, tn, tc, ts, r1, r2, r3, s⟩ : In)) (h1 : kn ≤ 100000) (h2 : tn ≤ 100000) (hra : Rg ia) (hvs : VsIn r.ss) (H : HdSt w0 W b h r lA lc sA sc) (hl : r.ss.length ≤ 900000) :
    Calls Try.prog 25 #[.pointer (some ⟨b, 0, none⟩), .agg #[.int .i64 48, .int .i64 ia, .int .i64 ib, .int .i64 it, .slice kA kn kc, .slice tA tn tc, .string r1, .string r2, .string r3, .string s]] W (HdRet w0 W b h (jumpR (⟨48, ia, ib, it, kA, kn, kc, ks, tA, tn, tc, ts, r1, r2, r3, s⟩ : In) r) lA lc sA sc (.int .i64 (nextR (⟨48, ia, ib, it, kA, kn, kc, ks, tA, tn, tc, ts, r1, r2, r3, s⟩ : In) r h.pc))) := by
  have hb1 := below_al (Below.refl W.heap.size W) (.cells #[.int .i64 48, .int .i64 ia, .int .i64 ib, .int .i64 it, .slice kA kn kc, .slice tA tn tc, .string r1, .string r2, .string r3, .string s] 29)
  have R := World.alloc_heap_new W (.cells #[.int .i64 48, .int .i64 ia, .int .i64 ib, .int .i64 it, .slice kA kn kc, .slice tA tn tc, .string r1, .string r2, .string r3, .string s] 29)
  have HQ := Lib.hid (H.up hb1)
  have hz := lt_heapV H.box
  have hz1 : W.heap.size < (W.alloc (.cells #[.int .i64 48, .int .i64 ia, .int .i64 ib, .int .i64 it, .slice kA kn kc, .slice tA tn tc, .string r1, .string r2, .string r3, .string s] 29)).heap.size := by simp
  have HK1 := Lib.hid (Kb.of_below (b := b) hb1)
  have HOK := Lib.hid hok
  have HVS := Lib.hid hvs
  have HRA := Lib.hid hra
  clear H hok hvs hra
  have HT := Lib.hid (take_any HQ.out 3 (by omega))
  have HL1 := Lib.hid (takeS_len 3 r)
  have HT2 := Lib.hid (fun (W : World) (H : HdSt w0 W b h (takeS 3 r) lA lc sA sc) => take_any H 3 (by have := HL1.out; omega))
  have HS := Lib.hid (show jumpR (⟨48, ia, ib, it, kA, kn, kc, ks, tA, tn, tc, ts, r1, r2, r3, s⟩ : In) r = takeS 3 (takeS 3 r) from rfl)
  have HN := Lib.hid (show nextR (⟨48, ia, ib, it, kA, kn, kc, ks, tA, tn, tc, ts, r1, r2, r3, s⟩ : In) r h.pc = if (((takeV (takeS 3 r)).2 == (takeV r).2) == ((48 : Int) == 48)) = true then it else wrap64 (h.pc + 1) from rfl)
  obtain ⟨⟨bk, bn⟩, hb⟩ : ∃ x, takeV r = x := ⟨_, rfl⟩
  obtain ⟨⟨ak, an⟩, ha⟩ : ∃ x, takeV (takeS 3 r) = x := ⟨_, rfl⟩
  rw [hb] at HT HN
  rw [ha] at HT2 HN
  clear ha hb
  dsimp only at HT HT2 HN
  obtain ⟨cv, hcv⟩ : ∃ cv, (an == bn) = cv := ⟨_, rfl⟩
  rw [hcv] at HN
  go_enter Try.func25, Try.ntmps25
  go_upto_region 1 with fail
  generalize W.alloc (.cells #[.int .i64 48, .int .i64 ia, .int .i64 ib, .int .i64 it, .slice kA kn kc, .slice tA tn tc, .string r1, .string r2, .string r3, .string s] 29) = W1 at R HQ HK1 hz1 hb1 HT ⊢
  obtain ⟨q0, q1, q2, q3, q4, q5, q6, q7, q8, q9⟩ := ten_cells R
  have HR := Lib.hid R
  clear hb1
  go_upto_region 5 with (go_at_call 37; refine HT.out.mono ?_; rintro e w2 ⟨rfl, hr2, hk2⟩)
  have x2 := (hk2.block W.heap.size hz1 (by omega)).trans HR.out
  have hb2 := below_al (Below.refl w2.heap.size w2) (.cells #[.int .i64 bk, .int .i64 bn] 42)
  have v2 := World.alloc_heap_new w2 (.cells #[.int .i64 bk, .int .i64 bn] 42)
  have x3 := (hb2.block _ (lt_heapV x2)).trans x2
  have hr3 := hr2.up hb2
  have hk3 := (HK1.out.trans hk2).trans (Kb.of_below hb2)
  have hb2z := lt_heapV hr2.box
  generalize w2.alloc (.cells #[.int .i64 bk, .int .i64 bn] 42) = w3 at v2 x3 hr3 hk3 ⊢
  have hz3 := lt_heapV v2
  have hy3 := lt_heapV x3
  have HT3 := Lib.hid (HT2.out _ hr3)
  clear hb2 q0 q1 q2 q3 q4 q5 q6 q7 q8 q9
  cases cv
  all_goals
    go_wp2_with (first | (go_at_call 37; refine HT3.out.mono ?_; rintro e w4 ⟨rfl, hr4, hk4⟩; have c2 := (nine_cells hr4.box).2.2.1; have yb := lt_heapV hr4.box; have x4 := (hk4.block W.heap.size hy3 (by omega)).trans x3; obtain ⟨q0, q1, q2, q3, q4, q5, q6, q7, q8, q9⟩ := ten_cells x4; have y4 := lt_heapV x4; have v4 := (hk4.block w2.heap.size hz3 (by omega)).trans v2; obtain ⟨u0, u1⟩ := two_cellsV v4; have y5 := lt_heapV v4) | (go_at_call 41; refine (HC.out _).mono ?_; rintro e w' ⟨rfl, rfl⟩))
    go_ret
    rw [HS.out, HN.out]
    have hb9 := below_al (Below.refl w4.heap.size w4) (.cells #[.int .i64 ak, .int .i64 an] 42)
    exact ⟨rfl, hr4.up hb9, (hk3.trans hk4).trans (Kb.of_below hb9)⟩
set_option maxRecDepth 100000 in
set_option maxHeartbeats 1000000 in
theorem jump_49 {w0 W : World} {b : Nat} {h : Hd8} {r : Rs} {lA : Option Addr} {lc : Nat} {sA : Option Addr} {sc : Nat} {ia ib it : Int} {kA : Option Addr} {kn kc : Nat} {ks : List Int} {tA : Option Addr} {tn tc : Nat} {ts : List Int} {r1 r2 r3 s : ByteArray} (hok : In.ok w0 w0.heap.size (⟨49, ia, ib, it, kA, kn, kc, ks, tA, tn, tc, ts, r1, r2, r3, s⟩ : In)) (h1 : kn ≤ 100000) (h2 : tn ≤ 100000) (hra : Rg ia) (hvs : VsIn r.ss) (H : HdSt w0 W b h r lA lc sA sc) (hl : r.ss.length ≤ 900000) :
    Calls Try.prog 25 #[.pointer (some ⟨b, 0, none⟩), .agg #[.int .i64 49, .int .i64 ia, .int .i64 ib, .int .i64 it, .slice kA kn kc, .slice tA tn tc, .string r1, .string r2, .string r3, .string s]] W (HdRet w0 W b h (jumpR (⟨49, ia, ib, it, kA, kn, kc, ks, tA, tn, tc, ts, r1, r2, r3, s⟩ : In) r) lA lc sA sc (.int .i64 (nextR (⟨49, ia, ib, it, kA, kn, kc, ks, tA, tn, tc, ts, r1, r2, r3, s⟩ : In) r h.pc))) := by
  have hb1 := below_al (Below.refl W.heap.size W) (.cells #[.int .i64 49, .int .i64 ia, .int .i64 ib, .int .i64 it, .slice kA kn kc, .slice tA tn tc, .string r1, .string r2, .string r3, .string s] 29)
  have R := World.alloc_heap_new W (.cells #[.int .i64 49, .int .i64 ia, .int .i64 ib, .int .i64 it, .slice kA kn kc, .slice tA tn tc, .string r1, .string r2, .string r3, .string s] 29)
  have HQ := Lib.hid (H.up hb1)
  have hz := lt_heapV H.box
  have hz1 : W.heap.size < (W.alloc (.cells #[.int .i64 49, .int .i64 ia, .int .i64 ib, .int .i64 it, .slice kA kn kc, .slice tA tn tc, .string r1, .string r2, .string r3, .string s] 29)).heap.size := by simp
  have HK1 := Lib.hid (Kb.of_below (b := b) hb1)
  have HOK := Lib.hid hok
  have HVS := Lib.hid hvs
  have HRA := Lib.hid hra
  clear H hok hvs hra
  have HT := Lib.hid (take_any HQ.out 3 (by omega))
  have HL1 := Lib.hid (takeS_len 3 r)
  have HT2 := Lib.hid (fun (W : World) (H : HdSt w0 W b h (takeS 3 r) lA lc sA sc) => take_any H 3 (by have := HL1.out; omega))
  have HS := Lib.hid (show jumpR (⟨49, ia, ib, it, kA, kn, kc, ks, tA, tn, tc, ts, r1, r2, r3, s⟩ : In) r = takeS 3 (takeS 3 r) from rfl)
  have HN := Lib.hid (show nextR (⟨49, ia, ib, it, kA, kn, kc, ks, tA, tn, tc, ts, r1, r2, r3, s⟩ : In) r h.pc = if (((takeV (takeS 3 r)).2 == (takeV r).2) == ((49 : Int) == 48)) = true then it else wrap64 (h.pc + 1) from rfl)
  obtain ⟨⟨bk, bn⟩, hb⟩ : ∃ x, takeV r = x := ⟨_, rfl⟩
  obtain ⟨⟨ak, an⟩, ha⟩ : ∃ x, takeV (takeS 3 r) = x := ⟨_, rfl⟩
  rw [hb] at HT HN
  rw [ha] at HT2 HN
  clear ha hb
  dsimp only at HT HT2 HN
  obtain ⟨cv, hcv⟩ : ∃ cv, (an == bn) = cv := ⟨_, rfl⟩
  rw [hcv] at HN
  go_enter Try.func25, Try.ntmps25
  go_upto_region 1 with fail
  generalize W.alloc (.cells #[.int .i64 49, .int .i64 ia, .int .i64 ib, .int .i64 it, .slice kA kn kc, .slice tA tn tc, .string r1, .string r2, .string r3, .string s] 29) = W1 at R HQ HK1 hz1 hb1 HT ⊢
  obtain ⟨q0, q1, q2, q3, q4, q5, q6, q7, q8, q9⟩ := ten_cells R
  have HR := Lib.hid R
  clear hb1
  go_upto_region 5 with (go_at_call 37; refine HT.out.mono ?_; rintro e w2 ⟨rfl, hr2, hk2⟩)
  have x2 := (hk2.block W.heap.size hz1 (by omega)).trans HR.out
  have hb2 := below_al (Below.refl w2.heap.size w2) (.cells #[.int .i64 bk, .int .i64 bn] 42)
  have v2 := World.alloc_heap_new w2 (.cells #[.int .i64 bk, .int .i64 bn] 42)
  have x3 := (hb2.block _ (lt_heapV x2)).trans x2
  have hr3 := hr2.up hb2
  have hk3 := (HK1.out.trans hk2).trans (Kb.of_below hb2)
  have hb2z := lt_heapV hr2.box
  generalize w2.alloc (.cells #[.int .i64 bk, .int .i64 bn] 42) = w3 at v2 x3 hr3 hk3 ⊢
  have hz3 := lt_heapV v2
  have hy3 := lt_heapV x3
  have HT3 := Lib.hid (HT2.out _ hr3)
  clear hb2 q0 q1 q2 q3 q4 q5 q6 q7 q8 q9
  cases cv
  all_goals
    go_wp2_with (first | (go_at_call 37; refine HT3.out.mono ?_; rintro e w4 ⟨rfl, hr4, hk4⟩; have c2 := (nine_cells hr4.box).2.2.1; have yb := lt_heapV hr4.box; have x4 := (hk4.block W.heap.size hy3 (by omega)).trans x3; obtain ⟨q0, q1, q2, q3, q4, q5, q6, q7, q8, q9⟩ := ten_cells x4; have y4 := lt_heapV x4; have v4 := (hk4.block w2.heap.size hz3 (by omega)).trans v2; obtain ⟨u0, u1⟩ := two_cellsV v4; have y5 := lt_heapV v4) | (go_at_call 41; refine (HC.out _).mono ?_; rintro e w' ⟨rfl, rfl⟩))
    go_ret
    rw [HS.out, HN.out]
    have hb9 := below_al (Below.refl w4.heap.size w4) (.cells #[.int .i64 ak, .int .i64 an] 42)
    exact ⟨rfl, hr4.up hb9, (hk3.trans hk4).trans (Kb.of_below hb9)⟩
set_option maxRecDepth 100000 in
set_option maxHeartbeats 1000000 in
theorem jump_50 {w0 W : World} {b : Nat} {h : Hd8} {r : Rs} {lA : Option Addr} {lc : Nat} {sA : Option Addr} {sc : Nat} {ia ib it : Int} {kA : Option Addr} {kn kc : Nat} {ks : List Int} {tA : Option Addr} {tn tc : Nat} {ts : List Int} {r1 r2 r3 s : ByteArray} (hok : In.ok w0 w0.heap.size (⟨50, ia, ib, it, kA, kn, kc, ks, tA, tn, tc, ts, r1, r2, r3, s⟩ : In)) (h1 : kn ≤ 100000) (h2 : tn ≤ 100000) (hra : Rg ia) (hvs : VsIn r.ss) (H : HdSt w0 W b h r lA lc sA sc) (hl : r.ss.length ≤ 900000) :
    Calls Try.prog 25 #[.pointer (some ⟨b, 0, none⟩), .agg #[.int .i64 50, .int .i64 ia, .int .i64 ib, .int .i64 it, .slice kA kn kc, .slice tA tn tc, .string r1, .string r2, .string r3, .string s]] W (HdRet w0 W b h (jumpR (⟨50, ia, ib, it, kA, kn, kc, ks, tA, tn, tc, ts, r1, r2, r3, s⟩ : In) r) lA lc sA sc (.int .i64 (nextR (⟨50, ia, ib, it, kA, kn, kc, ks, tA, tn, tc, ts, r1, r2, r3, s⟩ : In) r h.pc))) := by
  have hb1 := below_al (Below.refl W.heap.size W) (.cells #[.int .i64 50, .int .i64 ia, .int .i64 ib, .int .i64 it, .slice kA kn kc, .slice tA tn tc, .string r1, .string r2, .string r3, .string s] 29)
  have R := World.alloc_heap_new W (.cells #[.int .i64 50, .int .i64 ia, .int .i64 ib, .int .i64 it, .slice kA kn kc, .slice tA tn tc, .string r1, .string r2, .string r3, .string s] 29)
  have HQ := Lib.hid (H.up hb1)
  have hz := lt_heapV H.box
  have hz1 : W.heap.size < (W.alloc (.cells #[.int .i64 50, .int .i64 ia, .int .i64 ib, .int .i64 it, .slice kA kn kc, .slice tA tn tc, .string r1, .string r2, .string r3, .string s] 29)).heap.size := by simp
  have HK1 := Lib.hid (Kb.of_below (b := b) hb1)
  have HOK := Lib.hid hok
  have HVS := Lib.hid hvs
  have HRA := Lib.hid hra
  clear H hok hvs hra
  have HT := Lib.hid (take_any HQ.out 3 (by omega))
  have HS := Lib.hid (show jumpR (⟨50, ia, ib, it, kA, kn, kc, ks, tA, tn, tc, ts, r1, r2, r3, s⟩ : In) r = takeS 3 r from rfl)
  have HN := Lib.hid (show nextR (⟨50, ia, ib, it, kA, kn, kc, ks, tA, tn, tc, ts, r1, r2, r3, s⟩ : In) r h.pc = if (((takeV r).2 == 0) == ((50 : Int) == 50)) = true then it else wrap64 (h.pc + 1) from rfl)
  obtain ⟨⟨ak, an⟩, ha⟩ : ∃ x, takeV r = x := ⟨_, rfl⟩
  rw [ha] at HT HN
  clear ha
  dsimp only at HT HN
  obtain ⟨cv, hcv⟩ : ∃ cv, (an == 0) = cv := ⟨_, rfl⟩
  rw [hcv] at HN
  go_enter Try.func25, Try.ntmps25
  go_upto_region 1 with fail
  generalize W.alloc (.cells #[.int .i64 50, .int .i64 ia, .int .i64 ib, .int .i64 it, .slice kA kn kc, .slice tA tn tc, .string r1, .string r2, .string r3, .string s] 29) = W1 at R HQ HK1 hz1 hb1 HT ⊢
  obtain ⟨q0, q1, q2, q3, q4, q5, q6, q7, q8, q9⟩ := ten_cells R
  have HR := Lib.hid R
  clear hb1
  cases cv
  all_goals
    go_wp2_with (first | (go_at_call 37; refine HT.out.mono ?_; rintro e w2 ⟨rfl, hr2, hk2⟩; have c2 := (nine_cells hr2.box).2.2.1; have yb := lt_heapV hr2.box; have x2 := (hk2.block W.heap.size hz1 (by omega)).trans HR.out; obtain ⟨q0, q1, q2, q3, q4, q5, q6, q7, q8, q9⟩ := ten_cells x2; have y2 := lt_heapV x2) | (go_at_call 41; refine (HC.out _).mono ?_; rintro e w' ⟨rfl, rfl⟩))
    go_ret
    rw [HS.out, HN.out]
    have hb9 := below_al (Below.refl w2.heap.size w2) (.cells #[.int .i64 ak, .int .i64 an] 42)
    exact ⟨rfl, hr2.up hb9, (HK1.out.trans hk2).trans (Kb.of_below hb9)⟩
set_option maxRecDepth 100000 in
set_option maxHeartbeats 1000000 in
theorem jump_51 {w0 W : World} {b : Nat} {h : Hd8} {r : Rs} {lA : Option Addr} {lc : Nat} {sA : Option Addr} {sc : Nat} {ia ib it : Int} {kA : Option Addr} {kn kc : Nat} {ks : List Int} {tA : Option Addr} {tn tc : Nat} {ts : List Int} {r1 r2 r3 s : ByteArray} (hok : In.ok w0 w0.heap.size (⟨51, ia, ib, it, kA, kn, kc, ks, tA, tn, tc, ts, r1, r2, r3, s⟩ : In)) (h1 : kn ≤ 100000) (h2 : tn ≤ 100000) (hra : Rg ia) (hvs : VsIn r.ss) (H : HdSt w0 W b h r lA lc sA sc) (hl : r.ss.length ≤ 900000) :
    Calls Try.prog 25 #[.pointer (some ⟨b, 0, none⟩), .agg #[.int .i64 51, .int .i64 ia, .int .i64 ib, .int .i64 it, .slice kA kn kc, .slice tA tn tc, .string r1, .string r2, .string r3, .string s]] W (HdRet w0 W b h (jumpR (⟨51, ia, ib, it, kA, kn, kc, ks, tA, tn, tc, ts, r1, r2, r3, s⟩ : In) r) lA lc sA sc (.int .i64 (nextR (⟨51, ia, ib, it, kA, kn, kc, ks, tA, tn, tc, ts, r1, r2, r3, s⟩ : In) r h.pc))) := by
  have hb1 := below_al (Below.refl W.heap.size W) (.cells #[.int .i64 51, .int .i64 ia, .int .i64 ib, .int .i64 it, .slice kA kn kc, .slice tA tn tc, .string r1, .string r2, .string r3, .string s] 29)
  have R := World.alloc_heap_new W (.cells #[.int .i64 51, .int .i64 ia, .int .i64 ib, .int .i64 it, .slice kA kn kc, .slice tA tn tc, .string r1, .string r2, .string r3, .string s] 29)
  have HQ := Lib.hid (H.up hb1)
  have hz := lt_heapV H.box
  have hz1 : W.heap.size < (W.alloc (.cells #[.int .i64 51, .int .i64 ia, .int .i64 ib, .int .i64 it, .slice kA kn kc, .slice tA tn tc, .string r1, .string r2, .string r3, .string s] 29)).heap.size := by simp
  have HK1 := Lib.hid (Kb.of_below (b := b) hb1)
  have HOK := Lib.hid hok
  have HVS := Lib.hid hvs
  have HRA := Lib.hid hra
  clear H hok hvs hra
  have HT := Lib.hid (take_any HQ.out 3 (by omega))
  have HS := Lib.hid (show jumpR (⟨51, ia, ib, it, kA, kn, kc, ks, tA, tn, tc, ts, r1, r2, r3, s⟩ : In) r = takeS 3 r from rfl)
  have HN := Lib.hid (show nextR (⟨51, ia, ib, it, kA, kn, kc, ks, tA, tn, tc, ts, r1, r2, r3, s⟩ : In) r h.pc = if (((takeV r).2 == 0) == ((51 : Int) == 50)) = true then it else wrap64 (h.pc + 1) from rfl)
  obtain ⟨⟨ak, an⟩, ha⟩ : ∃ x, takeV r = x := ⟨_, rfl⟩
  rw [ha] at HT HN
  clear ha
  dsimp only at HT HN
  obtain ⟨cv, hcv⟩ : ∃ cv, (an == 0) = cv := ⟨_, rfl⟩
  rw [hcv] at HN
  go_enter Try.func25, Try.ntmps25
  go_upto_region 1 with fail
  generalize W.alloc (.cells #[.int .i64 51, .int .i64 ia, .int .i64 ib, .int .i64 it, .slice kA kn kc, .slice tA tn tc, .string r1, .string r2, .string r3, .string s] 29) = W1 at R HQ HK1 hz1 hb1 HT ⊢
  obtain ⟨q0, q1, q2, q3, q4, q5, q6, q7, q8, q9⟩ := ten_cells R
  have HR := Lib.hid R
  clear hb1
  cases cv
  all_goals
    go_wp2_with (first | (go_at_call 37; refine HT.out.mono ?_; rintro e w2 ⟨rfl, hr2, hk2⟩; have c2 := (nine_cells hr2.box).2.2.1; have yb := lt_heapV hr2.box; have x2 := (hk2.block W.heap.size hz1 (by omega)).trans HR.out; obtain ⟨q0, q1, q2, q3, q4, q5, q6, q7, q8, q9⟩ := ten_cells x2; have y2 := lt_heapV x2) | (go_at_call 41; refine (HC.out _).mono ?_; rintro e w' ⟨rfl, rfl⟩))
    go_ret
    rw [HS.out, HN.out]
    have hb9 := below_al (Below.refl w2.heap.size w2) (.cells #[.int .i64 ak, .int .i64 an] 42)
    exact ⟨rfl, hr2.up hb9, (HK1.out.trans hk2).trans (Kb.of_below hb9)⟩
set_option maxRecDepth 100000 in
set_option maxHeartbeats 1000000 in
theorem jump_52 {w0 W : World} {b : Nat} {h : Hd8} {r : Rs} {lA : Option Addr} {lc : Nat} {sA : Option Addr} {sc : Nat} {ia ib it : Int} {kA : Option Addr} {kn kc : Nat} {ks : List Int} {tA : Option Addr} {tn tc : Nat} {ts : List Int} {r1 r2 r3 s : ByteArray} (hok : In.ok w0 w0.heap.size (⟨52, ia, ib, it, kA, kn, kc, ks, tA, tn, tc, ts, r1, r2, r3, s⟩ : In)) (h1 : kn ≤ 100000) (h2 : tn ≤ 100000) (hra : Rg ia) (hvs : VsIn r.ss) (H : HdSt w0 W b h r lA lc sA sc) (hl : r.ss.length ≤ 900000) :
    Calls Try.prog 25 #[.pointer (some ⟨b, 0, none⟩), .agg #[.int .i64 52, .int .i64 ia, .int .i64 ib, .int .i64 it, .slice kA kn kc, .slice tA tn tc, .string r1, .string r2, .string r3, .string s]] W (HdRet w0 W b h (jumpR (⟨52, ia, ib, it, kA, kn, kc, ks, tA, tn, tc, ts, r1, r2, r3, s⟩ : In) r) lA lc sA sc (.int .i64 (nextR (⟨52, ia, ib, it, kA, kn, kc, ks, tA, tn, tc, ts, r1, r2, r3, s⟩ : In) r h.pc))) := by
  have hb1 := below_al (Below.refl W.heap.size W) (.cells #[.int .i64 52, .int .i64 ia, .int .i64 ib, .int .i64 it, .slice kA kn kc, .slice tA tn tc, .string r1, .string r2, .string r3, .string s] 29)
  have R := World.alloc_heap_new W (.cells #[.int .i64 52, .int .i64 ia, .int .i64 ib, .int .i64 it, .slice kA kn kc, .slice tA tn tc, .string r1, .string r2, .string r3, .string s] 29)
  have HQ := Lib.hid (H.up hb1)
  have hz := lt_heapV H.box
  have hz1 : W.heap.size < (W.alloc (.cells #[.int .i64 52, .int .i64 ia, .int .i64 ib, .int .i64 it, .slice kA kn kc, .slice tA tn tc, .string r1, .string r2, .string r3, .string s] 29)).heap.size := by simp
  have HK1 := Lib.hid (Kb.of_below (b := b) hb1)
  have HOK := Lib.hid hok
  have HVS := Lib.hid hvs
  have HRA := Lib.hid hra
  clear H hok hvs hra
  have HS := Lib.hid (show jumpR (⟨52, ia, ib, it, kA, kn, kc, ks, tA, tn, tc, ts, r1, r2, r3, s⟩ : In) r = r from rfl)
  have HN := Lib.hid (show nextR (⟨52, ia, ib, it, kA, kn, kc, ks, tA, tn, tc, ts, r1, r2, r3, s⟩ : In) r h.pc = it from rfl)
  go_enter Try.func25, Try.ntmps25
  go_upto_region 1 with fail
  generalize W.alloc (.cells #[.int .i64 52, .int .i64 ia, .int .i64 ib, .int .i64 it, .slice kA kn kc, .slice tA tn tc, .string r1, .string r2, .string r3, .string s] 29) = W1 at R HQ HK1 hz1 hb1 ⊢
  obtain ⟨q0, q1, q2, q3, q4, q5, q6, q7, q8, q9⟩ := ten_cells R
  have HR := Lib.hid R
  go_wp2
  go_ret
  rw [HS.out, HN.out]
  exact ⟨rfl, HQ.out, HK1.out⟩
set_option maxRecDepth 100000 in
set_option maxHeartbeats 1000000 in
theorem jump_53 {w0 W : World} {b : Nat} {h : Hd8} {r : Rs} {lA : Option Addr} {lc : Nat} {sA : Option Addr} {sc : Nat} {ia ib it : Int} {kA : Option Addr} {kn kc : Nat} {ks : List Int} {tA : Option Addr} {tn tc : Nat} {ts : List Int} {r1 r2 r3 s : ByteArray} (hok : In.ok w0 w0.heap.size (⟨53, ia, ib, it, kA, kn, kc, ks, tA, tn, tc, ts, r1, r2, r3, s⟩ : In)) (h1 : kn ≤ 100000) (h2 : tn ≤ 100000) (hra : Rg ia) (hvs : VsIn r.ss) (H : HdSt w0 W b h r lA lc sA sc) (hl : r.ss.length ≤ 900000) :
    Calls Try.prog 25 #[.pointer (some ⟨b, 0, none⟩), .agg #[.int .i64 53, .int .i64 ia, .int .i64 ib, .int .i64 it, .slice kA kn kc, .slice tA tn tc, .string r1, .string r2, .string r3, .string s]] W (HdRet w0 W b h (jumpR (⟨53, ia, ib, it, kA, kn, kc, ks, tA, tn, tc, ts, r1, r2, r3, s⟩ : In) r) lA lc sA sc (.int .i64 (nextR (⟨53, ia, ib, it, kA, kn, kc, ks, tA, tn, tc, ts, r1, r2, r3, s⟩ : In) r h.pc))) := by
  have hb1 := below_al (Below.refl W.heap.size W) (.cells #[.int .i64 53, .int .i64 ia, .int .i64 ib, .int .i64 it, .slice kA kn kc, .slice tA tn tc, .string r1, .string r2, .string r3, .string s] 29)
  have R := World.alloc_heap_new W (.cells #[.int .i64 53, .int .i64 ia, .int .i64 ib, .int .i64 it, .slice kA kn kc, .slice tA tn tc, .string r1, .string r2, .string r3, .string s] 29)
  have HQ := Lib.hid (H.up hb1)
  have hz := lt_heapV H.box
  have hz1 : W.heap.size < (W.alloc (.cells #[.int .i64 53, .int .i64 ia, .int .i64 ib, .int .i64 it, .slice kA kn kc, .slice tA tn tc, .string r1, .string r2, .string r3, .string s] 29)).heap.size := by simp
  have HK1 := Lib.hid (Kb.of_below (b := b) hb1)
  have HOK := Lib.hid hok
  have HVS := Lib.hid hvs
  have HRA := Lib.hid hra
  clear H hok hvs hra
  have HT := Lib.hid (take_any HQ.out 1 (by omega))
  have HVA := Lib.hid (takeV_rg HVS.out)
  have HS := Lib.hid (show jumpR (⟨53, ia, ib, it, kA, kn, kc, ks, tA, tn, tc, ts, r1, r2, r3, s⟩ : In) r = takeS 1 r from rfl)
  have HN := Lib.hid (show nextR (⟨53, ia, ib, it, kA, kn, kc, ks, tA, tn, tc, ts, r1, r2, r3, s⟩ : In) r h.pc = tabV (⟨53, ia, ib, it, kA, kn, kc, ks, tA, tn, tc, ts, r1, r2, r3, s⟩ : In) (takeV r).2 from rfl)
  obtain ⟨⟨ak, an⟩, ha⟩ : ∃ x, takeV r = x := ⟨_, rfl⟩
  rw [ha] at HT HN HVA
  clear ha
  dsimp only at HT HN HVA
  go_enter Try.func25, Try.ntmps25
  go_upto_region 1 with fail
  generalize W.alloc (.cells #[.int .i64 53, .int .i64 ia, .int .i64 ib, .int .i64 it, .slice kA kn kc, .slice tA tn tc, .string r1, .string r2, .string r3, .string s] 29) = W1 at R HQ HK1 hz1 hb1 HT ⊢
  obtain ⟨q0, q1, q2, q3, q4, q5, q6, q7, q8, q9⟩ := ten_cells R
  have HR := Lib.hid R
  have HTN := Lib.hid (show ts.length = tn from HOK.out.2.2.2.2.1)
  have HTS := Lib.hid (show Row w0 w0.heap.size tA ts from HOK.out.2.2.2.2.2.2.2)
  clear hb1
  go_upto_region 20 with (go_at_call 37; refine HT.out.mono ?_; rintro e w2 ⟨rfl, hr2, hk2⟩)
  have x2 := (hk2.block W.heap.size hz1 (by omega)).trans HR.out
  have hb2 := below_al (Below.refl w2.heap.size w2) (.cells #[.int .i64 ak, .int .i64 an] 42)
  have v2 := World.alloc_heap_new w2 (.cells #[.int .i64 ak, .int .i64 an] 42)
  have x3 := (hb2.block _ (lt_heapV x2)).trans x2
  have hr3 := hr2.up hb2
  have HK3 := Lib.hid ((HK1.out.trans hk2).trans (Kb.of_below hb2))
  generalize w2.alloc (.cells #[.int .i64 ak, .int .i64 an] 42) = w3 at v2 x3 hr3 HK3 ⊢
  have HTS3 := Lib.hid (HTS.out.below hr3.bel)
  have HR3 := Lib.hid hr3
  clear hb2 q0 q1 q2 q3 q4 q5 q6 q7 q8 q9 hr2 hk2
  obtain ⟨q0, q1, q2, q3, q4, q5, q6, q7, q8, q9⟩ := ten_cells x3
  obtain ⟨v0, v1⟩ := two_cellsV v2
  have y3 := lt_heapV x3
  have y4 := lt_heapV v2
  clear x2 x3 v2 hr3
  by_cases hge : ia ≤ an
  · have HN := Lib.hid (show nextR (⟨53, ia, ib, it, kA, kn, kc, ks, tA, tn, tc, ts, r1, r2, r3, s⟩ : In) r h.pc = if an - ia < (tn : Int) then ts.getD (an - ia).toNat 0 else it by
      rw [HN.out]
      show (if ia ≤ an ∧ an - ia < (ts.length : Int) then ts.getD (an - ia).toNat 0 else it) = _
      rw [HTN.out]
      by_cases h9 : an - ia < (tn : Int)
      · rw [if_pos ⟨hge, h9⟩, if_pos h9]
      · rw [if_neg (fun g => h9 g.2), if_neg h9])
    have HG := Lib.hid hge
    go_upto_region 21 with fail
    go_wp2
    go_loopw [13] (fun z wr => ∃ k : Nat, k ≤ tn ∧ z = .int .i64 k ∧ (k : Int) ≤ an - ia ∧ wr = w3) (fun z _ => tn - (intOf z).toNat)
    case atStart => exact ⟨0, Nat.zero_le _, rfl, by omega, rfl⟩
    case round =>
      obtain ⟨k, hk, rfl, hka, rfl⟩ := hrel
      by_cases hlt : k < tn
      · have hk0 : (0 : Int) ≤ (k : Int) := by omega
        have hk1 : (k : Int) < (tn : Int) := by omega
        have hw : IntKind.i64.wrap (an - (k : Int)) = an - (k : Int) := by
          have h1 := HVA.out
          have h2 := HRA.out
          unfold Rg at h1 h2
          rw [IntKind.wrap_i64]
          omega
        by_cases he : ia = an - (k : Int)
        · obtain ⟨x, hx⟩ := get_someF (l := ts) (k := k) (by rw [HTN.out]; exact hlt)
          have HV := Lib.hid (show nextR (⟨53, ia, ib, it, kA, kn, kc, ks, tA, tn, tc, ts, r1, r2, r3, s⟩ : In) r h.pc = x by
            rw [HN.out, if_pos (by omega), show (an - ia).toNat = k by omega, List.getD_eq_getElem?_getD, hx]; rfl)
          rcases HTS3.out with e | ⟨g, o, rfl, hg, hc⟩
          · rw [e] at hx; cases hx
          have hcx := hc k x hx
          have he1 : (ia == an - (k : Int)) = true := by simp [he]
          have HE := Lib.hid he
          clear hc hx he
          go_wp2
          go_ret
          rw [HS.out, HV.out]
          exact ⟨rfl, HR3.out, HK3.out⟩
        · have he1 : (ia == an - (k : Int)) = false := by simpa using he
          go_wp2
          refine ⟨⟨k + 1, hlt, by go_num, by omega, trivial⟩, by simp [intOf]; omega⟩
      · have HV := Lib.hid (show nextR (⟨53, ia, ib, it, kA, kn, kc, ks, tA, tn, tc, ts, r1, r2, r3, s⟩ : In) r h.pc = it by rw [HN.out, if_neg (by omega)])
        have hkn : (tn : Int) ≤ (k : Int) := by omega
        go_wp2
        go_ret
        rw [HS.out, HV.out]
        exact ⟨rfl, HR3.out, HK3.out⟩
  · have HV := Lib.hid (show nextR (⟨53, ia, ib, it, kA, kn, kc, ks, tA, tn, tc, ts, r1, r2, r3, s⟩ : In) r h.pc = it by
      rw [HN.out]
      exact if_neg (fun g => hge g.1))
    have hge2 : an < ia := by omega
    go_wp2
    go_ret
    rw [HS.out, HV.out]
    exact ⟨rfl, HR3.out, HK3.out⟩
set_option maxRecDepth 100000 in
set_option maxHeartbeats 1000000 in
theorem jump_54 {w0 W : World} {b : Nat} {h : Hd8} {r : Rs} {lA : Option Addr} {lc : Nat} {sA : Option Addr} {sc : Nat} {ia ib it : Int} {kA : Option Addr} {kn kc : Nat} {ks : List Int} {tA : Option Addr} {tn tc : Nat} {ts : List Int} {r1 r2 r3 s : ByteArray} (hok : In.ok w0 w0.heap.size (⟨54, ia, ib, it, kA, kn, kc, ks, tA, tn, tc, ts, r1, r2, r3, s⟩ : In)) (h1 : kn ≤ 100000) (h2 : tn ≤ 100000) (hra : Rg ia) (hvs : VsIn r.ss) (H : HdSt w0 W b h r lA lc sA sc) (hl : r.ss.length ≤ 900000) :
    Calls Try.prog 25 #[.pointer (some ⟨b, 0, none⟩), .agg #[.int .i64 54, .int .i64 ia, .int .i64 ib, .int .i64 it, .slice kA kn kc, .slice tA tn tc, .string r1, .string r2, .string r3, .string s]] W (HdRet w0 W b h (jumpR (⟨54, ia, ib, it, kA, kn, kc, ks, tA, tn, tc, ts, r1, r2, r3, s⟩ : In) r) lA lc sA sc (.int .i64 (nextR (⟨54, ia, ib, it, kA, kn, kc, ks, tA, tn, tc, ts, r1, r2, r3, s⟩ : In) r h.pc))) := by
  have hb1 := below_al (Below.refl W.heap.size W) (.cells #[.int .i64 54, .int .i64 ia, .int .i64 ib, .int .i64 it, .slice kA kn kc, .slice tA tn tc, .string r1, .string r2, .string r3, .string s] 29)
  have R := World.alloc_heap_new W (.cells #[.int .i64 54, .int .i64 ia, .int .i64 ib, .int .i64 it, .slice kA kn kc, .slice tA tn tc, .string r1, .string r2, .string r3, .string s] 29)
  have HQ := Lib.hid (H.up hb1)
  have hz := lt_heapV H.box
  have hz1 : W.heap.size < (W.alloc (.cells #[.int .i64 54, .int .i64 ia, .int .i64 ib, .int .i64 it, .slice kA kn kc, .slice tA tn tc, .string r1, .string r2, .string r3, .string s] 29)).heap.size := by simp
  have HK1 := Lib.hid (Kb.of_below (b := b) hb1)
  have HOK := Lib.hid hok
  have HVS := Lib.hid hvs
  have HRA := Lib.hid hra
  clear H hok hvs hra
  have HT := Lib.hid (take_any HQ.out 1 (by omega))
  have HS := Lib.hid (show jumpR (⟨54, ia, ib, it, kA, kn, kc, ks, tA, tn, tc, ts, r1, r2, r3, s⟩ : In) r = takeS 1 r from rfl)
  have HN := Lib.hid (show nextR (⟨54, ia, ib, it, kA, kn, kc, ks, tA, tn, tc, ts, r1, r2, r3, s⟩ : In) r h.pc = lookV (⟨54, ia, ib, it, kA, kn, kc, ks, tA, tn, tc, ts, r1, r2, r3, s⟩ : In) (takeV r).2 from rfl)
  generalize nextR (⟨54, ia, ib, it, kA, kn, kc, ks, tA, tn, tc, ts, r1, r2, r3, s⟩ : In) r h.pc = nv at HN ⊢
  generalize jumpR (⟨54, ia, ib, it, kA, kn, kc, ks, tA, tn, tc, ts, r1, r2, r3, s⟩ : In) r = js at HS ⊢
  obtain ⟨⟨ak, an⟩, ha⟩ : ∃ x, takeV r = x := ⟨_, rfl⟩
  rw [ha] at HT HN
  clear ha
  dsimp only at HT HN
  go_enter Try.func25, Try.ntmps25
  go_upto_region 1 with fail
  generalize W.alloc (.cells #[.int .i64 54, .int .i64 ia, .int .i64 ib, .int .i64 it, .slice kA kn kc, .slice tA tn tc, .string r1, .string r2, .string r3, .string s] 29) = W1 at R HQ HK1 hz1 hb1 HT ⊢
  obtain ⟨q0, q1, q2, q3, q4, q5, q6, q7, q8, q9⟩ := ten_cells R
  have HR := Lib.hid R
  have HTN := Lib.hid (show ts.length = tn from HOK.out.2.2.2.2.1)
  have HTS := Lib.hid (show Row w0 w0.heap.size tA ts from HOK.out.2.2.2.2.2.2.2)
  have HKN := Lib.hid (show ks.length = kn from HOK.out.1)
  have HKS := Lib.hid (show Row w0 w0.heap.size kA ks from HOK.out.2.2.2.1)
  clear hb1
  go_upto_region 28 with (go_at_call 37; refine HT.out.mono ?_; rintro e w2 ⟨rfl, hr2, hk2⟩)
  have x2 := (hk2.block W.heap.size hz1 (by omega)).trans HR.out
  have hb2 := below_al (Below.refl w2.heap.size w2) (.cells #[.int .i64 ak, .int .i64 an] 42)
  have v2 := World.alloc_heap_new w2 (.cells #[.int .i64 ak, .int .i64 an] 42)
  have x3 := (hb2.block _ (lt_heapV x2)).trans x2
  have hr3 := hr2.up hb2
  have HK3 := Lib.hid ((HK1.out.trans hk2).trans (Kb.of_below hb2))
  generalize w2.alloc (.cells #[.int .i64 ak, .int .i64 an] 42) = w3 at v2 x3 hr3 HK3 ⊢
  have HTS3 := Lib.hid (HTS.out.below hr3.bel)
  have HR3 := Lib.hid hr3
  clear hb2 q0 q1 q2 q3 q4 q5 q6 q7 q8 q9 hr2 hk2
  obtain ⟨q0, q1, q2, q3, q4, q5, q6, q7, q8, q9⟩ := ten_cells x3
  obtain ⟨v0, v1⟩ := two_cellsV v2
  have y3 := lt_heapV x3
  have y4 := lt_heapV v2
  clear x2 x3 v2 hr3
  have HKS3 := Lib.hid (HKS.out.below HR3.out.bel)
  have HNV := Lib.hid (show nv = if ixF ks an < kn ∧ ixF ks an < tn then ts.getD (ixF ks an) 0 else it by
    rw [HN.out]
    show (if ixF ks an < ks.length ∧ ixF ks an < ts.length then ts.getD (ixF ks an) 0 else it) = _
    rw [HTN.out, HKN.out])
  go_wp2
  go_loopw [15] (fun z wr => ∃ k q : Nat, k ≤ ixF ks an ∧ z = .int .i64 k ∧ wr = w3.drewN q) (fun z _ => kn - (intOf z).toNat)
  case atStart => exact ⟨0, 0, Nat.zero_le _, rfl, rfl⟩
  case round =>
    obtain ⟨k, q, hk, rfl, rfl⟩ := hrel
    have hle := ixF_le ks an
    rw [HKN.out] at hle
    by_cases hlt : k < kn
    · obtain ⟨x, hx⟩ := get_someF (l := ks) (k := k) (by rw [HKN.out]; exact hlt)
      have hk0 : (0 : Int) ≤ (k : Int) := by omega
      have hk1 : (k : Int) < (kn : Int) := by omega
      have hcx : ∃ g o, kA = some ⟨g, o, none⟩ ∧ g < w0.heap.size ∧ w3.cell? ⟨g, o + k, none⟩ = some (.int .i64 x) := by
        rcases HKS3.out with e | ⟨g, o, hA, hg, hc⟩
        · rw [e] at hx; cases hx
        · exact ⟨g, o, hA, hg, hc k x hx⟩
      obtain ⟨g, o, rfl, hg, hcx⟩ := hcx
      by_cases he : x = an
      · have hI : ixF ks an = k := ixF_here hk (by rw [hx, he])
        have he1 : (x == an) = true := by simp [he]
        have HE := Lib.hid he
        have HX := Lib.hid hx
        rw [hI] at HNV
        have HI := Lib.hid hI
        clear hI hx he hk hle
        by_cases ht : k < tn
        · obtain ⟨y, hy⟩ := get_someF (l := ts) (k := k) (by rw [HTN.out]; exact ht)
          have HV := Lib.hid (show nv = y by
            rw [HNV.out, if_pos ⟨hlt, ht⟩, List.getD_eq_getElem?_getD, hy]; rfl)
          have hcy : ∃ g o, tA = some ⟨g, o, none⟩ ∧ g < w0.heap.size ∧ w3.cell? ⟨g, o + k, none⟩ = some (.int .i64 y) := by
            rcases HTS3.out with e | ⟨g, o, hA, hg, hc⟩
            · rw [e] at hy; cases hy
            · exact ⟨g, o, hA, hg, hc k y hy⟩
          obtain ⟨g2, o2, rfl, hg2, hcy⟩ := hcy
          have ht1 : (k : Int) < (tn : Int) := by omega
          clear hy
          go_wp2
          go_quiet (fail)
          go_wp2
          go_ret
          rw [HS.out, HV.out]
          exact ⟨rfl, HR3.out.up (below_dr (Below.refl _ _) _), HK3.out.trans (Kb.of_below (below_dr (Below.refl _ _) _))⟩
        · have HV := Lib.hid (show nv = it by rw [HNV.out, if_neg (fun g => ht g.2)])
          have ht1 : (tn : Int) ≤ (k : Int) := by omega
          go_wp2
          go_quiet (fail)
          go_wp2
          go_quiet (fail)
          go_wp2
          go_ret
          rw [HS.out, HV.out]
          exact ⟨rfl, HR3.out.up (below_dr (Below.refl _ _) _), HK3.out.trans (Kb.of_below (below_dr (Below.refl _ _) _))⟩
      · have he1 : (x == an) = false := by simpa using he
        have hnx := ixF_next hk hx he
        have HK := Lib.hid hnx
        clear hx hk hnx hle
        go_wp2
        go_quiet (fail)
        go_wp2
        go_quiet (fail)
        go_wp2
        refine ⟨⟨k + 1, _, HK.out, by go_num, rfl⟩, by simp [intOf]; omega⟩
    · have HV := Lib.hid (show nv = it by rw [HNV.out, if_neg (fun g => by have := g.1; omega)])
      have hkn : (kn : Int) ≤ (k : Int) := by omega
      go_wp2
      go_ret
      rw [HS.out, HV.out]
      exact ⟨rfl, HR3.out.up (below_dr (Below.refl _ _) _), HK3.out.trans (Kb.of_below (below_dr (Below.refl _ _) _))⟩
theorem jump_any {w0 W : World} {b : Nat} {h : Hd8} {r : Rs} {lA : Option Addr} {lc : Nat} {sA : Option Addr} {sc : Nat} (i : In) (ho : 36 ≤ i.op ∧ i.op ≤ 54) (hok : i.ok w0 w0.heap.size) (h1 : i.kn ≤ 100000) (h2 : i.tn ≤ 100000) (hra : Rg i.a) (hvs : VsIn r.ss) (H : HdSt w0 W b h r lA lc sA sc) (hl : r.ss.length ≤ 900000) :
    Calls Try.prog 25 #[.pointer (some ⟨b, 0, none⟩), (Value.agg #[Value.int IntKind.i64 (In.op i), Value.int IntKind.i64 (In.a i), Value.int IntKind.i64 (In.b i), Value.int IntKind.i64 (In.t i), Value.slice (In.kA i) (In.kn i) (In.kc i), Value.slice (In.tA i) (In.tn i) (In.tc i), Value.string (In.r1 i), Value.string (In.r2 i), Value.string (In.r3 i), Value.string (In.s i)])] W (HdRet w0 W b h (jumpR i r) lA lc sA sc (.int .i64 (nextR i r h.pc))) := by
  obtain ⟨op, ia, ib, it, kA, kn, kc, ks, tA, tn, tc, ts, r1, r2, r3, s⟩ := i
  dsimp only at ho h1 h2 hra ⊢
  have hc : op = 36 ∨ op = 37 ∨ op = 38 ∨ op = 39 ∨ op = 40 ∨ op = 41 ∨ op = 42 ∨ op = 43 ∨ op = 44 ∨ op = 45 ∨ op = 46 ∨ op = 47 ∨ op = 48 ∨ op = 49 ∨ op = 50 ∨ op = 51 ∨ op = 52 ∨ op = 53 ∨ op = 54 := by omega
  rcases hc with e | e | e | e | e | e | e | e | e | e | e | e | e | e | e | e | e | e | e <;> subst e
  · exact jump_36 hok h1 h2 hra hvs H hl
  · exact jump_37 hok h1 h2 hra hvs H hl
  · exact jump_38 hok h1 h2 hra hvs H hl
  · exact jump_39 hok h1 h2 hra hvs H hl
  · exact jump_40 hok h1 h2 hra hvs H hl
  · exact jump_41 hok h1 h2 hra hvs H hl
  · exact jump_42 hok h1 h2 hra hvs H hl
  · exact jump_43 hok h1 h2 hra hvs H hl
  · exact jump_44 hok h1 h2 hra hvs H hl
  · exact jump_45 hok h1 h2 hra hvs H hl
  · exact jump_46 hok h1 h2 hra hvs H hl
  · exact jump_47 hok h1 h2 hra hvs H hl
  · exact jump_48 hok h1 h2 hra hvs H hl
  · exact jump_49 hok h1 h2 hra hvs H hl
  · exact jump_50 hok h1 h2 hra hvs H hl
  · exact jump_51 hok h1 h2 hra hvs H hl
  · exact jump_52 hok h1 h2 hra hvs H hl
  · exact jump_53 hok h1 h2 hra hvs H hl
  · exact jump_54 hok h1 h2 hra hvs H hl
end Go.Proofs.Ytgiglbjkijlchaa
