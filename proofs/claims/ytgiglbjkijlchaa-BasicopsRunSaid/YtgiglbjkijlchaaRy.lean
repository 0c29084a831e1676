/- Layer 42: the reference's plain (written by gen/bopl.py). -/
import Derived.Test.YtgiglbjkijlchaaRx
namespace Go.Proofs.Ytgiglbjkijlchaa
open Go.ChangeShapes Go.WideShapes Go.ChangeAt Go.RowKit Go.PlainAid
set_option linter.unusedSimpArgs false
set_option linter.unusedVariables false

/-- the hand, come from r0 at W to r at W1 -/
structure Hq (w0 W : World) (b : Nat) (h : Hd8) (r0 : Rs) (lA sA : Option Addr) (W1 : World) (r : Rs) : Prop where
  kb : Kb W W1 b
  st : ∃ lA' lc' sA' sc', HdSt w0 W1 b h r lA' lc' sA' sc' ∧ Nz W lA r0.ls lA' r.ls ∧ Nz W sA r0.ss sA' r.ss
theorem Hq.ex {w0 W W1 : World} {b : Nat} {h : Hd8} {r0 r : Rs} {lA sA : Option Addr} {v : Value} (H : Hq w0 W b h r0 lA sA W1 r) : HdEx w0 W b h r0 r lA sA v (.returned v) W1 := ⟨rfl, H.kb, H.st⟩
theorem Hq.refl {w0 W : World} {b : Nat} {h : Hd8} {r : Rs} {lA : Option Addr} {lc : Nat} {sA : Option Addr} {sc : Nat} (H : HdSt w0 W b h r lA lc sA sc) : Hq w0 W b h r lA sA W r := ⟨Kb.of_below (Below.refl _ _), _, _, _, _, H, Nz.refl _ _ _, Nz.refl _ _ _⟩
theorem Hq.up {w0 W W1 : World} {b : Nat} {h : Hd8} {r0 r : Rs} {lA sA : Option Addr} {W2 : World} (H : Hq w0 W b h r0 lA sA W1 r) (hb : Below W1.heap.size W1 W2) : Hq w0 W b h r0 lA sA W2 r := by
  obtain ⟨hk, x1, x2, x3, x4, h1, h2, h3⟩ := H
  exact ⟨hk.trans (Kb.of_below hb), x1, x2, x3, x4, h1.up hb, h2, h3⟩
theorem Hq.lt {w0 W W1 : World} {b : Nat} {h : Hd8} {r0 r : Rs} {lA sA : Option Addr} (H : Hq w0 W b h r0 lA sA W1 r) : b < W1.heap.size := by
  obtain ⟨hk, x1, x2, x3, x4, h1, h2, h3⟩ := H
  exact lt_heapV h1.box
theorem Hq.box {w0 W W1 : World} {b : Nat} {h : Hd8} {r0 r : Rs} {lA sA : Option Addr} (H : Hq w0 W b h r0 lA sA W1 r) : ∃ l s, W1.heap[b]? = some (Obj.cells #[Value.int IntKind.i64 (Hd8.cl h), Value.int IntKind.i64 (Hd8.me h), Value.int IntKind.i64 (Hd8.pc h), l, s, Value.int IntKind.i64 (Hd8.lk h), Value.bool (Hd8.ii h), Value.bool (Hd8.dr h), Value.int IntKind.i64 r.e] 56) := by
  obtain ⟨hk, x1, x2, x3, x4, h1, h2, h3⟩ := H
  exact ⟨_, _, h1.box⟩
def QR (w0 W : World) (b : Nat) (h : Hd8) (r0 : Rs) (lA sA : Option Addr) (W1 : World) (r : Rs) (v : Value) (e : Ending) (w' : World) : Prop := e = .returned v ∧ Hq w0 W b h r0 lA sA w' r ∧ Kb W1 w' b
theorem qr_ret {w0 W W1 : World} {b : Nat} {h : Hd8} {r0 r : Rs} {lA sA : Option Addr} {r' : Rs} {lA1 : Option Addr} {lc1 : Nat} {sA1 : Option Addr} {sc1 : Nat} {v : Value} {e : Ending} {w' : World} (hk : Kb W W1 b) (n1 : Nz W lA r0.ls lA1 r.ls) (n2 : Nz W sA r0.ss sA1 r.ss) (hl : r.ls = [] → r'.ls = []) (hs : r.ss = [] → r'.ss = []) (H : HdRet w0 W1 b h r' lA1 lc1 sA1 sc1 v e w') : QR w0 W b h r0 lA sA W1 r' v e w' :=
  ⟨H.1, ⟨hk.trans H.2.2, _, _, _, _, H.2.1, n1.trans hk.size (Or.inl ⟨rfl, hl⟩), n2.trans hk.size (Or.inl ⟨rfl, hs⟩)⟩, H.2.2⟩
theorem qr_ex {w0 W W1 : World} {b : Nat} {h : Hd8} {r0 r : Rs} {lA sA : Option Addr} {r' : Rs} {lA1 sA1 : Option Addr} {v : Value} {e : Ending} {w' : World} (hk : Kb W W1 b) (n1 : Nz W lA r0.ls lA1 r.ls) (n2 : Nz W sA r0.ss sA1 r.ss) (H : HdEx w0 W1 b h r r' lA1 sA1 v e w') : QR w0 W b h r0 lA sA W1 r' v e w' := by
  obtain ⟨he, k2, x1, x2, x3, x4, h1, h2, h3⟩ := H
  exact ⟨he, ⟨hk.trans k2, _, _, _, _, h1, n1.trans hk.size h2, n2.trans hk.size h3⟩, k2⟩
theorem take_q {w0 W W1 : World} {b : Nat} {h : Hd8} {r0 r : Rs} {lA sA : Option Addr} (H : Hq w0 W b h r0 lA sA W1 r) (k : Int) (hl : r.ss.length ≤ 1000000) :
    Calls Try.prog 37 #[.pointer (some ⟨b, 0, none⟩), .int .i64 k] W1 (QR w0 W b h r0 lA sA W1 (takeS k r) (.agg #[.int .i64 (takeV r).1, .int .i64 (takeV r).2])) := by
  obtain ⟨hk, x1, x2, x3, x4, h1, h2, h3⟩ := H
  exact (take_any h1 k hl).mono fun e w' h => qr_ret hk h2 h3 (fun g => by rw [takeS_ls]; exact g) (fun g => takeS_nil g) h
theorem put_q {w0 W W1 : World} {b : Nat} {h : Hd8} {r0 r : Rs} {lA sA : Option Addr} (H : Hq w0 W b h r0 lA sA W1 r) (k n : Int) (hl : r.ss.length ≤ 1000000) :
    Calls Try.prog 40 #[.pointer (some ⟨b, 0, none⟩), .int .i64 k, .int .i64 n] W1 (QR w0 W b h r0 lA sA W1 (putS k n r) (.tuple #[])) := by
  obtain ⟨hk, x1, x2, x3, x4, h1, h2, h3⟩ := H
  exact (put_any h1 k n hl).mono fun e w' h => qr_ex hk h2 h3 h
theorem back_q {w0 W W1 : World} {b : Nat} {h : Hd8} {r0 r : Rs} {lA sA : Option Addr} (H : Hq w0 W b h r0 lA sA W1 r) (k n : Int) (hl : r.ss.length ≤ 1000000) :
    Calls Try.prog 42 #[.pointer (some ⟨b, 0, none⟩), .agg #[.int .i64 k, .int .i64 n]] W1 (QR w0 W b h r0 lA sA W1 (putS k n r) (.tuple #[])) := by
  obtain ⟨hk, x1, x2, x3, x4, h1, h2, h3⟩ := H
  exact (back_any h1 k n hl).mono fun e w' h => qr_ex hk h2 h3 h
theorem hloc_q {w0 W W1 : World} {b : Nat} {h : Hd8} {r0 r : Rs} {lA sA : Option Addr} (i : In) (k : Int) (H : Hq w0 W b h r0 lA sA W1 r) (hl : r.ls.length ≤ 1000000) :
    Calls Try.prog 43 #[.pointer (some ⟨b, 0, none⟩), (Value.agg #[Value.int IntKind.i64 (In.op i), Value.int IntKind.i64 (In.a i), Value.int IntKind.i64 (In.b i), Value.int IntKind.i64 (In.t i), Value.slice (In.kA i) (In.kn i) (In.kc i), Value.slice (In.tA i) (In.tn i) (In.tc i), Value.string (In.r1 i), Value.string (In.r2 i), Value.string (In.r3 i), Value.string (In.s i)]), .int .i64 k] W1 (QR w0 W b h r0 lA sA W1 (locRS i.a k r) (.agg #[.int .i64 (locRV i.a r).1, .int .i64 (locRV i.a r).2])) := by
  obtain ⟨hk, x1, x2, x3, x4, h1, h2, h3⟩ := H
  exact (hloc_any i k h1 hl).mono fun e w' h => qr_ret hk h2 h3 (fun g => by rw [locRS_ls]; exact g) (fun g => by rw [locRS_ss]; exact g) h
theorem hset_q {w0 W W1 : World} {b : Nat} {h : Hd8} {r0 r : Rs} {lA sA : Option Addr} (i : In) (x y : Int) (H : Hq w0 W b h r0 lA sA W1 r) (hl : r.ls.length ≤ 1000000) :
    Calls Try.prog 45 #[.pointer (some ⟨b, 0, none⟩), (Value.agg #[Value.int IntKind.i64 (In.op i), Value.int IntKind.i64 (In.a i), Value.int IntKind.i64 (In.b i), Value.int IntKind.i64 (In.t i), Value.slice (In.kA i) (In.kn i) (In.kc i), Value.slice (In.tA i) (In.tn i) (In.tc i), Value.string (In.r1 i), Value.string (In.r2 i), Value.string (In.r3 i), Value.string (In.s i)]), .agg #[.int .i64 x, .int .i64 y]] W1 (QR w0 W b h r0 lA sA W1 (setRS i.a (x, y) r) (.tuple #[])) := by
  obtain ⟨hk, x1, x2, x3, x4, h1, h2, h3⟩ := H
  exact (hset_any i x y h1 hl).mono fun e w' h => qr_ex hk h2 h3 h
theorem putS_len (k n : Int) (r : Rs) : (putS k n r).ss.length ≤ r.ss.length + 1 := by
  unfold putS pushS
  split
  · simp
  · omega
theorem take_len {k : Int} {r : Rs} {m : Nat} (h : r.ss.length ≤ m) : (takeS k r).ss.length ≤ m := Nat.le_trans (takeS_len k r) h
theorem put_len {k n : Int} {r : Rs} {m : Nat} (h : r.ss.length ≤ m) : (putS k n r).ss.length ≤ m + 1 := Nat.le_trans (putS_len k n r) (by omega)
set_option maxRecDepth 100000 in
set_option maxHeartbeats 1000000 in
theorem plain_0 {w0 W : World} {b : Nat} {h : Hd8} {r : Rs} {lA : Option Addr} {lc : Nat} {sA : Option Addr} {sc : Nat} {ia ib it : Int} {kA : Option Addr} {kn kc : Nat} {ks : List Int} {tA : Option Addr} {tn tc : Nat} {ts : List Int} {r1 r2 r3 s : ByteArray} (H : HdSt w0 W b h r lA lc sA sc) (hl : r.ss.length ≤ 900000) (hll : r.ls.length ≤ 1000000) :
    Calls Try.prog 26 #[.pointer (some ⟨b, 0, none⟩), .agg #[.int .i64 0, .int .i64 ia, .int .i64 ib, .int .i64 it, .slice kA kn kc, .slice tA tn tc, .string r1, .string r2, .string r3, .string s]] W (HdEx w0 W b h r (plainR (⟨0, ia, ib, it, kA, kn, kc, ks, tA, tn, tc, ts, r1, r2, r3, s⟩ : In) r) lA sA (.tuple #[])) := by
  have hb1 := below_al (Below.refl W.heap.size W) (.cells #[.int .i64 0, .int .i64 ia, .int .i64 ib, .int .i64 it, .slice kA kn kc, .slice tA tn tc, .string r1, .string r2, .string r3, .string s] 29)
  have R := World.alloc_heap_new W (.cells #[.int .i64 0, .int .i64 ia, .int .i64 ib, .int .i64 it, .slice kA kn kc, .slice tA tn tc, .string r1, .string r2, .string r3, .string s] 29)
  have HQ := Lib.hid ((Hq.refl H).up hb1)
  have hz := lt_heapV H.box
  have hz1 : W.heap.size < (W.alloc (.cells #[.int .i64 0, .int .i64 ia, .int .i64 ib, .int .i64 it, .slice kA kn kc, .slice tA tn tc, .string r1, .string r2, .string r3, .string s] 29)).heap.size := by simp
  clear H
  go_enter Try.func26, Try.ntmps26
  go_upto_region 1 with fail
  generalize W.alloc (.cells #[.int .i64 0, .int .i64 ia, .int .i64 ib, .int .i64 it, .slice kA kn kc, .slice tA tn tc, .string r1, .string r2, .string r3, .string s] 29) = W1 at R HQ hz1 ⊢
  obtain ⟨q0, q1, q2, q3, q4, q5, q6, q7, q8, q9⟩ := ten_cells R
  have HR := Lib.hid R
  clear hb1
  have HS := Lib.hid (show plainR (⟨0, ia, ib, it, kA, kn, kc, ks, tA, tn, tc, ts, r1, r2, r3, s⟩ : In) r = r from rfl)
  go_wp2
  go_end0
  rw [HS.out]
  exact HQ.out.ex
set_option maxRecDepth 100000 in
set_option maxHeartbeats 1000000 in
theorem plain_1 {w0 W : World} {b : Nat} {h : Hd8} {r : Rs} {lA : Option Addr} {lc : Nat} {sA : Option Addr} {sc : Nat} {ia ib it : Int} {kA : Option Addr} {kn kc : Nat} {ks : List Int} {tA : Option Addr} {tn tc : Nat} {ts : List Int} {r1 r2 r3 s : ByteArray} (H : HdSt w0 W b h r lA lc sA sc) (hl : r.ss.length ≤ 900000) (hll : r.ls.length ≤ 1000000) :
    Calls Try.prog 26 #[.pointer (some ⟨b, 0, none⟩), .agg #[.int .i64 1, .int .i64 ia, .int .i64 ib, .int .i64 it, .slice kA kn kc, .slice tA tn tc, .string r1, .string r2, .string r3, .string s]] W (HdEx w0 W b h r (plainR (⟨1, ia, ib, it, kA, kn, kc, ks, tA, tn, tc, ts, r1, r2, r3, s⟩ : In) r) lA sA (.tuple #[])) := by
  have hb1 := below_al (Below.refl W.heap.size W) (.cells #[.int .i64 1, .int .i64 ia, .int .i64 ib, .int .i64 it, .slice kA kn kc, .slice tA tn tc, .string r1, .string r2, .string r3, .string s] 29)
  have R := World.alloc_heap_new W (.cells #[.int .i64 1, .int .i64 ia, .int .i64 ib, .int .i64 it, .slice kA kn kc, .slice tA tn tc, .string r1, .string r2, .string r3, .string s] 29)
  have HQ := Lib.hid ((Hq.refl H).up hb1)
  have hz := lt_heapV H.box
  have hz1 : W.heap.size < (W.alloc (.cells #[.int .i64 1, .int .i64 ia, .int .i64 ib, .int .i64 it, .slice kA kn kc, .slice tA tn tc, .string r1, .string r2, .string r3, .string s] 29)).heap.size := by simp
  clear H
  go_enter Try.func26, Try.ntmps26
  go_upto_region 1 with fail
  generalize W.alloc (.cells #[.int .i64 1, .int .i64 ia, .int .i64 ib, .int .i64 it, .slice kA kn kc, .slice tA tn tc, .string r1, .string r2, .string r3, .string s] 29) = W1 at R HQ hz1 ⊢
  obtain ⟨q0, q1, q2, q3, q4, q5, q6, q7, q8, q9⟩ := ten_cells R
  have HR := Lib.hid R
  clear hb1
  have HS := Lib.hid (show plainR (⟨1, ia, ib, it, kA, kn, kc, ks, tA, tn, tc, ts, r1, r2, r3, s⟩ : In) r = putS 3 0 r from rfl)
  go_wp2_with (go_at_call 40; refine (put_q HQ.out 3 0 (by omega)).mono ?_; rintro e w2 ⟨rfl, hq2, hk2⟩)
  go_end0
  rw [HS.out]
  exact hq2.ex
set_option maxRecDepth 100000 in
set_option maxHeartbeats 1000000 in
theorem plain_2 {w0 W : World} {b : Nat} {h : Hd8} {r : Rs} {lA : Option Addr} {lc : Nat} {sA : Option Addr} {sc : Nat} {ia ib it : Int} {kA : Option Addr} {kn kc : Nat} {ks : List Int} {tA : Option Addr} {tn tc : Nat} {ts : List Int} {r1 r2 r3 s : ByteArray} (H : HdSt w0 W b h r lA lc sA sc) (hl : r.ss.length ≤ 900000) (hll : r.ls.length ≤ 1000000) :
    Calls Try.prog 26 #[.pointer (some ⟨b, 0, none⟩), .agg #[.int .i64 2, .int .i64 ia, .int .i64 ib, .int .i64 it, .slice kA kn kc, .slice tA tn tc, .string r1, .string r2, .string r3, .string s]] W (HdEx w0 W b h r (plainR (⟨2, ia, ib, it, kA, kn, kc, ks, tA, tn, tc, ts, r1, r2, r3, s⟩ : In) r) lA sA (.tuple #[])) := by
  have hb1 := below_al (Below.refl W.heap.size W) (.cells #[.int .i64 2, .int .i64 ia, .int .i64 ib, .int .i64 it, .slice kA kn kc, .slice tA tn tc, .string r1, .string r2, .string r3, .string s] 29)
  have R := World.alloc_heap_new W (.cells #[.int .i64 2, .int .i64 ia, .int .i64 ib, .int .i64 it, .slice kA kn kc, .slice tA tn tc, .string r1, .string r2, .string r3, .string s] 29)
  have HQ := Lib.hid ((Hq.refl H).up hb1)
  have hz := lt_heapV H.box
  have hz1 : W.heap.size < (W.alloc (.cells #[.int .i64 2, .int .i64 ia, .int .i64 ib, .int .i64 it, .slice kA kn kc, .slice tA tn tc, .string r1, .string r2, .string r3, .string s] 29)).heap.size := by simp
  clear H
  go_enter Try.func26, Try.ntmps26
  go_upto_region 1 with fail
  generalize W.alloc (.cells #[.int .i64 2, .int .i64 ia, .int .i64 ib, .int .i64 it, .slice kA kn kc, .slice tA tn tc, .string r1, .string r2, .string r3, .string s] 29) = W1 at R HQ hz1 ⊢
  obtain ⟨q0, q1, q2, q3, q4, q5, q6, q7, q8, q9⟩ := ten_cells R
  have HR := Lib.hid R
  clear hb1
  have HS := Lib.hid (show plainR (⟨2, ia, ib, it, kA, kn, kc, ks, tA, tn, tc, ts, r1, r2, r3, s⟩ : In) r = putS 1 ia r from rfl)
  go_wp2_with (go_at_call 40; refine (put_q HQ.out 1 ia (by omega)).mono ?_; rintro e w2 ⟨rfl, hq2, hk2⟩)
  go_end0
  rw [HS.out]
  exact hq2.ex
set_option maxRecDepth 100000 in
set_option maxHeartbeats 1000000 in
theorem plain_3_3 {w0 W : World} {b : Nat} {h : Hd8} {r : Rs} {lA : Option Addr} {lc : Nat} {sA : Option Addr} {sc : Nat} {ia ib it : Int} {kA : Option Addr} {kn kc : Nat} {ks : List Int} {tA : Option Addr} {tn tc : Nat} {ts : List Int} {r1 r2 r3 s : ByteArray} (hbb : ib = 3) (H : HdSt w0 W b h r lA lc sA sc) (hl : r.ss.length ≤ 900000) (hll : r.ls.length ≤ 1000000) :
    Calls Try.prog 26 #[.pointer (some ⟨b, 0, none⟩), .agg #[.int .i64 3, .int .i64 ia, .int .i64 ib, .int .i64 it, .slice kA kn kc, .slice tA tn tc, .string r1, .string r2, .string r3, .string s]] W (HdEx w0 W b h r (plainR (⟨3, ia, ib, it, kA, kn, kc, ks, tA, tn, tc, ts, r1, r2, r3, s⟩ : In) r) lA sA (.tuple #[])) := by
  subst hbb
  have hb1 := below_al (Below.refl W.heap.size W) (.cells #[.int .i64 3, .int .i64 ia, .int .i64 3, .int .i64 it, .slice kA kn kc, .slice tA tn tc, .string r1, .string r2, .string r3, .string s] 29)
  have R := World.alloc_heap_new W (.cells #[.int .i64 3, .int .i64 ia, .int .i64 3, .int .i64 it, .slice kA kn kc, .slice tA tn tc, .string r1, .string r2, .string r3, .string s] 29)
  have HQ := Lib.hid ((Hq.refl H).up hb1)
  have hz := lt_heapV H.box
  have hz1 : W.heap.size < (W.alloc (.cells #[.int .i64 3, .int .i64 ia, .int .i64 3, .int .i64 it, .slice kA kn kc, .slice tA tn tc, .string r1, .string r2, .string r3, .string s] 29)).heap.size := by simp
  clear H
  go_enter Try.func26, Try.ntmps26
  go_upto_region 1 with fail
  generalize W.alloc (.cells #[.int .i64 3, .int .i64 ia, .int .i64 3, .int .i64 it, .slice kA kn kc, .slice tA tn tc, .string r1, .string r2, .string r3, .string s] 29) = W1 at R HQ hz1 ⊢
  obtain ⟨q0, q1, q2, q3, q4, q5, q6, q7, q8, q9⟩ := ten_cells R
  have HR := Lib.hid R
  clear hb1
  have HS := Lib.hid (show plainR (⟨3, ia, 3, it, kA, kn, kc, ks, tA, tn, tc, ts, r1, r2, r3, s⟩ : In) r = putS 1 ia r from rfl)
  go_wp2_with (go_at_call 40; refine (put_q HQ.out 1 ia (by omega)).mono ?_; rintro e w2 ⟨rfl, hq2, hk2⟩)
  go_end0
  rw [HS.out]
  exact hq2.ex
set_option maxRecDepth 100000 in
set_option maxHeartbeats 1000000 in
theorem plain_3_n {w0 W : World} {b : Nat} {h : Hd8} {r : Rs} {lA : Option Addr} {lc : Nat} {sA : Option Addr} {sc : Nat} {ia ib it : Int} {kA : Option Addr} {kn kc : Nat} {ks : List Int} {tA : Option Addr} {tn tc : Nat} {ts : List Int} {r1 r2 r3 s : ByteArray} (hbb : (ib == 3) = false) (H : HdSt w0 W b h r lA lc sA sc) (hl : r.ss.length ≤ 900000) (hll : r.ls.length ≤ 1000000) :
    Calls Try.prog 26 #[.pointer (some ⟨b, 0, none⟩), .agg #[.int .i64 3, .int .i64 ia, .int .i64 ib, .int .i64 it, .slice kA kn kc, .slice tA tn tc, .string r1, .string r2, .string r3, .string s]] W (HdEx w0 W b h r (plainR (⟨3, ia, ib, it, kA, kn, kc, ks, tA, tn, tc, ts, r1, r2, r3, s⟩ : In) r) lA sA (.tuple #[])) := by
  have hb1 := below_al (Below.refl W.heap.size W) (.cells #[.int .i64 3, .int .i64 ia, .int .i64 ib, .int .i64 it, .slice kA kn kc, .slice tA tn tc, .string r1, .string r2, .string r3, .string s] 29)
  have R := World.alloc_heap_new W (.cells #[.int .i64 3, .int .i64 ia, .int .i64 ib, .int .i64 it, .slice kA kn kc, .slice tA tn tc, .string r1, .string r2, .string r3, .string s] 29)
  have HQ := Lib.hid ((Hq.refl H).up hb1)
  have hz := lt_heapV H.box
  have hz1 : W.heap.size < (W.alloc (.cells #[.int .i64 3, .int .i64 ia, .int .i64 ib, .int .i64 it, .slice kA kn kc, .slice tA tn tc, .string r1, .string r2, .string r3, .string s] 29)).heap.size := by simp
  clear H
  go_enter Try.func26, Try.ntmps26
  go_upto_region 1 with fail
  generalize W.alloc (.cells #[.int .i64 3, .int .i64 ia, .int .i64 ib, .int .i64 it, .slice kA kn kc, .slice tA tn tc, .string r1, .string r2, .string r3, .string s] 29) = W1 at R HQ hz1 ⊢
  obtain ⟨q0, q1, q2, q3, q4, q5, q6, q7, q8, q9⟩ := ten_cells R
  have HR := Lib.hid R
  clear hb1
  have HS := Lib.hid (show plainR (⟨3, ia, ib, it, kA, kn, kc, ks, tA, tn, tc, ts, r1, r2, r3, s⟩ : In) r = putS 2 ia r from by unfold plainR; rw [if_neg (show ¬ (3 : Int) = 1 by decide), if_neg (show ¬ (3 : Int) = 2 by decide), if_neg (fun g => by have := g.2; simp at hbb; exact hbb this), if_pos rfl])
  go_wp2_with (go_at_call 40; refine (put_q HQ.out 2 ia (by omega)).mono ?_; rintro e w2 ⟨rfl, hq2, hk2⟩)
  go_end0
  rw [HS.out]
  exact hq2.ex
set_option maxRecDepth 100000 in
set_option maxHeartbeats 1000000 in
theorem plain_11 {w0 W : World} {b : Nat} {h : Hd8} {r : Rs} {lA : Option Addr} {lc : Nat} {sA : Option Addr} {sc : Nat} {ia ib it : Int} {kA : Option Addr} {kn kc : Nat} {ks : List Int} {tA : Option Addr} {tn tc : Nat} {ts : List Int} {r1 r2 r3 s : ByteArray} (H : HdSt w0 W b h r lA lc sA sc) (hl : r.ss.length ≤ 900000) (hll : r.ls.length ≤ 1000000) :
    Calls Try.prog 26 #[.pointer (some ⟨b, 0, none⟩), .agg #[.int .i64 11, .int .i64 ia, .int .i64 ib, .int .i64 it, .slice kA kn kc, .slice tA tn tc, .string r1, .string r2, .string r3, .string s]] W (HdEx w0 W b h r (plainR (⟨11, ia, ib, it, kA, kn, kc, ks, tA, tn, tc, ts, r1, r2, r3, s⟩ : In) r) lA sA (.tuple #[])) := by
  have hb1 := below_al (Below.refl W.heap.size W) (.cells #[.int .i64 11, .int .i64 ia, .int .i64 ib, .int .i64 it, .slice kA kn kc, .slice tA tn tc, .string r1, .string r2, .string r3, .string s] 29)
  have R := World.alloc_heap_new W (.cells #[.int .i64 11, .int .i64 ia, .int .i64 ib, .int .i64 it, .slice kA kn kc, .slice tA tn tc, .string r1, .string r2, .string r3, .string s] 29)
  have HQ := Lib.hid ((Hq.refl H).up hb1)
  have hz := lt_heapV H.box
  have hz1 : W.heap.size < (W.alloc (.cells #[.int .i64 11, .int .i64 ia, .int .i64 ib, .int .i64 it, .slice kA kn kc, .slice tA tn tc, .string r1, .string r2, .string r3, .string s] 29)).heap.size := by simp
  clear H
  go_enter Try.func26, Try.ntmps26
  go_upto_region 1 with fail
  generalize W.alloc (.cells #[.int .i64 11, .int .i64 ia, .int .i64 ib, .int .i64 it, .slice kA kn kc, .slice tA tn tc, .string r1, .string r2, .string r3, .string s] 29) = W1 at R HQ hz1 ⊢
  obtain ⟨q0, q1, q2, q3, q4, q5, q6, q7, q8, q9⟩ := ten_cells R
  have HR := Lib.hid R
  clear hb1
  have HS := Lib.hid (show plainR (⟨11, ia, ib, it, kA, kn, kc, ks, tA, tn, tc, ts, r1, r2, r3, s⟩ : In) r = takeS 0 r from rfl)
  go_wp2_with (go_at_call 37; refine (take_q HQ.out 0 (by omega)).mono ?_; rintro e w2 ⟨rfl, hq2, hk2⟩)
  go_end0
  rw [HS.out]
  exact hq2.ex
set_option maxRecDepth 100000 in
set_option maxHeartbeats 1000000 in
theorem plain_12 {w0 W : World} {b : Nat} {h : Hd8} {r : Rs} {lA : Option Addr} {lc : Nat} {sA : Option Addr} {sc : Nat} {ia ib it : Int} {kA : Option Addr} {kn kc : Nat} {ks : List Int} {tA : Option Addr} {tn tc : Nat} {ts : List Int} {r1 r2 r3 s : ByteArray} (H : HdSt w0 W b h r lA lc sA sc) (hl : r.ss.length ≤ 900000) (hll : r.ls.length ≤ 1000000) :
    Calls Try.prog 26 #[.pointer (some ⟨b, 0, none⟩), .agg #[.int .i64 12, .int .i64 ia, .int .i64 ib, .int .i64 it, .slice kA kn kc, .slice tA tn tc, .string r1, .string r2, .string r3, .string s]] W (HdEx w0 W b h r (plainR (⟨12, ia, ib, it, kA, kn, kc, ks, tA, tn, tc, ts, r1, r2, r3, s⟩ : In) r) lA sA (.tuple #[])) := by
  have hb1 := below_al (Below.refl W.heap.size W) (.cells #[.int .i64 12, .int .i64 ia, .int .i64 ib, .int .i64 it, .slice kA kn kc, .slice tA tn tc, .string r1, .string r2, .string r3, .string s] 29)
  have R := World.alloc_heap_new W (.cells #[.int .i64 12, .int .i64 ia, .int .i64 ib, .int .i64 it, .slice kA kn kc, .slice tA tn tc, .string r1, .string r2, .string r3, .string s] 29)
  have HQ := Lib.hid ((Hq.refl H).up hb1)
  have hz := lt_heapV H.box
  have hz1 : W.heap.size < (W.alloc (.cells #[.int .i64 12, .int .i64 ia, .int .i64 ib, .int .i64 it, .slice kA kn kc, .slice tA tn tc, .string r1, .string r2, .string r3, .string s] 29)).heap.size := by simp
  clear H
  go_enter Try.func26, Try.ntmps26
  go_upto_region 1 with fail
  generalize W.alloc (.cells #[.int .i64 12, .int .i64 ia, .int .i64 ib, .int .i64 it, .slice kA kn kc, .slice tA tn tc, .string r1, .string r2, .string r3, .string s] 29) = W1 at R HQ hz1 ⊢
  obtain ⟨q0, q1, q2, q3, q4, q5, q6, q7, q8, q9⟩ := ten_cells R
  have HR := Lib.hid R
  clear hb1
  have HS := Lib.hid (show plainR (⟨12, ia, ib, it, kA, kn, kc, ks, tA, tn, tc, ts, r1, r2, r3, s⟩ : In) r = putS (takeV r).1 (takeV r).2 (putS (takeV r).1 (takeV r).2 (takeS 0 r)) from rfl)
  obtain ⟨⟨vk, vn⟩, hv⟩ : ∃ x, takeV r = x := ⟨_, rfl⟩
  have HT := Lib.hid (take_q HQ.out 0 (by omega))
  rw [hv] at HT HS
  clear hv
  dsimp only at HT HS
  have hl1 := take_len (k := 0) hl
  go_upto_region 21 with (go_at_call 37; refine HT.out.mono ?_; rintro e w2 ⟨rfl, hq2, hk2⟩)
  have x2 := World.alloc_heap_new w2 (.cells #[.int .i64 vk, .int .i64 vn] 42)
  have hb2 := below_al (Below.refl w2.heap.size w2) (.cells #[.int .i64 vk, .int .i64 vn] 42)
  have hq3 := hq2.up hb2
  have h23 : w2.heap.size < (w2.alloc (.cells #[.int .i64 vk, .int .i64 vn] 42)).heap.size := by simp
  have hb2z := hq2.lt
  generalize w2.alloc (.cells #[.int .i64 vk, .int .i64 vn] 42) = w3 at x2 hq3 h23 ⊢
  clear hb2 q0 q1 q2 q3 q4 q5 q6 q7 q8 q9
  obtain ⟨v0, v1⟩ := two_cellsV x2
  go_upto_region 22 with (go_at_call 42; refine (back_q hq3 vk vn (by omega)).mono ?_; rintro e w4 ⟨rfl, hq4, hk4⟩)
  have x4 := (hk4.block w2.heap.size h23 (by omega)).trans x2
  obtain ⟨v0, v1⟩ := two_cellsV x4
  have y4 := lt_heapV x4
  have hl2 := put_len (k := vk) (n := vn) hl1
  go_wp2_with (go_at_call 42; refine (back_q hq4 vk vn (by omega)).mono ?_; rintro e w6 ⟨rfl, hq6, hk6⟩)
  go_end0
  rw [HS.out]
  exact hq6.ex
set_option maxRecDepth 100000 in
set_option maxHeartbeats 1000000 in
theorem plain_13 {w0 W : World} {b : Nat} {h : Hd8} {r : Rs} {lA : Option Addr} {lc : Nat} {sA : Option Addr} {sc : Nat} {ia ib it : Int} {kA : Option Addr} {kn kc : Nat} {ks : List Int} {tA : Option Addr} {tn tc : Nat} {ts : List Int} {r1 r2 r3 s : ByteArray} (H : HdSt w0 W b h r lA lc sA sc) (hl : r.ss.length ≤ 900000) (hll : r.ls.length ≤ 1000000) :
    Calls Try.prog 26 #[.pointer (some ⟨b, 0, none⟩), .agg #[.int .i64 13, .int .i64 ia, .int .i64 ib, .int .i64 it, .slice kA kn kc, .slice tA tn tc, .string r1, .string r2, .string r3, .string s]] W (HdEx w0 W b h r (plainR (⟨13, ia, ib, it, kA, kn, kc, ks, tA, tn, tc, ts, r1, r2, r3, s⟩ : In) r) lA sA (.tuple #[])) := by
  have hb1 := below_al (Below.refl W.heap.size W) (.cells #[.int .i64 13, .int .i64 ia, .int .i64 ib, .int .i64 it, .slice kA kn kc, .slice tA tn tc, .string r1, .string r2, .string r3, .string s] 29)
  have R := World.alloc_heap_new W (.cells #[.int .i64 13, .int .i64 ia, .int .i64 ib, .int .i64 it, .slice kA kn kc, .slice tA tn tc, .string r1, .string r2, .string r3, .string s] 29)
  have HQ := Lib.hid ((Hq.refl H).up hb1)
  have hz := lt_heapV H.box
  have hz1 : W.heap.size < (W.alloc (.cells #[.int .i64 13, .int .i64 ia, .int .i64 ib, .int .i64 it, .slice kA kn kc, .slice tA tn tc, .string r1, .string r2, .string r3, .string s] 29)).heap.size := by simp
  clear H
  go_enter Try.func26, Try.ntmps26
  go_upto_region 1 with fail
  generalize W.alloc (.cells #[.int .i64 13, .int .i64 ia, .int .i64 ib, .int .i64 it, .slice kA kn kc, .slice tA tn tc, .string r1, .string r2, .string r3, .string s] 29) = W1 at R HQ hz1 ⊢
  obtain ⟨q0, q1, q2, q3, q4, q5, q6, q7, q8, q9⟩ := ten_cells R
  have HR := Lib.hid R
  clear hb1
  have HS := Lib.hid (show plainR (⟨13, ia, ib, it, kA, kn, kc, ks, tA, tn, tc, ts, r1, r2, r3, s⟩ : In) r = putS (takeV r).1 (takeV r).2 (putS (takeV (takeS 0 r)).1 (takeV (takeS 0 r)).2 (putS (takeV r).1 (takeV r).2 (takeS 0 (takeS 0 r)))) from rfl)
  obtain ⟨⟨bk, bn⟩, hb⟩ : ∃ x, takeV r = x := ⟨_, rfl⟩
  obtain ⟨⟨ak, an⟩, ha⟩ : ∃ x, takeV (takeS 0 r) = x := ⟨_, rfl⟩
  have HT := Lib.hid (take_q HQ.out 0 (by omega))
  have hl1 := take_len (k := 0) hl
  have hl2 := take_len (k := 0) hl1
  rw [hb] at HT HS
  have HT2 := Lib.hid (fun (W2 : World) (H : Hq w0 W b h r lA sA W2 (takeS 0 r)) => take_q H 0 (by omega))
  rw [ha] at HT2 HS
  clear hb ha
  dsimp only at HT HT2 HS
  go_upto_region 25 with (go_at_call 37; refine HT.out.mono ?_; rintro e w2 ⟨rfl, hq2, hk2⟩)
  have x2 := World.alloc_heap_new w2 (.cells #[.int .i64 bk, .int .i64 bn] 42)
  have hb2 := below_al (Below.refl w2.heap.size w2) (.cells #[.int .i64 bk, .int .i64 bn] 42)
  have hq3 := hq2.up hb2
  have h23 : w2.heap.size < (w2.alloc (.cells #[.int .i64 bk, .int .i64 bn] 42)).heap.size := by simp
  have hb2z := hq2.lt
  generalize w2.alloc (.cells #[.int .i64 bk, .int .i64 bn] 42) = w3 at x2 hq3 h23 ⊢
  clear hb2 q0 q1 q2 q3 q4 q5 q6 q7 q8 q9
  go_upto_region 26 with (go_at_call 37; refine (HT2.out _ hq3).mono ?_; rintro e w4 ⟨rfl, hq4, hk4⟩)
  have x4 := (hk4.block w2.heap.size h23 (by omega)).trans x2
  have hs4 := lt_heapV x4
  have hb4 := below_al (Below.refl w4.heap.size w4) (.cells #[.int .i64 ak, .int .i64 an] 42)
  have x5 := (hb4.block w2.heap.size hs4).trans x4
  have z5 := World.alloc_heap_new w4 (.cells #[.int .i64 ak, .int .i64 an] 42)
  have hq5 := hq4.up hb4
  have h45 : w4.heap.size < (w4.alloc (.cells #[.int .i64 ak, .int .i64 an] 42)).heap.size := by simp
  have hb4z := hq4.lt
  generalize w4.alloc (.cells #[.int .i64 ak, .int .i64 an] 42) = w5 at x5 z5 hq5 h45 ⊢
  clear hb4
  obtain ⟨v0, v1⟩ := two_cellsV x5
  obtain ⟨u0, u1⟩ := two_cellsV z5
  have y5 := lt_heapV x5
  go_upto_region 27 with (go_at_call 42; refine (back_q hq5 bk bn (by omega)).mono ?_; rintro e w6 ⟨rfl, hq6, hk6⟩)
  have x6 := (hk6.block w2.heap.size y5 (by omega)).trans x5
  have z6 := (hk6.block w4.heap.size (lt_heapV z5) (by omega)).trans z5
  have y6 := lt_heapV x6
  obtain ⟨v0, v1⟩ := two_cellsV x6
  obtain ⟨u0, u1⟩ := two_cellsV z6
  have y6' := lt_heapV z6
  have hl3 := put_len (k := bk) (n := bn) hl2
  go_upto_region 28 with (go_at_call 42; refine (back_q hq6 ak an (by omega)).mono ?_; rintro e w7 ⟨rfl, hq7, hk7⟩)
  have x7 := (hk7.block w2.heap.size y6 (by omega)).trans x6
  have z7 := (hk7.block w4.heap.size (lt_heapV z6) (by omega)).trans z6
  have y7 := lt_heapV x7
  obtain ⟨v0, v1⟩ := two_cellsV x7
  obtain ⟨u0, u1⟩ := two_cellsV z7
  have y7' := lt_heapV z7
  have hl4 := put_len (k := ak) (n := an) hl3
  go_wp2_with (go_at_call 42; refine (back_q hq7 bk bn (by omega)).mono ?_; rintro e w8 ⟨rfl, hq8, hk8⟩)
  go_end0
  rw [HS.out]
  exact hq8.ex
set_option maxRecDepth 100000 in
set_option maxHeartbeats 1000000 in
theorem plain_14 {w0 W : World} {b : Nat} {h : Hd8} {r : Rs} {lA : Option Addr} {lc : Nat} {sA : Option Addr} {sc : Nat} {ia ib it : Int} {kA : Option Addr} {kn kc : Nat} {ks : List Int} {tA : Option Addr} {tn tc : Nat} {ts : List Int} {r1 r2 r3 s : ByteArray} (H : HdSt w0 W b h r lA lc sA sc) (hl : r.ss.length ≤ 900000) (hll : r.ls.length ≤ 1000000) :
    Calls Try.prog 26 #[.pointer (some ⟨b, 0, none⟩), .agg #[.int .i64 14, .int .i64 ia, .int .i64 ib, .int .i64 it, .slice kA kn kc, .slice tA tn tc, .string r1, .string r2, .string r3, .string s]] W (HdEx w0 W b h r (plainR (⟨14, ia, ib, it, kA, kn, kc, ks, tA, tn, tc, ts, r1, r2, r3, s⟩ : In) r) lA sA (.tuple #[])) := by
  have hb1 := below_al (Below.refl W.heap.size W) (.cells #[.int .i64 14, .int .i64 ia, .int .i64 ib, .int .i64 it, .slice kA kn kc, .slice tA tn tc, .string r1, .string r2, .string r3, .string s] 29)
  have R := World.alloc_heap_new W (.cells #[.int .i64 14, .int .i64 ia, .int .i64 ib, .int .i64 it, .slice kA kn kc, .slice tA tn tc, .string r1, .string r2, .string r3, .string s] 29)
  have HQ := Lib.hid ((Hq.refl H).up hb1)
  have hz := lt_heapV H.box
  have hz1 : W.heap.size < (W.alloc (.cells #[.int .i64 14, .int .i64 ia, .int .i64 ib, .int .i64 it, .slice kA kn kc, .slice tA tn tc, .string r1, .string r2, .string r3, .string s] 29)).heap.size := by simp
  clear H
  go_enter Try.func26, Try.ntmps26
  go_upto_region 1 with fail
  generalize W.alloc (.cells #[.int .i64 14, .int .i64 ia, .int .i64 ib, .int .i64 it, .slice kA kn kc, .slice tA tn tc, .string r1, .string r2, .string r3, .string s] 29) = W1 at R HQ hz1 ⊢
  obtain ⟨q0, q1, q2, q3, q4, q5, q6, q7, q8, q9⟩ := ten_cells R
  have HR := Lib.hid R
  clear hb1
  have HS := Lib.hid (show plainR (⟨14, ia, ib, it, kA, kn, kc, ks, tA, tn, tc, ts, r1, r2, r3, s⟩ : In) r = putS (takeV (takeS 0 r)).1 (takeV (takeS 0 r)).2 (putS (takeV r).1 (takeV r).2 (takeS 0 (takeS 0 r))) from rfl)
  obtain ⟨⟨bk, bn⟩, hb⟩ : ∃ x, takeV r = x := ⟨_, rfl⟩
  obtain ⟨⟨ak, an⟩, ha⟩ : ∃ x, takeV (takeS 0 r) = x := ⟨_, rfl⟩
  have HT := Lib.hid (take_q HQ.out 0 (by omega))
  have hl1 := take_len (k := 0) hl
  have hl2 := take_len (k := 0) hl1
  rw [hb] at HT HS
  have HT2 := Lib.hid (fun (W2 : World) (H : Hq w0 W b h r lA sA W2 (takeS 0 r)) => take_q H 0 (by omega))
  rw [ha] at HT2 HS
  clear hb ha
  dsimp only at HT HT2 HS
  go_upto_region 31 with (go_at_call 37; refine HT.out.mono ?_; rintro e w2 ⟨rfl, hq2, hk2⟩)
  have x2 := World.alloc_heap_new w2 (.cells #[.int .i64 bk, .int .i64 bn] 42)
  have hb2 := below_al (Below.refl w2.heap.size w2) (.cells #[.int .i64 bk, .int .i64 bn] 42)
  have hq3 := hq2.up hb2
  have h23 : w2.heap.size < (w2.alloc (.cells #[.int .i64 bk, .int .i64 bn] 42)).heap.size := by simp
  have hb2z := hq2.lt
  generalize w2.alloc (.cells #[.int .i64 bk, .int .i64 bn] 42) = w3 at x2 hq3 h23 ⊢
  clear hb2 q0 q1 q2 q3 q4 q5 q6 q7 q8 q9
  go_upto_region 32 with (go_at_call 37; refine (HT2.out _ hq3).mono ?_; rintro e w4 ⟨rfl, hq4, hk4⟩)
  have x4 := (hk4.block w2.heap.size h23 (by omega)).trans x2
  have hs4 := lt_heapV x4
  have hb4 := below_al (Below.refl w4.heap.size w4) (.cells #[.int .i64 ak, .int .i64 an] 42)
  have x5 := (hb4.block w2.heap.size hs4).trans x4
  have z5 := World.alloc_heap_new w4 (.cells #[.int .i64 ak, .int .i64 an] 42)
  have hq5 := hq4.up hb4
  have h45 : w4.heap.size < (w4.alloc (.cells #[.int .i64 ak, .int .i64 an] 42)).heap.size := by simp
  have hb4z := hq4.lt
  generalize w4.alloc (.cells #[.int .i64 ak, .int .i64 an] 42) = w5 at x5 z5 hq5 h45 ⊢
  clear hb4
  obtain ⟨v0, v1⟩ := two_cellsV x5
  obtain ⟨u0, u1⟩ := two_cellsV z5
  have y5 := lt_heapV x5
  go_upto_region 33 with (go_at_call 42; refine (back_q hq5 bk bn (by omega)).mono ?_; rintro e w6 ⟨rfl, hq6, hk6⟩)
  have x6 := (hk6.block w2.heap.size y5 (by omega)).trans x5
  have z6 := (hk6.block w4.heap.size (lt_heapV z5) (by omega)).trans z5
  have y6 := lt_heapV x6
  obtain ⟨v0, v1⟩ := two_cellsV x6
  obtain ⟨u0, u1⟩ := two_cellsV z6
  have y6' := lt_heapV z6
  have hl3 := put_len (k := bk) (n := bn) hl2
  go_wp2_with (go_at_call 42; refine (back_q hq6 ak an (by omega)).mono ?_; rintro e w7 ⟨rfl, hq7, hk7⟩)
  go_end0
  rw [HS.out]
  exact hq7.ex
end Go.Proofs.Ytgiglbjkijlchaa
