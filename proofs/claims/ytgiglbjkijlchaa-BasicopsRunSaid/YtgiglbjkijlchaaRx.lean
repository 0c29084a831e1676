/- Layer 42: the reference's number (written by gen/born.py). -/
import Derived.Test.YtgiglbjkijlchaaRw
import Derived.Test.YtgiglbjkijlchaaNumRefTwo
namespace Go.Proofs.Ytgiglbjkijlchaa
open Go.ChangeShapes Go.WideShapes Go.ChangeAt Go.RowKit Go.PlainAid
set_option linter.unusedSimpArgs false
set_option linter.unusedVariables false

theorem takeS_ls (k : Int) (r : Rs) : (takeS k r).ls = r.ls := by
  unfold takeS
  split
  · exact failS_ls _ _
  · split
    · rfl
    · split
      · exact failS_ls _ _
      · rfl
theorem takeS_cut (k : Int) (r : Rs) : (takeS k r).ss = r.ss ∨ (takeS k r).ss = r.ss.dropLast := by
  unfold takeS
  split
  · exact Or.inl (failS_ss _ _)
  · split
    · exact Or.inl rfl
    · split
      · exact Or.inr (failS_ss _ _)
      · exact Or.inr rfl
theorem takeS_nil {k : Int} {r : Rs} (h : r.ss = []) : (takeS k r).ss = [] := by
  rcases takeS_cut k r with e | e
  · rw [e, h]
  · rw [e, h]; rfl
theorem takeS_len (k : Int) (r : Rs) : (takeS k r).ss.length ≤ r.ss.length := by
  rcases takeS_cut k r with e | e
  · rw [e]; exact Nat.le_refl _
  · rw [e, List.length_dropLast]; omega
theorem takeS_in {k : Int} {r : Rs} (h : VsIn r.ss) : VsIn (takeS k r).ss := by
  rcases takeS_cut k r with e | e
  · rw [e]; exact h
  · rw [e]; exact fun p hp => h p (List.dropLast_subset _ hp)
theorem takeV_rg {r : Rs} (h : VsIn r.ss) : Rg (takeV r).2 := by
  unfold takeV
  split
  · exact rg_0
  · exact topV_rg h
/-- a box of two cells of the call's own is written -/
theorem HdSt.two {w0 W : World} {b x : Nat} {h : Hd8} {r : Rs} {lA : Option Addr} {lc : Nat} {sA : Option Addr} {sc : Nat} {u v : Value} (H : HdSt w0 W b h r lA lc sA sc) (hx : W.heap[x]? = some (.cells #[u, v] 42)) (hxb : x ≠ b) (hxl : ∀ g o s, lA = some ⟨g, o, s⟩ → r.ls ≠ [] → g ≠ x) (hxs : ∀ g o s, sA = some ⟨g, o, s⟩ → r.ss ≠ [] → g ≠ x) (hx0 : w0.heap.size ≤ x) (p q : Value) :
    HdSt w0 ((W.setCell ⟨x, 0, none⟩ p).setCell ⟨x, 1, none⟩ q) b h r lA lc sA sc ∧ ((W.setCell ⟨x, 0, none⟩ p).setCell ⟨x, 1, none⟩ q).heap[x]? = some (.cells #[p, q] 42) ∧ W.grownBy ((W.setCell ⟨x, 0, none⟩ p).setCell ⟨x, 1, none⟩ q) (some x) := by
  have hs1 := heap_setCell_same W x 0 _ _ p hx
  have hs2 := heap_setCell_same _ x 1 _ _ q hs1
  have hg : W.grownBy ((W.setCell ⟨x, 0, none⟩ p).setCell ⟨x, 1, none⟩ q) (some x) := grown_two grown_setV grown_setV
  exact ⟨H.aside hg hxb hxl hxs hx0, hs2, hg⟩
theorem HdEx.after {w0 W W1 W' : World} {b : Nat} {h : Hd8} {r r1 r' : Rs} {lA sA : Option Addr} {v : Value} {e : Ending} (hk : Kb W W1 b) (hl : r.ls = [] → r1.ls = []) (hs : r.ss = [] → r1.ss = []) (H : HdEx w0 W1 b h r1 r' lA sA v e W') : HdEx w0 W b h r r' lA sA v e W' := by
  obtain ⟨h1, h2, x1, x2, x3, x4, h3, h4, h5⟩ := H
  exact ⟨h1, hk.trans h2, x1, x2, x3, x4, h3, Nz.trans (Or.inl ⟨rfl, hl⟩) hk.size h4, Nz.trans (Or.inl ⟨rfl, hs⟩) hk.size h5⟩
set_option maxRecDepth 100000 in
set_option maxHeartbeats 1000000 in
theorem numr_15 {w0 W : World} {b : Nat} {h : Hd8} {r : Rs} {lA : Option Addr} {lc : Nat} {sA : Option Addr} {sc : Nat} (H : HdSt w0 W b h r lA lc sA sc) (hl : r.ss.length ≤ 900000) (hv : VsIn r.ss) :
    Calls Try.prog 24 #[.pointer (some ⟨b, 0, none⟩), .int .i64 15] W (HdEx w0 W b h r (numR 15 r) lA sA (.tuple #[])) := by
  have HLB := Lib.hid H.lb
  have hz := lt_heapV H.box
  have hbw := H.bel.size
  have R0 := laid_old (o' := (.cells #[.int .i64 0, .int .i64 0] 42)) (World.alloc_heap_new W (.cells #[.int .i64 0, .int .i64 0] 42))
  have R1 := World.alloc_heap_new (W.alloc (.cells #[.int .i64 0, .int .i64 0] 42)) (.cells #[.int .i64 0, .int .i64 0] 42)
  have hsz : (W.alloc (.cells #[.int .i64 0, .int .i64 0] 42)).heap.size = W.heap.size + 1 := by simp
  rw [hsz] at R1
  have hlt2 : W.heap.size + 2 ≤ ((W.alloc (.cells #[.int .i64 0, .int .i64 0] 42)).alloc (.cells #[.int .i64 0, .int .i64 0] 42)).heap.size := by simp
  have hB := below_al (below_al (Below.refl W.heap.size W) (.cells #[.int .i64 0, .int .i64 0] 42)) (.cells #[.int .i64 0, .int .i64 0] 42)
  have HH1 := Lib.hid (H.up hB)
  have HN := Lib.hid (show (r.ls = [] → (takeS 1 r).ls = []) ∧ (r.ss = [] → (takeS 1 r).ss = []) ∧ (r.ls = [] → (takeS 1 (takeS 1 r)).ls = []) ∧ (r.ss = [] → (takeS 1 (takeS 1 r)).ss = []) from ⟨fun g => by rw [takeS_ls]; exact g, fun g => takeS_nil g, fun g => by rw [takeS_ls, takeS_ls]; exact g, fun g => takeS_nil (takeS_nil g)⟩)
  have HL1 := Lib.hid (takeS_len 1 r)
  have HL2 := Lib.hid (takeS_len 1 (takeS 1 r))
  have HV1 := Lib.hid (takeV_rg hv)
  have HV2 := Lib.hid (takeV_rg (takeS_in (k := 1) hv))
  have HLS := Lib.hid (show (takeS 1 r).ls = r.ls ∧ (takeS 1 (takeS 1 r)).ls = r.ls from ⟨takeS_ls _ _, by rw [takeS_ls, takeS_ls]⟩)
  go_enter Try.func24, Try.ntmps24
  go_upto_region 6 with fail
  generalize (W.alloc (.cells #[.int .i64 0, .int .i64 0] 42)).alloc (.cells #[.int .i64 0, .int .i64 0] 42) = W1 at R0 R1 hB hlt2 HH1 ⊢
  have HB1 := Lib.hid hB
  have HR0 := Lib.hid R0
  have HR1 := Lib.hid R1
  have y0 := lt_heapV R0
  have y1 := lt_heapV R1
  clear R0 R1 hB hsz H
  have HS := Lib.hid (show numR 15 r = putS 1 (compV 15 (takeV (takeS 1 r)).2 (takeV r).2) (failS (compE 15 (takeV r).2) (takeS 1 (takeS 1 r))) from rfl)
  have HT := Lib.hid (take_any HH1.out 1 (by omega))
  have HT2 := Lib.hid (fun (W : World) (H : HdSt w0 W b h (takeS 1 r) lA lc sA sc) => take_any H 1 (by have := HL1.out; omega))
  obtain ⟨r1, hr1⟩ : ∃ r1, takeS 1 r = r1 := ⟨_, rfl⟩
  obtain ⟨⟨xk, x⟩, hx⟩ : ∃ x, takeV r = x := ⟨_, rfl⟩
  rw [hr1, hx] at HT HS
  rw [hr1] at HN HLS HL1 HT2 HV2 HL2
  clear hx hr1 HV1
  obtain ⟨r2, hr2⟩ : ∃ r2, takeS 1 r1 = r2 := ⟨_, rfl⟩
  obtain ⟨⟨yk, y⟩, hy⟩ : ∃ x, takeV r1 = x := ⟨_, rfl⟩
  rw [hr2, hy] at HT2 HS
  rw [hr2] at HN HLS HL2
  rw [hy] at HV2
  clear hr2 hy
  dsimp only at HT HS HV2 HT2
  go_upto_region 8 with (go_at_call 37; refine HT.out.mono ?_; rintro e w2 ⟨rfl, hr2, hk2⟩; have hs9 := hk2.size; have x0 := (hk2.block W.heap.size (by omega) (by omega)).trans HR0.out; have x1 := (hk2.block (W.heap.size + 1) (by omega) (by omega)).trans HR1.out; obtain ⟨v0, v1⟩ := two_cellsV x0; obtain ⟨u0, u1⟩ := two_cellsV x1; have f0 := fun j => frozV x0 j; have f1 := fun j => frozV x1 j; have q0 := lt_heapV x0; have q1 := lt_heapV x1)
  obtain ⟨hr3, z1, hg3⟩ := hr2.two x1 (by omega) (fun g o s hA hn => by have := HLB.out.1 g o s hA (fun e => hn (HN.out.1 e)); omega) (fun g o s hA hn => by have := HLB.out.2 g o s hA (fun e => hn (HN.out.2.1 e)); omega) (by omega) (.int .i64 xk) (.int .i64 x)
  have z0 := (hg3.block W.heap.size (lt_heapV x0) (fun e => by have := Option.some.inj e; omega)).trans x0
  have HK3 := Lib.hid (((Kb.of_below HB1.out).trans hk2).aside hg3 (by omega))
  have hs3 := hg3.size
  clear hr2 hk2 hg3 x0 x1 v0 v1 u0 u1 f0 f1 q0 q1
  generalize (w2.setCell ⟨W.heap.size + 1, 0, none⟩ (.int .i64 xk)).setCell ⟨W.heap.size + 1, 1, none⟩ (.int .i64 x) = w3 at hr3 z0 z1 HK3 hs3 ⊢
  have HT3 := Lib.hid (HT2.out _ hr3)
  have HZ0 := Lib.hid z0
  have HZ1 := Lib.hid z1
  have hz0 := lt_heapV z0
  have hz1 := lt_heapV z1
  clear z0 z1 hr3
  go_upto_region 9 with (go_at_call 37; refine HT3.out.mono ?_; rintro e w4 ⟨rfl, hr4, hk4⟩; have hs9 := hk4.size; have x0 := (hk4.block W.heap.size (by omega) (by omega)).trans HZ0.out; have x1 := (hk4.block (W.heap.size + 1) (by omega) (by omega)).trans HZ1.out; obtain ⟨v0, v1⟩ := two_cellsV x0; obtain ⟨u0, u1⟩ := two_cellsV x1; have f0 := fun j => frozV x0 j; have f1 := fun j => frozV x1 j; have q0 := lt_heapV x0; have q1 := lt_heapV x1)
  obtain ⟨hr3, z0, hg3⟩ := hr4.two x0 (by omega) (fun g o s hA hn => by have := HLB.out.1 g o s hA (fun e => hn (HN.out.2.2.1 e)); omega) (fun g o s hA hn => by have := HLB.out.2 g o s hA (fun e => hn (HN.out.2.2.2 e)); omega) (by omega) (.int .i64 yk) (.int .i64 y)
  have z1 := (hg3.block (W.heap.size + 1) (lt_heapV x1) (fun e => by have := Option.some.inj e; omega)).trans x1
  have HK3 := Lib.hid ((HK3.out.trans hk4).aside hg3 (by omega))
  clear hg3 x0 x1 v0 v1 u0 u1 f0 f1 q0 q1
  generalize (w4.setCell ⟨W.heap.size, 0, none⟩ (.int .i64 yk)).setCell ⟨W.heap.size, 1, none⟩ (.int .i64 y) = w5 at hr3 z0 z1 HK3 ⊢
  obtain ⟨v0, v1⟩ := two_cellsV z0
  obtain ⟨u0, u1⟩ := two_cellsV z1
  have q0 := lt_heapV z0
  have q1 := lt_heapV z1
  have HC := Lib.hid (fun w => rcomp_any 15 y x HV2.out.1 HV2.out.2 w)
  obtain ⟨n, hn⟩ : ∃ n, compV 15 y x = n := ⟨_, rfl⟩
  obtain ⟨u, hu⟩ : ∃ u, compE 15 x = u := ⟨_, rfl⟩
  rw [hn, hu] at HC HS
  clear hn hu
  have HF := Lib.hid (hfail_any hr3 u)
  have hlen : r2.ss.length ≤ 900000 := by have := HL1.out; have := HL2.out; omega
  clear hr3 z0 z1
  go_wp2_with (first | (go_at_call 38; refine (HC.out _).mono ?_; rintro e w6 ⟨rfl, rfl⟩) | (go_at_call 39; refine HF.out.mono ?_; rintro e w6 ⟨rfl, hr6, hk6⟩) | (go_at_call 40; refine (put_any hr6 1 n (by rw [failS_ss]; omega)).mono ?_; rintro e w8 hr8; have HR := Lib.hid hr8; obtain ⟨rfl, _⟩ := hr8))
  go_end0
  rw [HS.out]
  exact HdEx.after (HK3.out.trans hk6) (fun g => by rw [failS_ls]; exact HN.out.2.2.1 g) (fun g => by rw [failS_ss]; exact HN.out.2.2.2 g) HR.out
set_option maxRecDepth 100000 in
set_option maxHeartbeats 1000000 in
theorem numr_16 {w0 W : World} {b : Nat} {h : Hd8} {r : Rs} {lA : Option Addr} {lc : Nat} {sA : Option Addr} {sc : Nat} (H : HdSt w0 W b h r lA lc sA sc) (hl : r.ss.length ≤ 900000) (hv : VsIn r.ss) :
    Calls Try.prog 24 #[.pointer (some ⟨b, 0, none⟩), .int .i64 16] W (HdEx w0 W b h r (numR 16 r) lA sA (.tuple #[])) := by
  have HLB := Lib.hid H.lb
  have hz := lt_heapV H.box
  have hbw := H.bel.size
  have R0 := laid_old (o' := (.cells #[.int .i64 0, .int .i64 0] 42)) (World.alloc_heap_new W (.cells #[.int .i64 0, .int .i64 0] 42))
  have R1 := World.alloc_heap_new (W.alloc (.cells #[.int .i64 0, .int .i64 0] 42)) (.cells #[.int .i64 0, .int .i64 0] 42)
  have hsz : (W.alloc (.cells #[.int .i64 0, .int .i64 0] 42)).heap.size = W.heap.size + 1 := by simp
  rw [hsz] at R1
  have hlt2 : W.heap.size + 2 ≤ ((W.alloc (.cells #[.int .i64 0, .int .i64 0] 42)).alloc (.cells #[.int .i64 0, .int .i64 0] 42)).heap.size := by simp
  have hB := below_al (below_al (Below.refl W.heap.size W) (.cells #[.int .i64 0, .int .i64 0] 42)) (.cells #[.int .i64 0, .int .i64 0] 42)
  have HH1 := Lib.hid (H.up hB)
  have HN := Lib.hid (show (r.ls = [] → (takeS 1 r).ls = []) ∧ (r.ss = [] → (takeS 1 r).ss = []) ∧ (r.ls = [] → (takeS 1 (takeS 1 r)).ls = []) ∧ (r.ss = [] → (takeS 1 (takeS 1 r)).ss = []) from ⟨fun g => by rw [takeS_ls]; exact g, fun g => takeS_nil g, fun g => by rw [takeS_ls, takeS_ls]; exact g, fun g => takeS_nil (takeS_nil g)⟩)
  have HL1 := Lib.hid (takeS_len 1 r)
  have HL2 := Lib.hid (takeS_len 1 (takeS 1 r))
  have HV1 := Lib.hid (takeV_rg hv)
  have HV2 := Lib.hid (takeV_rg (takeS_in (k := 1) hv))
  have HLS := Lib.hid (show (takeS 1 r).ls = r.ls ∧ (takeS 1 (takeS 1 r)).ls = r.ls from ⟨takeS_ls _ _, by rw [takeS_ls, takeS_ls]⟩)
  go_enter Try.func24, Try.ntmps24
  go_upto_region 6 with fail
  generalize (W.alloc (.cells #[.int .i64 0, .int .i64 0] 42)).alloc (.cells #[.int .i64 0, .int .i64 0] 42) = W1 at R0 R1 hB hlt2 HH1 ⊢
  have HB1 := Lib.hid hB
  have HR0 := Lib.hid R0
  have HR1 := Lib.hid R1
  have y0 := lt_heapV R0
  have y1 := lt_heapV R1
  clear R0 R1 hB hsz H
  have HS := Lib.hid (show numR 16 r = putS 1 (compV 16 (takeV (takeS 1 r)).2 (takeV r).2) (failS (compE 16 (takeV r).2) (takeS 1 (takeS 1 r))) from rfl)
  have HT := Lib.hid (take_any HH1.out 1 (by omega))
  have HT2 := Lib.hid (fun (W : World) (H : HdSt w0 W b h (takeS 1 r) lA lc sA sc) => take_any H 1 (by have := HL1.out; omega))
  obtain ⟨r1, hr1⟩ : ∃ r1, takeS 1 r = r1 := ⟨_, rfl⟩
  obtain ⟨⟨xk, x⟩, hx⟩ : ∃ x, takeV r = x := ⟨_, rfl⟩
  rw [hr1, hx] at HT HS
  rw [hr1] at HN HLS HL1 HT2 HV2 HL2
  clear hx hr1 HV1
  obtain ⟨r2, hr2⟩ : ∃ r2, takeS 1 r1 = r2 := ⟨_, rfl⟩
  obtain ⟨⟨yk, y⟩, hy⟩ : ∃ x, takeV r1 = x := ⟨_, rfl⟩
  rw [hr2, hy] at HT2 HS
  rw [hr2] at HN HLS HL2
  rw [hy] at HV2
  clear hr2 hy
  dsimp only at HT HS HV2 HT2
  go_upto_region 8 with (go_at_call 37; refine HT.out.mono ?_; rintro e w2 ⟨rfl, hr2, hk2⟩; have hs9 := hk2.size; have x0 := (hk2.block W.heap.size (by omega) (by omega)).trans HR0.out; have x1 := (hk2.block (W.heap.size + 1) (by omega) (by omega)).trans HR1.out; obtain ⟨v0, v1⟩ := two_cellsV x0; obtain ⟨u0, u1⟩ := two_cellsV x1; have f0 := fun j => frozV x0 j; have f1 := fun j => frozV x1 j; have q0 := lt_heapV x0; have q1 := lt_heapV x1)
  obtain ⟨hr3, z1, hg3⟩ := hr2.two x1 (by omega) (fun g o s hA hn => by have := HLB.out.1 g o s hA (fun e => hn (HN.out.1 e)); omega) (fun g o s hA hn => by have := HLB.out.2 g o s hA (fun e => hn (HN.out.2.1 e)); omega) (by omega) (.int .i64 xk) (.int .i64 x)
  have z0 := (hg3.block W.heap.size (lt_heapV x0) (fun e => by have := Option.some.inj e; omega)).trans x0
  have HK3 := Lib.hid (((Kb.of_below HB1.out).trans hk2).aside hg3 (by omega))
  have hs3 := hg3.size
  clear hr2 hk2 hg3 x0 x1 v0 v1 u0 u1 f0 f1 q0 q1
  generalize (w2.setCell ⟨W.heap.size + 1, 0, none⟩ (.int .i64 xk)).setCell ⟨W.heap.size + 1, 1, none⟩ (.int .i64 x) = w3 at hr3 z0 z1 HK3 hs3 ⊢
  have HT3 := Lib.hid (HT2.out _ hr3)
  have HZ0 := Lib.hid z0
  have HZ1 := Lib.hid z1
  have hz0 := lt_heapV z0
  have hz1 := lt_heapV z1
  clear z0 z1 hr3
  go_upto_region 9 with (go_at_call 37; refine HT3.out.mono ?_; rintro e w4 ⟨rfl, hr4, hk4⟩; have hs9 := hk4.size; have x0 := (hk4.block W.heap.size (by omega) (by omega)).trans HZ0.out; have x1 := (hk4.block (W.heap.size + 1) (by omega) (by omega)).trans HZ1.out; obtain ⟨v0, v1⟩ := two_cellsV x0; obtain ⟨u0, u1⟩ := two_cellsV x1; have f0 := fun j => frozV x0 j; have f1 := fun j => frozV x1 j; have q0 := lt_heapV x0; have q1 := lt_heapV x1)
  obtain ⟨hr3, z0, hg3⟩ := hr4.two x0 (by omega) (fun g o s hA hn => by have := HLB.out.1 g o s hA (fun e => hn (HN.out.2.2.1 e)); omega) (fun g o s hA hn => by have := HLB.out.2 g o s hA (fun e => hn (HN.out.2.2.2 e)); omega) (by omega) (.int .i64 yk) (.int .i64 y)
  have z1 := (hg3.block (W.heap.size + 1) (lt_heapV x1) (fun e => by have := Option.some.inj e; omega)).trans x1
  have HK3 := Lib.hid ((HK3.out.trans hk4).aside hg3 (by omega))
  clear hg3 x0 x1 v0 v1 u0 u1 f0 f1 q0 q1
  generalize (w4.setCell ⟨W.heap.size, 0, none⟩ (.int .i64 yk)).setCell ⟨W.heap.size, 1, none⟩ (.int .i64 y) = w5 at hr3 z0 z1 HK3 ⊢
  obtain ⟨v0, v1⟩ := two_cellsV z0
  obtain ⟨u0, u1⟩ := two_cellsV z1
  have q0 := lt_heapV z0
  have q1 := lt_heapV z1
  have HC := Lib.hid (fun w => rcomp_any 16 y x HV2.out.1 HV2.out.2 w)
  obtain ⟨n, hn⟩ : ∃ n, compV 16 y x = n := ⟨_, rfl⟩
  obtain ⟨u, hu⟩ : ∃ u, compE 16 x = u := ⟨_, rfl⟩
  rw [hn, hu] at HC HS
  clear hn hu
  have HF := Lib.hid (hfail_any hr3 u)
  have hlen : r2.ss.length ≤ 900000 := by have := HL1.out; have := HL2.out; omega
  clear hr3 z0 z1
  go_wp2_with (first | (go_at_call 38; refine (HC.out _).mono ?_; rintro e w6 ⟨rfl, rfl⟩) | (go_at_call 39; refine HF.out.mono ?_; rintro e w6 ⟨rfl, hr6, hk6⟩) | (go_at_call 40; refine (put_any hr6 1 n (by rw [failS_ss]; omega)).mono ?_; rintro e w8 hr8; have HR := Lib.hid hr8; obtain ⟨rfl, _⟩ := hr8))
  go_end0
  rw [HS.out]
  exact HdEx.after (HK3.out.trans hk6) (fun g => by rw [failS_ls]; exact HN.out.2.2.1 g) (fun g => by rw [failS_ss]; exact HN.out.2.2.2 g) HR.out
set_option maxRecDepth 100000 in
set_option maxHeartbeats 1000000 in
theorem numr_17 {w0 W : World} {b : Nat} {h : Hd8} {r : Rs} {lA : Option Addr} {lc : Nat} {sA : Option Addr} {sc : Nat} (H : HdSt w0 W b h r lA lc sA sc) (hl : r.ss.length ≤ 900000) (hv : VsIn r.ss) :
    Calls Try.prog 24 #[.pointer (some ⟨b, 0, none⟩), .int .i64 17] W (HdEx w0 W b h r (numR 17 r) lA sA (.tuple #[])) := by
  have HLB := Lib.hid H.lb
  have hz := lt_heapV H.box
  have hbw := H.bel.size
  have R0 := laid_old (o' := (.cells #[.int .i64 0, .int .i64 0] 42)) (World.alloc_heap_new W (.cells #[.int .i64 0, .int .i64 0] 42))
  have R1 := World.alloc_heap_new (W.alloc (.cells #[.int .i64 0, .int .i64 0] 42)) (.cells #[.int .i64 0, .int .i64 0] 42)
  have hsz : (W.alloc (.cells #[.int .i64 0, .int .i64 0] 42)).heap.size = W.heap.size + 1 := by simp
  rw [hsz] at R1
  have hlt2 : W.heap.size + 2 ≤ ((W.alloc (.cells #[.int .i64 0, .int .i64 0] 42)).alloc (.cells #[.int .i64 0, .int .i64 0] 42)).heap.size := by simp
  have hB := below_al (below_al (Below.refl W.heap.size W) (.cells #[.int .i64 0, .int .i64 0] 42)) (.cells #[.int .i64 0, .int .i64 0] 42)
  have HH1 := Lib.hid (H.up hB)
  have HN := Lib.hid (show (r.ls = [] → (takeS 1 r).ls = []) ∧ (r.ss = [] → (takeS 1 r).ss = []) ∧ (r.ls = [] → (takeS 1 (takeS 1 r)).ls = []) ∧ (r.ss = [] → (takeS 1 (takeS 1 r)).ss = []) from ⟨fun g => by rw [takeS_ls]; exact g, fun g => takeS_nil g, fun g => by rw [takeS_ls, takeS_ls]; exact g, fun g => takeS_nil (takeS_nil g)⟩)
  have HL1 := Lib.hid (takeS_len 1 r)
  have HL2 := Lib.hid (takeS_len 1 (takeS 1 r))
  have HV1 := Lib.hid (takeV_rg hv)
  have HV2 := Lib.hid (takeV_rg (takeS_in (k := 1) hv))
  have HLS := Lib.hid (show (takeS 1 r).ls = r.ls ∧ (takeS 1 (takeS 1 r)).ls = r.ls from ⟨takeS_ls _ _, by rw [takeS_ls, takeS_ls]⟩)
  go_enter Try.func24, Try.ntmps24
  go_upto_region 6 with fail
  generalize (W.alloc (.cells #[.int .i64 0, .int .i64 0] 42)).alloc (.cells #[.int .i64 0, .int .i64 0] 42) = W1 at R0 R1 hB hlt2 HH1 ⊢
  have HB1 := Lib.hid hB
  have HR0 := Lib.hid R0
  have HR1 := Lib.hid R1
  have y0 := lt_heapV R0
  have y1 := lt_heapV R1
  clear R0 R1 hB hsz H
  have HS := Lib.hid (show numR 17 r = putS 1 (compV 17 (takeV (takeS 1 r)).2 (takeV r).2) (failS (compE 17 (takeV r).2) (takeS 1 (takeS 1 r))) from rfl)
  have HT := Lib.hid (take_any HH1.out 1 (by omega))
  have HT2 := Lib.hid (fun (W : World) (H : HdSt w0 W b h (takeS 1 r) lA lc sA sc) => take_any H 1 (by have := HL1.out; omega))
  obtain ⟨r1, hr1⟩ : ∃ r1, takeS 1 r = r1 := ⟨_, rfl⟩
  obtain ⟨⟨xk, x⟩, hx⟩ : ∃ x, takeV r = x := ⟨_, rfl⟩
  rw [hr1, hx] at HT HS
  rw [hr1] at HN HLS HL1 HT2 HV2 HL2
  clear hx hr1 HV1
  obtain ⟨r2, hr2⟩ : ∃ r2, takeS 1 r1 = r2 := ⟨_, rfl⟩
  obtain ⟨⟨yk, y⟩, hy⟩ : ∃ x, takeV r1 = x := ⟨_, rfl⟩
  rw [hr2, hy] at HT2 HS
  rw [hr2] at HN HLS HL2
  rw [hy] at HV2
  clear hr2 hy
  dsimp only at HT HS HV2 HT2
  go_upto_region 8 with (go_at_call 37; refine HT.out.mono ?_; rintro e w2 ⟨rfl, hr2, hk2⟩; have hs9 := hk2.size; have x0 := (hk2.block W.heap.size (by omega) (by omega)).trans HR0.out; have x1 := (hk2.block (W.heap.size + 1) (by omega) (by omega)).trans HR1.out; obtain ⟨v0, v1⟩ := two_cellsV x0; obtain ⟨u0, u1⟩ := two_cellsV x1; have f0 := fun j => frozV x0 j; have f1 := fun j => frozV x1 j; have q0 := lt_heapV x0; have q1 := lt_heapV x1)
  obtain ⟨hr3, z1, hg3⟩ := hr2.two x1 (by omega) (fun g o s hA hn => by have := HLB.out.1 g o s hA (fun e => hn (HN.out.1 e)); omega) (fun g o s hA hn => by have := HLB.out.2 g o s hA (fun e => hn (HN.out.2.1 e)); omega) (by omega) (.int .i64 xk) (.int .i64 x)
  have z0 := (hg3.block W.heap.size (lt_heapV x0) (fun e => by have := Option.some.inj e; omega)).trans x0
  have HK3 := Lib.hid (((Kb.of_below HB1.out).trans hk2).aside hg3 (by omega))
  have hs3 := hg3.size
  clear hr2 hk2 hg3 x0 x1 v0 v1 u0 u1 f0 f1 q0 q1
  generalize (w2.setCell ⟨W.heap.size + 1, 0, none⟩ (.int .i64 xk)).setCell ⟨W.heap.size + 1, 1, none⟩ (.int .i64 x) = w3 at hr3 z0 z1 HK3 hs3 ⊢
  have HT3 := Lib.hid (HT2.out _ hr3)
  have HZ0 := Lib.hid z0
  have HZ1 := Lib.hid z1
  have hz0 := lt_heapV z0
  have hz1 := lt_heapV z1
  clear z0 z1 hr3
  go_upto_region 9 with (go_at_call 37; refine HT3.out.mono ?_; rintro e w4 ⟨rfl, hr4, hk4⟩; have hs9 := hk4.size; have x0 := (hk4.block W.heap.size (by omega) (by omega)).trans HZ0.out; have x1 := (hk4.block (W.heap.size + 1) (by omega) (by omega)).trans HZ1.out; obtain ⟨v0, v1⟩ := two_cellsV x0; obtain ⟨u0, u1⟩ := two_cellsV x1; have f0 := fun j => frozV x0 j; have f1 := fun j => frozV x1 j; have q0 := lt_heapV x0; have q1 := lt_heapV x1)
  obtain ⟨hr3, z0, hg3⟩ := hr4.two x0 (by omega) (fun g o s hA hn => by have := HLB.out.1 g o s hA (fun e => hn (HN.out.2.2.1 e)); omega) (fun g o s hA hn => by have := HLB.out.2 g o s hA (fun e => hn (HN.out.2.2.2 e)); omega) (by omega) (.int .i64 yk) (.int .i64 y)
  have z1 := (hg3.block (W.heap.size + 1) (lt_heapV x1) (fun e => by have := Option.some.inj e; omega)).trans x1
  have HK3 := Lib.hid ((HK3.out.trans hk4).aside hg3 (by omega))
  clear hg3 x0 x1 v0 v1 u0 u1 f0 f1 q0 q1
  generalize (w4.setCell ⟨W.heap.size, 0, none⟩ (.int .i64 yk)).setCell ⟨W.heap.size, 1, none⟩ (.int .i64 y) = w5 at hr3 z0 z1 HK3 ⊢
  obtain ⟨v0, v1⟩ := two_cellsV z0
  obtain ⟨u0, u1⟩ := two_cellsV z1
  have q0 := lt_heapV z0
  have q1 := lt_heapV z1
  have HC := Lib.hid (fun w => rcomp_any 17 y x HV2.out.1 HV2.out.2 w)
  obtain ⟨n, hn⟩ : ∃ n, compV 17 y x = n := ⟨_, rfl⟩
  obtain ⟨u, hu⟩ : ∃ u, compE 17 x = u := ⟨_, rfl⟩
  rw [hn, hu] at HC HS
  clear hn hu
  have HF := Lib.hid (hfail_any hr3 u)
  have hlen : r2.ss.length ≤ 900000 := by have := HL1.out; have := HL2.out; omega
  clear hr3 z0 z1
  go_wp2_with (first | (go_at_call 38; refine (HC.out _).mono ?_; rintro e w6 ⟨rfl, rfl⟩) | (go_at_call 39; refine HF.out.mono ?_; rintro e w6 ⟨rfl, hr6, hk6⟩) | (go_at_call 40; refine (put_any hr6 1 n (by rw [failS_ss]; omega)).mono ?_; rintro e w8 hr8; have HR := Lib.hid hr8; obtain ⟨rfl, _⟩ := hr8))
  go_end0
  rw [HS.out]
  exact HdEx.after (HK3.out.trans hk6) (fun g => by rw [failS_ls]; exact HN.out.2.2.1 g) (fun g => by rw [failS_ss]; exact HN.out.2.2.2 g) HR.out
set_option maxRecDepth 100000 in
set_option maxHeartbeats 1000000 in
theorem numr_18 {w0 W : World} {b : Nat} {h : Hd8} {r : Rs} {lA : Option Addr} {lc : Nat} {sA : Option Addr} {sc : Nat} (H : HdSt w0 W b h r lA lc sA sc) (hl : r.ss.length ≤ 900000) (hv : VsIn r.ss) :
    Calls Try.prog 24 #[.pointer (some ⟨b, 0, none⟩), .int .i64 18] W (HdEx w0 W b h r (numR 18 r) lA sA (.tuple #[])) := by
  have HLB := Lib.hid H.lb
  have hz := lt_heapV H.box
  have hbw := H.bel.size
  have R0 := laid_old (o' := (.cells #[.int .i64 0, .int .i64 0] 42)) (World.alloc_heap_new W (.cells #[.int .i64 0, .int .i64 0] 42))
  have R1 := World.alloc_heap_new (W.alloc (.cells #[.int .i64 0, .int .i64 0] 42)) (.cells #[.int .i64 0, .int .i64 0] 42)
  have hsz : (W.alloc (.cells #[.int .i64 0, .int .i64 0] 42)).heap.size = W.heap.size + 1 := by simp
  rw [hsz] at R1
  have hlt2 : W.heap.size + 2 ≤ ((W.alloc (.cells #[.int .i64 0, .int .i64 0] 42)).alloc (.cells #[.int .i64 0, .int .i64 0] 42)).heap.size := by simp
  have hB := below_al (below_al (Below.refl W.heap.size W) (.cells #[.int .i64 0, .int .i64 0] 42)) (.cells #[.int .i64 0, .int .i64 0] 42)
  have HH1 := Lib.hid (H.up hB)
  have HN := Lib.hid (show (r.ls = [] → (takeS 1 r).ls = []) ∧ (r.ss = [] → (takeS 1 r).ss = []) ∧ (r.ls = [] → (takeS 1 (takeS 1 r)).ls = []) ∧ (r.ss = [] → (takeS 1 (takeS 1 r)).ss = []) from ⟨fun g => by rw [takeS_ls]; exact g, fun g => takeS_nil g, fun g => by rw [takeS_ls, takeS_ls]; exact g, fun g => takeS_nil (takeS_nil g)⟩)
  have HL1 := Lib.hid (takeS_len 1 r)
  have HL2 := Lib.hid (takeS_len 1 (takeS 1 r))
  have HV1 := Lib.hid (takeV_rg hv)
  have HV2 := Lib.hid (takeV_rg (takeS_in (k := 1) hv))
  have HLS := Lib.hid (show (takeS 1 r).ls = r.ls ∧ (takeS 1 (takeS 1 r)).ls = r.ls from ⟨takeS_ls _ _, by rw [takeS_ls, takeS_ls]⟩)
  go_enter Try.func24, Try.ntmps24
  go_upto_region 6 with fail
  generalize (W.alloc (.cells #[.int .i64 0, .int .i64 0] 42)).alloc (.cells #[.int .i64 0, .int .i64 0] 42) = W1 at R0 R1 hB hlt2 HH1 ⊢
  have HB1 := Lib.hid hB
  have HR0 := Lib.hid R0
  have HR1 := Lib.hid R1
  have y0 := lt_heapV R0
  have y1 := lt_heapV R1
  clear R0 R1 hB hsz H
  have HS := Lib.hid (show numR 18 r = putS 1 (compV 18 (takeV (takeS 1 r)).2 (takeV r).2) (failS (compE 18 (takeV r).2) (takeS 1 (takeS 1 r))) from rfl)
  have HT := Lib.hid (take_any HH1.out 1 (by omega))
  have HT2 := Lib.hid (fun (W : World) (H : HdSt w0 W b h (takeS 1 r) lA lc sA sc) => take_any H 1 (by have := HL1.out; omega))
  obtain ⟨r1, hr1⟩ : ∃ r1, takeS 1 r = r1 := ⟨_, rfl⟩
  obtain ⟨⟨xk, x⟩, hx⟩ : ∃ x, takeV r = x := ⟨_, rfl⟩
  rw [hr1, hx] at HT HS
  rw [hr1] at HN HLS HL1 HT2 HV2 HL2
  clear hx hr1 HV1
  obtain ⟨r2, hr2⟩ : ∃ r2, takeS 1 r1 = r2 := ⟨_, rfl⟩
  obtain ⟨⟨yk, y⟩, hy⟩ : ∃ x, takeV r1 = x := ⟨_, rfl⟩
  rw [hr2, hy] at HT2 HS
  rw [hr2] at HN HLS HL2
  rw [hy] at HV2
  clear hr2 hy
  dsimp only at HT HS HV2 HT2
  go_upto_region 8 with (go_at_call 37; refine HT.out.mono ?_; rintro e w2 ⟨rfl, hr2, hk2⟩; have hs9 := hk2.size; have x0 := (hk2.block W.heap.size (by omega) (by omega)).trans HR0.out; have x1 := (hk2.block (W.heap.size + 1) (by omega) (by omega)).trans HR1.out; obtain ⟨v0, v1⟩ := two_cellsV x0; obtain ⟨u0, u1⟩ := two_cellsV x1; have f0 := fun j => frozV x0 j; have f1 := fun j => frozV x1 j; have q0 := lt_heapV x0; have q1 := lt_heapV x1)
  obtain ⟨hr3, z1, hg3⟩ := hr2.two x1 (by omega) (fun g o s hA hn => by have := HLB.out.1 g o s hA (fun e => hn (HN.out.1 e)); omega) (fun g o s hA hn => by have := HLB.out.2 g o s hA (fun e => hn (HN.out.2.1 e)); omega) (by omega) (.int .i64 xk) (.int .i64 x)
  have z0 := (hg3.block W.heap.size (lt_heapV x0) (fun e => by have := Option.some.inj e; omega)).trans x0
  have HK3 := Lib.hid (((Kb.of_below HB1.out).trans hk2).aside hg3 (by omega))
  have hs3 := hg3.size
  clear hr2 hk2 hg3 x0 x1 v0 v1 u0 u1 f0 f1 q0 q1
  generalize (w2.setCell ⟨W.heap.size + 1, 0, none⟩ (.int .i64 xk)).setCell ⟨W.heap.size + 1, 1, none⟩ (.int .i64 x) = w3 at hr3 z0 z1 HK3 hs3 ⊢
  have HT3 := Lib.hid (HT2.out _ hr3)
  have HZ0 := Lib.hid z0
  have HZ1 := Lib.hid z1
  have hz0 := lt_heapV z0
  have hz1 := lt_heapV z1
  clear z0 z1 hr3
  go_upto_region 9 with (go_at_call 37; refine HT3.out.mono ?_; rintro e w4 ⟨rfl, hr4, hk4⟩; have hs9 := hk4.size; have x0 := (hk4.block W.heap.size (by omega) (by omega)).trans HZ0.out; have x1 := (hk4.block (W.heap.size + 1) (by omega) (by omega)).trans HZ1.out; obtain ⟨v0, v1⟩ := two_cellsV x0; obtain ⟨u0, u1⟩ := two_cellsV x1; have f0 := fun j => frozV x0 j; have f1 := fun j => frozV x1 j; have q0 := lt_heapV x0; have q1 := lt_heapV x1)
  obtain ⟨hr3, z0, hg3⟩ := hr4.two x0 (by omega) (fun g o s hA hn => by have := HLB.out.1 g o s hA (fun e => hn (HN.out.2.2.1 e)); omega) (fun g o s hA hn => by have := HLB.out.2 g o s hA (fun e => hn (HN.out.2.2.2 e)); omega) (by omega) (.int .i64 yk) (.int .i64 y)
  have z1 := (hg3.block (W.heap.size + 1) (lt_heapV x1) (fun e => by have := Option.some.inj e; omega)).trans x1
  have HK3 := Lib.hid ((HK3.out.trans hk4).aside hg3 (by omega))
  clear hg3 x0 x1 v0 v1 u0 u1 f0 f1 q0 q1
  generalize (w4.setCell ⟨W.heap.size, 0, none⟩ (.int .i64 yk)).setCell ⟨W.heap.size, 1, none⟩ (.int .i64 y) = w5 at hr3 z0 z1 HK3 ⊢
  obtain ⟨v0, v1⟩ := two_cellsV z0
  obtain ⟨u0, u1⟩ := two_cellsV z1
  have q0 := lt_heapV z0
  have q1 := lt_heapV z1
  have HC := Lib.hid (fun w => rcomp_any 18 y x HV2.out.1 HV2.out.2 w)
  obtain ⟨n, hn⟩ : ∃ n, compV 18 y x = n := ⟨_, rfl⟩
  obtain ⟨u, hu⟩ : ∃ u, compE 18 x = u := ⟨_, rfl⟩
  rw [hn, hu] at HC HS
  clear hn hu
  have HF := Lib.hid (hfail_any hr3 u)
  have hlen : r2.ss.length ≤ 900000 := by have := HL1.out; have := HL2.out; omega
  clear hr3 z0 z1
  go_wp2_with (first | (go_at_call 38; refine (HC.out _).mono ?_; rintro e w6 ⟨rfl, rfl⟩) | (go_at_call 39; refine HF.out.mono ?_; rintro e w6 ⟨rfl, hr6, hk6⟩) | (go_at_call 40; refine (put_any hr6 1 n (by rw [failS_ss]; omega)).mono ?_; rintro e w8 hr8; have HR := Lib.hid hr8; obtain ⟨rfl, _⟩ := hr8))
  go_end0
  rw [HS.out]
  exact HdEx.after (HK3.out.trans hk6) (fun g => by rw [failS_ls]; exact HN.out.2.2.1 g) (fun g => by rw [failS_ss]; exact HN.out.2.2.2 g) HR.out
set_option maxRecDepth 100000 in
set_option maxHeartbeats 1000000 in
theorem numr_19 {w0 W : World} {b : Nat} {h : Hd8} {r : Rs} {lA : Option Addr} {lc : Nat} {sA : Option Addr} {sc : Nat} (H : HdSt w0 W b h r lA lc sA sc) (hl : r.ss.length ≤ 900000) (hv : VsIn r.ss) :
    Calls Try.prog 24 #[.pointer (some ⟨b, 0, none⟩), .int .i64 19] W (HdEx w0 W b h r (numR 19 r) lA sA (.tuple #[])) := by
  have HLB := Lib.hid H.lb
  have hz := lt_heapV H.box
  have hbw := H.bel.size
  have R0 := laid_old (o' := (.cells #[.int .i64 0, .int .i64 0] 42)) (World.alloc_heap_new W (.cells #[.int .i64 0, .int .i64 0] 42))
  have R1 := World.alloc_heap_new (W.alloc (.cells #[.int .i64 0, .int .i64 0] 42)) (.cells #[.int .i64 0, .int .i64 0] 42)
  have hsz : (W.alloc (.cells #[.int .i64 0, .int .i64 0] 42)).heap.size = W.heap.size + 1 := by simp
  rw [hsz] at R1
  have hlt2 : W.heap.size + 2 ≤ ((W.alloc (.cells #[.int .i64 0, .int .i64 0] 42)).alloc (.cells #[.int .i64 0, .int .i64 0] 42)).heap.size := by simp
  have hB := below_al (below_al (Below.refl W.heap.size W) (.cells #[.int .i64 0, .int .i64 0] 42)) (.cells #[.int .i64 0, .int .i64 0] 42)
  have HH1 := Lib.hid (H.up hB)
  have HN := Lib.hid (show (r.ls = [] → (takeS 1 r).ls = []) ∧ (r.ss = [] → (takeS 1 r).ss = []) ∧ (r.ls = [] → (takeS 1 (takeS 1 r)).ls = []) ∧ (r.ss = [] → (takeS 1 (takeS 1 r)).ss = []) from ⟨fun g => by rw [takeS_ls]; exact g, fun g => takeS_nil g, fun g => by rw [takeS_ls, takeS_ls]; exact g, fun g => takeS_nil (takeS_nil g)⟩)
  have HL1 := Lib.hid (takeS_len 1 r)
  have HL2 := Lib.hid (takeS_len 1 (takeS 1 r))
  have HV1 := Lib.hid (takeV_rg hv)
  have HV2 := Lib.hid (takeV_rg (takeS_in (k := 1) hv))
  have HLS := Lib.hid (show (takeS 1 r).ls = r.ls ∧ (takeS 1 (takeS 1 r)).ls = r.ls from ⟨takeS_ls _ _, by rw [takeS_ls, takeS_ls]⟩)
  go_enter Try.func24, Try.ntmps24
  go_upto_region 6 with fail
  generalize (W.alloc (.cells #[.int .i64 0, .int .i64 0] 42)).alloc (.cells #[.int .i64 0, .int .i64 0] 42) = W1 at R0 R1 hB hlt2 HH1 ⊢
  have HB1 := Lib.hid hB
  have HR0 := Lib.hid R0
  have HR1 := Lib.hid R1
  have y0 := lt_heapV R0
  have y1 := lt_heapV R1
  clear R0 R1 hB hsz H
  have HS := Lib.hid (show numR 19 r = putS 1 (compV 19 (takeV (takeS 1 r)).2 (takeV r).2) (failS (compE 19 (takeV r).2) (takeS 1 (takeS 1 r))) from rfl)
  have HT := Lib.hid (take_any HH1.out 1 (by omega))
  have HT2 := Lib.hid (fun (W : World) (H : HdSt w0 W b h (takeS 1 r) lA lc sA sc) => take_any H 1 (by have := HL1.out; omega))
  obtain ⟨r1, hr1⟩ : ∃ r1, takeS 1 r = r1 := ⟨_, rfl⟩
  obtain ⟨⟨xk, x⟩, hx⟩ : ∃ x, takeV r = x := ⟨_, rfl⟩
  rw [hr1, hx] at HT HS
  rw [hr1] at HN HLS HL1 HT2 HV2 HL2
  clear hx hr1 HV1
  obtain ⟨r2, hr2⟩ : ∃ r2, takeS 1 r1 = r2 := ⟨_, rfl⟩
  obtain ⟨⟨yk, y⟩, hy⟩ : ∃ x, takeV r1 = x := ⟨_, rfl⟩
  rw [hr2, hy] at HT2 HS
  rw [hr2] at HN HLS HL2
  rw [hy] at HV2
  clear hr2 hy
  dsimp only at HT HS HV2 HT2
  go_upto_region 8 with (go_at_call 37; refine HT.out.mono ?_; rintro e w2 ⟨rfl, hr2, hk2⟩; have hs9 := hk2.size; have x0 := (hk2.block W.heap.size (by omega) (by omega)).trans HR0.out; have x1 := (hk2.block (W.heap.size + 1) (by omega) (by omega)).trans HR1.out; obtain ⟨v0, v1⟩ := two_cellsV x0; obtain ⟨u0, u1⟩ := two_cellsV x1; have f0 := fun j => frozV x0 j; have f1 := fun j => frozV x1 j; have q0 := lt_heapV x0; have q1 := lt_heapV x1)
  obtain ⟨hr3, z1, hg3⟩ := hr2.two x1 (by omega) (fun g o s hA hn => by have := HLB.out.1 g o s hA (fun e => hn (HN.out.1 e)); omega) (fun g o s hA hn => by have := HLB.out.2 g o s hA (fun e => hn (HN.out.2.1 e)); omega) (by omega) (.int .i64 xk) (.int .i64 x)
  have z0 := (hg3.block W.heap.size (lt_heapV x0) (fun e => by have := Option.some.inj e; omega)).trans x0
  have HK3 := Lib.hid (((Kb.of_below HB1.out).trans hk2).aside hg3 (by omega))
  have hs3 := hg3.size
  clear hr2 hk2 hg3 x0 x1 v0 v1 u0 u1 f0 f1 q0 q1
  generalize (w2.setCell ⟨W.heap.size + 1, 0, none⟩ (.int .i64 xk)).setCell ⟨W.heap.size + 1, 1, none⟩ (.int .i64 x) = w3 at hr3 z0 z1 HK3 hs3 ⊢
  have HT3 := Lib.hid (HT2.out _ hr3)
  have HZ0 := Lib.hid z0
  have HZ1 := Lib.hid z1
  have hz0 := lt_heapV z0
  have hz1 := lt_heapV z1
  clear z0 z1 hr3
  go_upto_region 9 with (go_at_call 37; refine HT3.out.mono ?_; rintro e w4 ⟨rfl, hr4, hk4⟩; have hs9 := hk4.size; have x0 := (hk4.block W.heap.size (by omega) (by omega)).trans HZ0.out; have x1 := (hk4.block (W.heap.size + 1) (by omega) (by omega)).trans HZ1.out; obtain ⟨v0, v1⟩ := two_cellsV x0; obtain ⟨u0, u1⟩ := two_cellsV x1; have f0 := fun j => frozV x0 j; have f1 := fun j => frozV x1 j; have q0 := lt_heapV x0; have q1 := lt_heapV x1)
  obtain ⟨hr3, z0, hg3⟩ := hr4.two x0 (by omega) (fun g o s hA hn => by have := HLB.out.1 g o s hA (fun e => hn (HN.out.2.2.1 e)); omega) (fun g o s hA hn => by have := HLB.out.2 g o s hA (fun e => hn (HN.out.2.2.2 e)); omega) (by omega) (.int .i64 yk) (.int .i64 y)
  have z1 := (hg3.block (W.heap.size + 1) (lt_heapV x1) (fun e => by have := Option.some.inj e; omega)).trans x1
  have HK3 := Lib.hid ((HK3.out.trans hk4).aside hg3 (by omega))
  clear hg3 x0 x1 v0 v1 u0 u1 f0 f1 q0 q1
  generalize (w4.setCell ⟨W.heap.size, 0, none⟩ (.int .i64 yk)).setCell ⟨W.heap.size, 1, none⟩ (.int .i64 y) = w5 at hr3 z0 z1 HK3 ⊢
  obtain ⟨v0, v1⟩ := two_cellsV z0
  obtain ⟨u0, u1⟩ := two_cellsV z1
  have q0 := lt_heapV z0
  have q1 := lt_heapV z1
  have HC := Lib.hid (fun w => rcomp_any 19 y x HV2.out.1 HV2.out.2 w)
  obtain ⟨n, hn⟩ : ∃ n, compV 19 y x = n := ⟨_, rfl⟩
  obtain ⟨u, hu⟩ : ∃ u, compE 19 x = u := ⟨_, rfl⟩
  rw [hn, hu] at HC HS
  clear hn hu
  have HF := Lib.hid (hfail_any hr3 u)
  have hlen : r2.ss.length ≤ 900000 := by have := HL1.out; have := HL2.out; omega
  clear hr3 z0 z1
  go_wp2_with (first | (go_at_call 38; refine (HC.out _).mono ?_; rintro e w6 ⟨rfl, rfl⟩) | (go_at_call 39; refine HF.out.mono ?_; rintro e w6 ⟨rfl, hr6, hk6⟩) | (go_at_call 40; refine (put_any hr6 1 n (by rw [failS_ss]; omega)).mono ?_; rintro e w8 hr8; have HR := Lib.hid hr8; obtain ⟨rfl, _⟩ := hr8))
  go_end0
  rw [HS.out]
  exact HdEx.after (HK3.out.trans hk6) (fun g => by rw [failS_ls]; exact HN.out.2.2.1 g) (fun g => by rw [failS_ss]; exact HN.out.2.2.2 g) HR.out
set_option maxRecDepth 100000 in
set_option maxHeartbeats 1000000 in
theorem numr_20 {w0 W : World} {b : Nat} {h : Hd8} {r : Rs} {lA : Option Addr} {lc : Nat} {sA : Option Addr} {sc : Nat} (H : HdSt w0 W b h r lA lc sA sc) (hl : r.ss.length ≤ 900000) (hv : VsIn r.ss) :
    Calls Try.prog 24 #[.pointer (some ⟨b, 0, none⟩), .int .i64 20] W (HdEx w0 W b h r (numR 20 r) lA sA (.tuple #[])) := by
  have HLB := Lib.hid H.lb
  have hz := lt_heapV H.box
  have hbw := H.bel.size
  have R0 := laid_old (o' := (.cells #[.int .i64 0, .int .i64 0] 42)) (World.alloc_heap_new W (.cells #[.int .i64 0, .int .i64 0] 42))
  have R1 := World.alloc_heap_new (W.alloc (.cells #[.int .i64 0, .int .i64 0] 42)) (.cells #[.int .i64 0, .int .i64 0] 42)
  have hsz : (W.alloc (.cells #[.int .i64 0, .int .i64 0] 42)).heap.size = W.heap.size + 1 := by simp
  rw [hsz] at R1
  have hlt2 : W.heap.size + 2 ≤ ((W.alloc (.cells #[.int .i64 0, .int .i64 0] 42)).alloc (.cells #[.int .i64 0, .int .i64 0] 42)).heap.size := by simp
  have hB := below_al (below_al (Below.refl W.heap.size W) (.cells #[.int .i64 0, .int .i64 0] 42)) (.cells #[.int .i64 0, .int .i64 0] 42)
  have HH1 := Lib.hid (H.up hB)
  have HN := Lib.hid (show (r.ls = [] → (takeS 1 r).ls = []) ∧ (r.ss = [] → (takeS 1 r).ss = []) ∧ (r.ls = [] → (takeS 1 (takeS 1 r)).ls = []) ∧ (r.ss = [] → (takeS 1 (takeS 1 r)).ss = []) from ⟨fun g => by rw [takeS_ls]; exact g, fun g => takeS_nil g, fun g => by rw [takeS_ls, takeS_ls]; exact g, fun g => takeS_nil (takeS_nil g)⟩)
  have HL1 := Lib.hid (takeS_len 1 r)
  have HL2 := Lib.hid (takeS_len 1 (takeS 1 r))
  have HV1 := Lib.hid (takeV_rg hv)
  have HV2 := Lib.hid (takeV_rg (takeS_in (k := 1) hv))
  have HLS := Lib.hid (show (takeS 1 r).ls = r.ls ∧ (takeS 1 (takeS 1 r)).ls = r.ls from ⟨takeS_ls _ _, by rw [takeS_ls, takeS_ls]⟩)
  go_enter Try.func24, Try.ntmps24
  go_upto_region 6 with fail
  generalize (W.alloc (.cells #[.int .i64 0, .int .i64 0] 42)).alloc (.cells #[.int .i64 0, .int .i64 0] 42) = W1 at R0 R1 hB hlt2 HH1 ⊢
  have HB1 := Lib.hid hB
  have HR0 := Lib.hid R0
  have HR1 := Lib.hid R1
  have y0 := lt_heapV R0
  have y1 := lt_heapV R1
  clear R0 R1 hB hsz H
  have HS := Lib.hid (show numR 20 r = putS 1 (compV 20 (takeV r).2 0) (failS (compE 20 0) (takeS 1 r)) from rfl)
  have HT := Lib.hid (take_any HH1.out 1 (by omega))
  obtain ⟨r1, hr1⟩ : ∃ r1, takeS 1 r = r1 := ⟨_, rfl⟩
  obtain ⟨⟨xk, x⟩, hx⟩ : ∃ x, takeV r = x := ⟨_, rfl⟩
  rw [hr1, hx] at HT HS
  rw [hr1] at HN HLS HL1
  rw [hx] at HV1
  clear hx hr1 HV2 HL2
  dsimp only at HT HS HV1
  go_upto_region 9 with (go_at_call 37; refine HT.out.mono ?_; rintro e w2 ⟨rfl, hr2, hk2⟩; have hs9 := hk2.size; have x0 := (hk2.block W.heap.size (by omega) (by omega)).trans HR0.out; have x1 := (hk2.block (W.heap.size + 1) (by omega) (by omega)).trans HR1.out; obtain ⟨v0, v1⟩ := two_cellsV x0; obtain ⟨u0, u1⟩ := two_cellsV x1; have f0 := fun j => frozV x0 j; have f1 := fun j => frozV x1 j; have q0 := lt_heapV x0; have q1 := lt_heapV x1)
  obtain ⟨hr3, z0, hg3⟩ := hr2.two x0 (by omega) (fun g o s hA hn => by have := HLB.out.1 g o s hA (fun e => hn (HN.out.1 e)); omega) (fun g o s hA hn => by have := HLB.out.2 g o s hA (fun e => hn (HN.out.2.1 e)); omega) (by omega) (.int .i64 xk) (.int .i64 x)
  have z1 := (hg3.block (W.heap.size + 1) (lt_heapV x1) (fun e => by have := Option.some.inj e; omega)).trans x1
  have HK3 := Lib.hid (((Kb.of_below HB1.out).trans hk2).aside hg3 (by omega))
  clear hg3 x0 x1 v0 v1 u0 u1 f0 f1 q0 q1
  generalize (w2.setCell ⟨W.heap.size, 0, none⟩ (.int .i64 xk)).setCell ⟨W.heap.size, 1, none⟩ (.int .i64 x) = w5 at hr3 z0 z1 HK3 ⊢
  obtain ⟨v0, v1⟩ := two_cellsV z0
  obtain ⟨u0, u1⟩ := two_cellsV z1
  have q0 := lt_heapV z0
  have q1 := lt_heapV z1
  have HC := Lib.hid (fun w => rcomp_any 20 x 0 HV1.out.1 HV1.out.2 w)
  obtain ⟨n, hn⟩ : ∃ n, compV 20 x 0 = n := ⟨_, rfl⟩
  obtain ⟨u, hu⟩ : ∃ u, compE 20 0 = u := ⟨_, rfl⟩
  rw [hn, hu] at HC HS
  clear hn hu
  have HF := Lib.hid (hfail_any hr3 u)
  have hlen : r1.ss.length ≤ 900000 := by have := HL1.out; omega
  clear hr3 z0 z1
  go_wp2_with (first | (go_at_call 38; refine (HC.out _).mono ?_; rintro e w6 ⟨rfl, rfl⟩) | (go_at_call 39; refine HF.out.mono ?_; rintro e w6 ⟨rfl, hr6, hk6⟩) | (go_at_call 40; refine (put_any hr6 1 n (by rw [failS_ss]; omega)).mono ?_; rintro e w8 hr8; have HR := Lib.hid hr8; obtain ⟨rfl, _⟩ := hr8))
  go_end0
  rw [HS.out]
  exact HdEx.after (HK3.out.trans hk6) (fun g => by rw [failS_ls]; exact HN.out.1 g) (fun g => by rw [failS_ss]; exact HN.out.2.1 g) HR.out
set_option maxRecDepth 100000 in
set_option maxHeartbeats 1000000 in
theorem numr_21 {w0 W : World} {b : Nat} {h : Hd8} {r : Rs} {lA : Option Addr} {lc : Nat} {sA : Option Addr} {sc : Nat} (H : HdSt w0 W b h r lA lc sA sc) (hl : r.ss.length ≤ 900000) (hv : VsIn r.ss) :
    Calls Try.prog 24 #[.pointer (some ⟨b, 0, none⟩), .int .i64 21] W (HdEx w0 W b h r (numR 21 r) lA sA (.tuple #[])) := by
  have HLB := Lib.hid H.lb
  have hz := lt_heapV H.box
  have hbw := H.bel.size
  have R0 := laid_old (o' := (.cells #[.int .i64 0, .int .i64 0] 42)) (World.alloc_heap_new W (.cells #[.int .i64 0, .int .i64 0] 42))
  have R1 := World.alloc_heap_new (W.alloc (.cells #[.int .i64 0, .int .i64 0] 42)) (.cells #[.int .i64 0, .int .i64 0] 42)
  have hsz : (W.alloc (.cells #[.int .i64 0, .int .i64 0] 42)).heap.size = W.heap.size + 1 := by simp
  rw [hsz] at R1
  have hlt2 : W.heap.size + 2 ≤ ((W.alloc (.cells #[.int .i64 0, .int .i64 0] 42)).alloc (.cells #[.int .i64 0, .int .i64 0] 42)).heap.size := by simp
  have hB := below_al (below_al (Below.refl W.heap.size W) (.cells #[.int .i64 0, .int .i64 0] 42)) (.cells #[.int .i64 0, .int .i64 0] 42)
  have HH1 := Lib.hid (H.up hB)
  have HN := Lib.hid (show (r.ls = [] → (takeS 1 r).ls = []) ∧ (r.ss = [] → (takeS 1 r).ss = []) ∧ (r.ls = [] → (takeS 1 (takeS 1 r)).ls = []) ∧ (r.ss = [] → (takeS 1 (takeS 1 r)).ss = []) from ⟨fun g => by rw [takeS_ls]; exact g, fun g => takeS_nil g, fun g => by rw [takeS_ls, takeS_ls]; exact g, fun g => takeS_nil (takeS_nil g)⟩)
  have HL1 := Lib.hid (takeS_len 1 r)
  have HL2 := Lib.hid (takeS_len 1 (takeS 1 r))
  have HV1 := Lib.hid (takeV_rg hv)
  have HV2 := Lib.hid (takeV_rg (takeS_in (k := 1) hv))
  have HLS := Lib.hid (show (takeS 1 r).ls = r.ls ∧ (takeS 1 (takeS 1 r)).ls = r.ls from ⟨takeS_ls _ _, by rw [takeS_ls, takeS_ls]⟩)
  go_enter Try.func24, Try.ntmps24
  go_upto_region 6 with fail
  generalize (W.alloc (.cells #[.int .i64 0, .int .i64 0] 42)).alloc (.cells #[.int .i64 0, .int .i64 0] 42) = W1 at R0 R1 hB hlt2 HH1 ⊢
  have HB1 := Lib.hid hB
  have HR0 := Lib.hid R0
  have HR1 := Lib.hid R1
  have y0 := lt_heapV R0
  have y1 := lt_heapV R1
  clear R0 R1 hB hsz H
  have HS := Lib.hid (show numR 21 r = putS 1 (compV 21 (takeV (takeS 1 r)).2 (takeV r).2) (failS (compE 21 (takeV r).2) (takeS 1 (takeS 1 r))) from rfl)
  have HT := Lib.hid (take_any HH1.out 1 (by omega))
  have HT2 := Lib.hid (fun (W : World) (H : HdSt w0 W b h (takeS 1 r) lA lc sA sc) => take_any H 1 (by have := HL1.out; omega))
  obtain ⟨r1, hr1⟩ : ∃ r1, takeS 1 r = r1 := ⟨_, rfl⟩
  obtain ⟨⟨xk, x⟩, hx⟩ : ∃ x, takeV r = x := ⟨_, rfl⟩
  rw [hr1, hx] at HT HS
  rw [hr1] at HN HLS HL1 HT2 HV2 HL2
  clear hx hr1 HV1
  obtain ⟨r2, hr2⟩ : ∃ r2, takeS 1 r1 = r2 := ⟨_, rfl⟩
  obtain ⟨⟨yk, y⟩, hy⟩ : ∃ x, takeV r1 = x := ⟨_, rfl⟩
  rw [hr2, hy] at HT2 HS
  rw [hr2] at HN HLS HL2
  rw [hy] at HV2
  clear hr2 hy
  dsimp only at HT HS HV2 HT2
  go_upto_region 8 with (go_at_call 37; refine HT.out.mono ?_; rintro e w2 ⟨rfl, hr2, hk2⟩; have hs9 := hk2.size; have x0 := (hk2.block W.heap.size (by omega) (by omega)).trans HR0.out; have x1 := (hk2.block (W.heap.size + 1) (by omega) (by omega)).trans HR1.out; obtain ⟨v0, v1⟩ := two_cellsV x0; obtain ⟨u0, u1⟩ := two_cellsV x1; have f0 := fun j => frozV x0 j; have f1 := fun j => frozV x1 j; have q0 := lt_heapV x0; have q1 := lt_heapV x1)
  obtain ⟨hr3, z1, hg3⟩ := hr2.two x1 (by omega) (fun g o s hA hn => by have := HLB.out.1 g o s hA (fun e => hn (HN.out.1 e)); omega) (fun g o s hA hn => by have := HLB.out.2 g o s hA (fun e => hn (HN.out.2.1 e)); omega) (by omega) (.int .i64 xk) (.int .i64 x)
  have z0 := (hg3.block W.heap.size (lt_heapV x0) (fun e => by have := Option.some.inj e; omega)).trans x0
  have HK3 := Lib.hid (((Kb.of_below HB1.out).trans hk2).aside hg3 (by omega))
  have hs3 := hg3.size
  clear hr2 hk2 hg3 x0 x1 v0 v1 u0 u1 f0 f1 q0 q1
  generalize (w2.setCell ⟨W.heap.size + 1, 0, none⟩ (.int .i64 xk)).setCell ⟨W.heap.size + 1, 1, none⟩ (.int .i64 x) = w3 at hr3 z0 z1 HK3 hs3 ⊢
  have HT3 := Lib.hid (HT2.out _ hr3)
  have HZ0 := Lib.hid z0
  have HZ1 := Lib.hid z1
  have hz0 := lt_heapV z0
  have hz1 := lt_heapV z1
  clear z0 z1 hr3
  go_upto_region 9 with (go_at_call 37; refine HT3.out.mono ?_; rintro e w4 ⟨rfl, hr4, hk4⟩; have hs9 := hk4.size; have x0 := (hk4.block W.heap.size (by omega) (by omega)).trans HZ0.out; have x1 := (hk4.block (W.heap.size + 1) (by omega) (by omega)).trans HZ1.out; obtain ⟨v0, v1⟩ := two_cellsV x0; obtain ⟨u0, u1⟩ := two_cellsV x1; have f0 := fun j => frozV x0 j; have f1 := fun j => frozV x1 j; have q0 := lt_heapV x0; have q1 := lt_heapV x1)
  obtain ⟨hr3, z0, hg3⟩ := hr4.two x0 (by omega) (fun g o s hA hn => by have := HLB.out.1 g o s hA (fun e => hn (HN.out.2.2.1 e)); omega) (fun g o s hA hn => by have := HLB.out.2 g o s hA (fun e => hn (HN.out.2.2.2 e)); omega) (by omega) (.int .i64 yk) (.int .i64 y)
  have z1 := (hg3.block (W.heap.size + 1) (lt_heapV x1) (fun e => by have := Option.some.inj e; omega)).trans x1
  have HK3 := Lib.hid ((HK3.out.trans hk4).aside hg3 (by omega))
  clear hg3 x0 x1 v0 v1 u0 u1 f0 f1 q0 q1
  generalize (w4.setCell ⟨W.heap.size, 0, none⟩ (.int .i64 yk)).setCell ⟨W.heap.size, 1, none⟩ (.int .i64 y) = w5 at hr3 z0 z1 HK3 ⊢
  obtain ⟨v0, v1⟩ := two_cellsV z0
  obtain ⟨u0, u1⟩ := two_cellsV z1
  have q0 := lt_heapV z0
  have q1 := lt_heapV z1
  have HC := Lib.hid (fun w => rcomp_any 21 y x HV2.out.1 HV2.out.2 w)
  obtain ⟨n, hn⟩ : ∃ n, compV 21 y x = n := ⟨_, rfl⟩
  obtain ⟨u, hu⟩ : ∃ u, compE 21 x = u := ⟨_, rfl⟩
  rw [hn, hu] at HC HS
  clear hn hu
  have HF := Lib.hid (hfail_any hr3 u)
  have hlen : r2.ss.length ≤ 900000 := by have := HL1.out; have := HL2.out; omega
  clear hr3 z0 z1
  go_wp2_with (first | (go_at_call 38; refine (HC.out _).mono ?_; rintro e w6 ⟨rfl, rfl⟩) | (go_at_call 39; refine HF.out.mono ?_; rintro e w6 ⟨rfl, hr6, hk6⟩) | (go_at_call 40; refine (put_any hr6 1 n (by rw [failS_ss]; omega)).mono ?_; rintro e w8 hr8; have HR := Lib.hid hr8; obtain ⟨rfl, _⟩ := hr8))
  go_end0
  rw [HS.out]
  exact HdEx.after (HK3.out.trans hk6) (fun g => by rw [failS_ls]; exact HN.out.2.2.1 g) (fun g => by rw [failS_ss]; exact HN.out.2.2.2 g) HR.out
set_option maxRecDepth 100000 in
set_option maxHeartbeats 1000000 in
theorem numr_22 {w0 W : World} {b : Nat} {h : Hd8} {r : Rs} {lA : Option Addr} {lc : Nat} {sA : Option Addr} {sc : Nat} (H : HdSt w0 W b h r lA lc sA sc) (hl : r.ss.length ≤ 900000) (hv : VsIn r.ss) :
    Calls Try.prog 24 #[.pointer (some ⟨b, 0, none⟩), .int .i64 22] W (HdEx w0 W b h r (numR 22 r) lA sA (.tuple #[])) := by
  have HLB := Lib.hid H.lb
  have hz := lt_heapV H.box
  have hbw := H.bel.size
  have R0 := laid_old (o' := (.cells #[.int .i64 0, .int .i64 0] 42)) (World.alloc_heap_new W (.cells #[.int .i64 0, .int .i64 0] 42))
  have R1 := World.alloc_heap_new (W.alloc (.cells #[.int .i64 0, .int .i64 0] 42)) (.cells #[.int .i64 0, .int .i64 0] 42)
  have hsz : (W.alloc (.cells #[.int .i64 0, .int .i64 0] 42)).heap.size = W.heap.size + 1 := by simp
  rw [hsz] at R1
  have hlt2 : W.heap.size + 2 ≤ ((W.alloc (.cells #[.int .i64 0, .int .i64 0] 42)).alloc (.cells #[.int .i64 0, .int .i64 0] 42)).heap.size := by simp
  have hB := below_al (below_al (Below.refl W.heap.size W) (.cells #[.int .i64 0, .int .i64 0] 42)) (.cells #[.int .i64 0, .int .i64 0] 42)
  have HH1 := Lib.hid (H.up hB)
  have HN := Lib.hid (show (r.ls = [] → (takeS 1 r).ls = []) ∧ (r.ss = [] → (takeS 1 r).ss = []) ∧ (r.ls = [] → (takeS 1 (takeS 1 r)).ls = []) ∧ (r.ss = [] → (takeS 1 (takeS 1 r)).ss = []) from ⟨fun g => by rw [takeS_ls]; exact g, fun g => takeS_nil g, fun g => by rw [takeS_ls, takeS_ls]; exact g, fun g => takeS_nil (takeS_nil g)⟩)
  have HL1 := Lib.hid (takeS_len 1 r)
  have HL2 := Lib.hid (takeS_len 1 (takeS 1 r))
  have HV1 := Lib.hid (takeV_rg hv)
  have HV2 := Lib.hid (takeV_rg (takeS_in (k := 1) hv))
  have HLS := Lib.hid (show (takeS 1 r).ls = r.ls ∧ (takeS 1 (takeS 1 r)).ls = r.ls from ⟨takeS_ls _ _, by rw [takeS_ls, takeS_ls]⟩)
  go_enter Try.func24, Try.ntmps24
  go_upto_region 6 with fail
  generalize (W.alloc (.cells #[.int .i64 0, .int .i64 0] 42)).alloc (.cells #[.int .i64 0, .int .i64 0] 42) = W1 at R0 R1 hB hlt2 HH1 ⊢
  have HB1 := Lib.hid hB
  have HR0 := Lib.hid R0
  have HR1 := Lib.hid R1
  have y0 := lt_heapV R0
  have y1 := lt_heapV R1
  clear R0 R1 hB hsz H
  have HS := Lib.hid (show numR 22 r = putS 1 (compV 22 (takeV (takeS 1 r)).2 (takeV r).2) (failS (compE 22 (takeV r).2) (takeS 1 (takeS 1 r))) from rfl)
  have HT := Lib.hid (take_any HH1.out 1 (by omega))
  have HT2 := Lib.hid (fun (W : World) (H : HdSt w0 W b h (takeS 1 r) lA lc sA sc) => take_any H 1 (by have := HL1.out; omega))
  obtain ⟨r1, hr1⟩ : ∃ r1, takeS 1 r = r1 := ⟨_, rfl⟩
  obtain ⟨⟨xk, x⟩, hx⟩ : ∃ x, takeV r = x := ⟨_, rfl⟩
  rw [hr1, hx] at HT HS
  rw [hr1] at HN HLS HL1 HT2 HV2 HL2
  clear hx hr1 HV1
  obtain ⟨r2, hr2⟩ : ∃ r2, takeS 1 r1 = r2 := ⟨_, rfl⟩
  obtain ⟨⟨yk, y⟩, hy⟩ : ∃ x, takeV r1 = x := ⟨_, rfl⟩
  rw [hr2, hy] at HT2 HS
  rw [hr2] at HN HLS HL2
  rw [hy] at HV2
  clear hr2 hy
  dsimp only at HT HS HV2 HT2
  go_upto_region 8 with (go_at_call 37; refine HT.out.mono ?_; rintro e w2 ⟨rfl, hr2, hk2⟩; have hs9 := hk2.size; have x0 := (hk2.block W.heap.size (by omega) (by omega)).trans HR0.out; have x1 := (hk2.block (W.heap.size + 1) (by omega) (by omega)).trans HR1.out; obtain ⟨v0, v1⟩ := two_cellsV x0; obtain ⟨u0, u1⟩ := two_cellsV x1; have f0 := fun j => frozV x0 j; have f1 := fun j => frozV x1 j; have q0 := lt_heapV x0; have q1 := lt_heapV x1)
  obtain ⟨hr3, z1, hg3⟩ := hr2.two x1 (by omega) (fun g o s hA hn => by have := HLB.out.1 g o s hA (fun e => hn (HN.out.1 e)); omega) (fun g o s hA hn => by have := HLB.out.2 g o s hA (fun e => hn (HN.out.2.1 e)); omega) (by omega) (.int .i64 xk) (.int .i64 x)
  have z0 := (hg3.block W.heap.size (lt_heapV x0) (fun e => by have := Option.some.inj e; omega)).trans x0
  have HK3 := Lib.hid (((Kb.of_below HB1.out).trans hk2).aside hg3 (by omega))
  have hs3 := hg3.size
  clear hr2 hk2 hg3 x0 x1 v0 v1 u0 u1 f0 f1 q0 q1
  generalize (w2.setCell ⟨W.heap.size + 1, 0, none⟩ (.int .i64 xk)).setCell ⟨W.heap.size + 1, 1, none⟩ (.int .i64 x) = w3 at hr3 z0 z1 HK3 hs3 ⊢
  have HT3 := Lib.hid (HT2.out _ hr3)
  have HZ0 := Lib.hid z0
  have HZ1 := Lib.hid z1
  have hz0 := lt_heapV z0
  have hz1 := lt_heapV z1
  clear z0 z1 hr3
  go_upto_region 9 with (go_at_call 37; refine HT3.out.mono ?_; rintro e w4 ⟨rfl, hr4, hk4⟩; have hs9 := hk4.size; have x0 := (hk4.block W.heap.size (by omega) (by omega)).trans HZ0.out; have x1 := (hk4.block (W.heap.size + 1) (by omega) (by omega)).trans HZ1.out; obtain ⟨v0, v1⟩ := two_cellsV x0; obtain ⟨u0, u1⟩ := two_cellsV x1; have f0 := fun j => frozV x0 j; have f1 := fun j => frozV x1 j; have q0 := lt_heapV x0; have q1 := lt_heapV x1)
  obtain ⟨hr3, z0, hg3⟩ := hr4.two x0 (by omega) (fun g o s hA hn => by have := HLB.out.1 g o s hA (fun e => hn (HN.out.2.2.1 e)); omega) (fun g o s hA hn => by have := HLB.out.2 g o s hA (fun e => hn (HN.out.2.2.2 e)); omega) (by omega) (.int .i64 yk) (.int .i64 y)
  have z1 := (hg3.block (W.heap.size + 1) (lt_heapV x1) (fun e => by have := Option.some.inj e; omega)).trans x1
  have HK3 := Lib.hid ((HK3.out.trans hk4).aside hg3 (by omega))
  clear hg3 x0 x1 v0 v1 u0 u1 f0 f1 q0 q1
  generalize (w4.setCell ⟨W.heap.size, 0, none⟩ (.int .i64 yk)).setCell ⟨W.heap.size, 1, none⟩ (.int .i64 y) = w5 at hr3 z0 z1 HK3 ⊢
  obtain ⟨v0, v1⟩ := two_cellsV z0
  obtain ⟨u0, u1⟩ := two_cellsV z1
  have q0 := lt_heapV z0
  have q1 := lt_heapV z1
  have HC := Lib.hid (fun w => rcomp_any 22 y x HV2.out.1 HV2.out.2 w)
  obtain ⟨n, hn⟩ : ∃ n, compV 22 y x = n := ⟨_, rfl⟩
  obtain ⟨u, hu⟩ : ∃ u, compE 22 x = u := ⟨_, rfl⟩
  rw [hn, hu] at HC HS
  clear hn hu
  have HF := Lib.hid (hfail_any hr3 u)
  have hlen : r2.ss.length ≤ 900000 := by have := HL1.out; have := HL2.out; omega
  clear hr3 z0 z1
  go_wp2_with (first | (go_at_call 38; refine (HC.out _).mono ?_; rintro e w6 ⟨rfl, rfl⟩) | (go_at_call 39; refine HF.out.mono ?_; rintro e w6 ⟨rfl, hr6, hk6⟩) | (go_at_call 40; refine (put_any hr6 1 n (by rw [failS_ss]; omega)).mono ?_; rintro e w8 hr8; have HR := Lib.hid hr8; obtain ⟨rfl, _⟩ := hr8))
  go_end0
  rw [HS.out]
  exact HdEx.after (HK3.out.trans hk6) (fun g => by rw [failS_ls]; exact HN.out.2.2.1 g) (fun g => by rw [failS_ss]; exact HN.out.2.2.2 g) HR.out
set_option maxRecDepth 100000 in
set_option maxHeartbeats 1000000 in
theorem numr_23 {w0 W : World} {b : Nat} {h : Hd8} {r : Rs} {lA : Option Addr} {lc : Nat} {sA : Option Addr} {sc : Nat} (H : HdSt w0 W b h r lA lc sA sc) (hl : r.ss.length ≤ 900000) (hv : VsIn r.ss) :
    Calls Try.prog 24 #[.pointer (some ⟨b, 0, none⟩), .int .i64 23] W (HdEx w0 W b h r (numR 23 r) lA sA (.tuple #[])) := by
  have HLB := Lib.hid H.lb
  have hz := lt_heapV H.box
  have hbw := H.bel.size
  have R0 := laid_old (o' := (.cells #[.int .i64 0, .int .i64 0] 42)) (World.alloc_heap_new W (.cells #[.int .i64 0, .int .i64 0] 42))
  have R1 := World.alloc_heap_new (W.alloc (.cells #[.int .i64 0, .int .i64 0] 42)) (.cells #[.int .i64 0, .int .i64 0] 42)
  have hsz : (W.alloc (.cells #[.int .i64 0, .int .i64 0] 42)).heap.size = W.heap.size + 1 := by simp
  rw [hsz] at R1
  have hlt2 : W.heap.size + 2 ≤ ((W.alloc (.cells #[.int .i64 0, .int .i64 0] 42)).alloc (.cells #[.int .i64 0, .int .i64 0] 42)).heap.size := by simp
  have hB := below_al (below_al (Below.refl W.heap.size W) (.cells #[.int .i64 0, .int .i64 0] 42)) (.cells #[.int .i64 0, .int .i64 0] 42)
  have HH1 := Lib.hid (H.up hB)
  have HN := Lib.hid (show (r.ls = [] → (takeS 1 r).ls = []) ∧ (r.ss = [] → (takeS 1 r).ss = []) ∧ (r.ls = [] → (takeS 1 (takeS 1 r)).ls = []) ∧ (r.ss = [] → (takeS 1 (takeS 1 r)).ss = []) from ⟨fun g => by rw [takeS_ls]; exact g, fun g => takeS_nil g, fun g => by rw [takeS_ls, takeS_ls]; exact g, fun g => takeS_nil (takeS_nil g)⟩)
  have HL1 := Lib.hid (takeS_len 1 r)
  have HL2 := Lib.hid (takeS_len 1 (takeS 1 r))
  have HV1 := Lib.hid (takeV_rg hv)
  have HV2 := Lib.hid (takeV_rg (takeS_in (k := 1) hv))
  have HLS := Lib.hid (show (takeS 1 r).ls = r.ls ∧ (takeS 1 (takeS 1 r)).ls = r.ls from ⟨takeS_ls _ _, by rw [takeS_ls, takeS_ls]⟩)
  go_enter Try.func24, Try.ntmps24
  go_upto_region 6 with fail
  generalize (W.alloc (.cells #[.int .i64 0, .int .i64 0] 42)).alloc (.cells #[.int .i64 0, .int .i64 0] 42) = W1 at R0 R1 hB hlt2 HH1 ⊢
  have HB1 := Lib.hid hB
  have HR0 := Lib.hid R0
  have HR1 := Lib.hid R1
  have y0 := lt_heapV R0
  have y1 := lt_heapV R1
  clear R0 R1 hB hsz H
  have HS := Lib.hid (show numR 23 r = putS 1 (compV 23 (takeV (takeS 1 r)).2 (takeV r).2) (failS (compE 23 (takeV r).2) (takeS 1 (takeS 1 r))) from rfl)
  have HT := Lib.hid (take_any HH1.out 1 (by omega))
  have HT2 := Lib.hid (fun (W : World) (H : HdSt w0 W b h (takeS 1 r) lA lc sA sc) => take_any H 1 (by have := HL1.out; omega))
  obtain ⟨r1, hr1⟩ : ∃ r1, takeS 1 r = r1 := ⟨_, rfl⟩
  obtain ⟨⟨xk, x⟩, hx⟩ : ∃ x, takeV r = x := ⟨_, rfl⟩
  rw [hr1, hx] at HT HS
  rw [hr1] at HN HLS HL1 HT2 HV2 HL2
  clear hx hr1 HV1
  obtain ⟨r2, hr2⟩ : ∃ r2, takeS 1 r1 = r2 := ⟨_, rfl⟩
  obtain ⟨⟨yk, y⟩, hy⟩ : ∃ x, takeV r1 = x := ⟨_, rfl⟩
  rw [hr2, hy] at HT2 HS
  rw [hr2] at HN HLS HL2
  rw [hy] at HV2
  clear hr2 hy
  dsimp only at HT HS HV2 HT2
  go_upto_region 8 with (go_at_call 37; refine HT.out.mono ?_; rintro e w2 ⟨rfl, hr2, hk2⟩; have hs9 := hk2.size; have x0 := (hk2.block W.heap.size (by omega) (by omega)).trans HR0.out; have x1 := (hk2.block (W.heap.size + 1) (by omega) (by omega)).trans HR1.out; obtain ⟨v0, v1⟩ := two_cellsV x0; obtain ⟨u0, u1⟩ := two_cellsV x1; have f0 := fun j => frozV x0 j; have f1 := fun j => frozV x1 j; have q0 := lt_heapV x0; have q1 := lt_heapV x1)
  obtain ⟨hr3, z1, hg3⟩ := hr2.two x1 (by omega) (fun g o s hA hn => by have := HLB.out.1 g o s hA (fun e => hn (HN.out.1 e)); omega) (fun g o s hA hn => by have := HLB.out.2 g o s hA (fun e => hn (HN.out.2.1 e)); omega) (by omega) (.int .i64 xk) (.int .i64 x)
  have z0 := (hg3.block W.heap.size (lt_heapV x0) (fun e => by have := Option.some.inj e; omega)).trans x0
  have HK3 := Lib.hid (((Kb.of_below HB1.out).trans hk2).aside hg3 (by omega))
  have hs3 := hg3.size
  clear hr2 hk2 hg3 x0 x1 v0 v1 u0 u1 f0 f1 q0 q1
  generalize (w2.setCell ⟨W.heap.size + 1, 0, none⟩ (.int .i64 xk)).setCell ⟨W.heap.size + 1, 1, none⟩ (.int .i64 x) = w3 at hr3 z0 z1 HK3 hs3 ⊢
  have HT3 := Lib.hid (HT2.out _ hr3)
  have HZ0 := Lib.hid z0
  have HZ1 := Lib.hid z1
  have hz0 := lt_heapV z0
  have hz1 := lt_heapV z1
  clear z0 z1 hr3
  go_upto_region 9 with (go_at_call 37; refine HT3.out.mono ?_; rintro e w4 ⟨rfl, hr4, hk4⟩; have hs9 := hk4.size; have x0 := (hk4.block W.heap.size (by omega) (by omega)).trans HZ0.out; have x1 := (hk4.block (W.heap.size + 1) (by omega) (by omega)).trans HZ1.out; obtain ⟨v0, v1⟩ := two_cellsV x0; obtain ⟨u0, u1⟩ := two_cellsV x1; have f0 := fun j => frozV x0 j; have f1 := fun j => frozV x1 j; have q0 := lt_heapV x0; have q1 := lt_heapV x1)
  obtain ⟨hr3, z0, hg3⟩ := hr4.two x0 (by omega) (fun g o s hA hn => by have := HLB.out.1 g o s hA (fun e => hn (HN.out.2.2.1 e)); omega) (fun g o s hA hn => by have := HLB.out.2 g o s hA (fun e => hn (HN.out.2.2.2 e)); omega) (by omega) (.int .i64 yk) (.int .i64 y)
  have z1 := (hg3.block (W.heap.size + 1) (lt_heapV x1) (fun e => by have := Option.some.inj e; omega)).trans x1
  have HK3 := Lib.hid ((HK3.out.trans hk4).aside hg3 (by omega))
  clear hg3 x0 x1 v0 v1 u0 u1 f0 f1 q0 q1
  generalize (w4.setCell ⟨W.heap.size, 0, none⟩ (.int .i64 yk)).setCell ⟨W.heap.size, 1, none⟩ (.int .i64 y) = w5 at hr3 z0 z1 HK3 ⊢
  obtain ⟨v0, v1⟩ := two_cellsV z0
  obtain ⟨u0, u1⟩ := two_cellsV z1
  have q0 := lt_heapV z0
  have q1 := lt_heapV z1
  have HC := Lib.hid (fun w => rcomp_any 23 y x HV2.out.1 HV2.out.2 w)
  obtain ⟨n, hn⟩ : ∃ n, compV 23 y x = n := ⟨_, rfl⟩
  obtain ⟨u, hu⟩ : ∃ u, compE 23 x = u := ⟨_, rfl⟩
  rw [hn, hu] at HC HS
  clear hn hu
  have HF := Lib.hid (hfail_any hr3 u)
  have hlen : r2.ss.length ≤ 900000 := by have := HL1.out; have := HL2.out; omega
  clear hr3 z0 z1
  go_wp2_with (first | (go_at_call 38; refine (HC.out _).mono ?_; rintro e w6 ⟨rfl, rfl⟩) | (go_at_call 39; refine HF.out.mono ?_; rintro e w6 ⟨rfl, hr6, hk6⟩) | (go_at_call 40; refine (put_any hr6 1 n (by rw [failS_ss]; omega)).mono ?_; rintro e w8 hr8; have HR := Lib.hid hr8; obtain ⟨rfl, _⟩ := hr8))
  go_end0
  rw [HS.out]
  exact HdEx.after (HK3.out.trans hk6) (fun g => by rw [failS_ls]; exact HN.out.2.2.1 g) (fun g => by rw [failS_ss]; exact HN.out.2.2.2 g) HR.out
set_option maxRecDepth 100000 in
set_option maxHeartbeats 1000000 in
theorem numr_24 {w0 W : World} {b : Nat} {h : Hd8} {r : Rs} {lA : Option Addr} {lc : Nat} {sA : Option Addr} {sc : Nat} (H : HdSt w0 W b h r lA lc sA sc) (hl : r.ss.length ≤ 900000) (hv : VsIn r.ss) :
    Calls Try.prog 24 #[.pointer (some ⟨b, 0, none⟩), .int .i64 24] W (HdEx w0 W b h r (numR 24 r) lA sA (.tuple #[])) := by
  have HLB := Lib.hid H.lb
  have hz := lt_heapV H.box
  have hbw := H.bel.size
  have R0 := laid_old (o' := (.cells #[.int .i64 0, .int .i64 0] 42)) (World.alloc_heap_new W (.cells #[.int .i64 0, .int .i64 0] 42))
  have R1 := World.alloc_heap_new (W.alloc (.cells #[.int .i64 0, .int .i64 0] 42)) (.cells #[.int .i64 0, .int .i64 0] 42)
  have hsz : (W.alloc (.cells #[.int .i64 0, .int .i64 0] 42)).heap.size = W.heap.size + 1 := by simp
  rw [hsz] at R1
  have hlt2 : W.heap.size + 2 ≤ ((W.alloc (.cells #[.int .i64 0, .int .i64 0] 42)).alloc (.cells #[.int .i64 0, .int .i64 0] 42)).heap.size := by simp
  have hB := below_al (below_al (Below.refl W.heap.size W) (.cells #[.int .i64 0, .int .i64 0] 42)) (.cells #[.int .i64 0, .int .i64 0] 42)
  have HH1 := Lib.hid (H.up hB)
  have HN := Lib.hid (show (r.ls = [] → (takeS 1 r).ls = []) ∧ (r.ss = [] → (takeS 1 r).ss = []) ∧ (r.ls = [] → (takeS 1 (takeS 1 r)).ls = []) ∧ (r.ss = [] → (takeS 1 (takeS 1 r)).ss = []) from ⟨fun g => by rw [takeS_ls]; exact g, fun g => takeS_nil g, fun g => by rw [takeS_ls, takeS_ls]; exact g, fun g => takeS_nil (takeS_nil g)⟩)
  have HL1 := Lib.hid (takeS_len 1 r)
  have HL2 := Lib.hid (takeS_len 1 (takeS 1 r))
  have HV1 := Lib.hid (takeV_rg hv)
  have HV2 := Lib.hid (takeV_rg (takeS_in (k := 1) hv))
  have HLS := Lib.hid (show (takeS 1 r).ls = r.ls ∧ (takeS 1 (takeS 1 r)).ls = r.ls from ⟨takeS_ls _ _, by rw [takeS_ls, takeS_ls]⟩)
  go_enter Try.func24, Try.ntmps24
  go_upto_region 6 with fail
  generalize (W.alloc (.cells #[.int .i64 0, .int .i64 0] 42)).alloc (.cells #[.int .i64 0, .int .i64 0] 42) = W1 at R0 R1 hB hlt2 HH1 ⊢
  have HB1 := Lib.hid hB
  have HR0 := Lib.hid R0
  have HR1 := Lib.hid R1
  have y0 := lt_heapV R0
  have y1 := lt_heapV R1
  clear R0 R1 hB hsz H
  have HS := Lib.hid (show numR 24 r = putS 1 (compV 24 (takeV (takeS 1 r)).2 (takeV r).2) (failS (compE 24 (takeV r).2) (takeS 1 (takeS 1 r))) from rfl)
  have HT := Lib.hid (take_any HH1.out 1 (by omega))
  have HT2 := Lib.hid (fun (W : World) (H : HdSt w0 W b h (takeS 1 r) lA lc sA sc) => take_any H 1 (by have := HL1.out; omega))
  obtain ⟨r1, hr1⟩ : ∃ r1, takeS 1 r = r1 := ⟨_, rfl⟩
  obtain ⟨⟨xk, x⟩, hx⟩ : ∃ x, takeV r = x := ⟨_, rfl⟩
  rw [hr1, hx] at HT HS
  rw [hr1] at HN HLS HL1 HT2 HV2 HL2
  clear hx hr1 HV1
  obtain ⟨r2, hr2⟩ : ∃ r2, takeS 1 r1 = r2 := ⟨_, rfl⟩
  obtain ⟨⟨yk, y⟩, hy⟩ : ∃ x, takeV r1 = x := ⟨_, rfl⟩
  rw [hr2, hy] at HT2 HS
  rw [hr2] at HN HLS HL2
  rw [hy] at HV2
  clear hr2 hy
  dsimp only at HT HS HV2 HT2
  go_upto_region 8 with (go_at_call 37; refine HT.out.mono ?_; rintro e w2 ⟨rfl, hr2, hk2⟩; have hs9 := hk2.size; have x0 := (hk2.block W.heap.size (by omega) (by omega)).trans HR0.out; have x1 := (hk2.block (W.heap.size + 1) (by omega) (by omega)).trans HR1.out; obtain ⟨v0, v1⟩ := two_cellsV x0; obtain ⟨u0, u1⟩ := two_cellsV x1; have f0 := fun j => frozV x0 j; have f1 := fun j => frozV x1 j; have q0 := lt_heapV x0; have q1 := lt_heapV x1)
  obtain ⟨hr3, z1, hg3⟩ := hr2.two x1 (by omega) (fun g o s hA hn => by have := HLB.out.1 g o s hA (fun e => hn (HN.out.1 e)); omega) (fun g o s hA hn => by have := HLB.out.2 g o s hA (fun e => hn (HN.out.2.1 e)); omega) (by omega) (.int .i64 xk) (.int .i64 x)
  have z0 := (hg3.block W.heap.size (lt_heapV x0) (fun e => by have := Option.some.inj e; omega)).trans x0
  have HK3 := Lib.hid (((Kb.of_below HB1.out).trans hk2).aside hg3 (by omega))
  have hs3 := hg3.size
  clear hr2 hk2 hg3 x0 x1 v0 v1 u0 u1 f0 f1 q0 q1
  generalize (w2.setCell ⟨W.heap.size + 1, 0, none⟩ (.int .i64 xk)).setCell ⟨W.heap.size + 1, 1, none⟩ (.int .i64 x) = w3 at hr3 z0 z1 HK3 hs3 ⊢
  have HT3 := Lib.hid (HT2.out _ hr3)
  have HZ0 := Lib.hid z0
  have HZ1 := Lib.hid z1
  have hz0 := lt_heapV z0
  have hz1 := lt_heapV z1
  clear z0 z1 hr3
  go_upto_region 9 with (go_at_call 37; refine HT3.out.mono ?_; rintro e w4 ⟨rfl, hr4, hk4⟩; have hs9 := hk4.size; have x0 := (hk4.block W.heap.size (by omega) (by omega)).trans HZ0.out; have x1 := (hk4.block (W.heap.size + 1) (by omega) (by omega)).trans HZ1.out; obtain ⟨v0, v1⟩ := two_cellsV x0; obtain ⟨u0, u1⟩ := two_cellsV x1; have f0 := fun j => frozV x0 j; have f1 := fun j => frozV x1 j; have q0 := lt_heapV x0; have q1 := lt_heapV x1)
  obtain ⟨hr3, z0, hg3⟩ := hr4.two x0 (by omega) (fun g o s hA hn => by have := HLB.out.1 g o s hA (fun e => hn (HN.out.2.2.1 e)); omega) (fun g o s hA hn => by have := HLB.out.2 g o s hA (fun e => hn (HN.out.2.2.2 e)); omega) (by omega) (.int .i64 yk) (.int .i64 y)
  have z1 := (hg3.block (W.heap.size + 1) (lt_heapV x1) (fun e => by have := Option.some.inj e; omega)).trans x1
  have HK3 := Lib.hid ((HK3.out.trans hk4).aside hg3 (by omega))
  clear hg3 x0 x1 v0 v1 u0 u1 f0 f1 q0 q1
  generalize (w4.setCell ⟨W.heap.size, 0, none⟩ (.int .i64 yk)).setCell ⟨W.heap.size, 1, none⟩ (.int .i64 y) = w5 at hr3 z0 z1 HK3 ⊢
  obtain ⟨v0, v1⟩ := two_cellsV z0
  obtain ⟨u0, u1⟩ := two_cellsV z1
  have q0 := lt_heapV z0
  have q1 := lt_heapV z1
  have HC := Lib.hid (fun w => rcomp_any 24 y x HV2.out.1 HV2.out.2 w)
  obtain ⟨n, hn⟩ : ∃ n, compV 24 y x = n := ⟨_, rfl⟩
  obtain ⟨u, hu⟩ : ∃ u, compE 24 x = u := ⟨_, rfl⟩
  rw [hn, hu] at HC HS
  clear hn hu
  have HF := Lib.hid (hfail_any hr3 u)
  have hlen : r2.ss.length ≤ 900000 := by have := HL1.out; have := HL2.out; omega
  clear hr3 z0 z1
  go_wp2_with (first | (go_at_call 38; refine (HC.out _).mono ?_; rintro e w6 ⟨rfl, rfl⟩) | (go_at_call 39; refine HF.out.mono ?_; rintro e w6 ⟨rfl, hr6, hk6⟩) | (go_at_call 40; refine (put_any hr6 1 n (by rw [failS_ss]; omega)).mono ?_; rintro e w8 hr8; have HR := Lib.hid hr8; obtain ⟨rfl, _⟩ := hr8))
  go_end0
  rw [HS.out]
  exact HdEx.after (HK3.out.trans hk6) (fun g => by rw [failS_ls]; exact HN.out.2.2.1 g) (fun g => by rw [failS_ss]; exact HN.out.2.2.2 g) HR.out
set_option maxRecDepth 100000 in
set_option maxHeartbeats 1000000 in
theorem numr_25 {w0 W : World} {b : Nat} {h : Hd8} {r : Rs} {lA : Option Addr} {lc : Nat} {sA : Option Addr} {sc : Nat} (H : HdSt w0 W b h r lA lc sA sc) (hl : r.ss.length ≤ 900000) (hv : VsIn r.ss) :
    Calls Try.prog 24 #[.pointer (some ⟨b, 0, none⟩), .int .i64 25] W (HdEx w0 W b h r (numR 25 r) lA sA (.tuple #[])) := by
  have HLB := Lib.hid H.lb
  have hz := lt_heapV H.box
  have hbw := H.bel.size
  have R0 := laid_old (o' := (.cells #[.int .i64 0, .int .i64 0] 42)) (World.alloc_heap_new W (.cells #[.int .i64 0, .int .i64 0] 42))
  have R1 := World.alloc_heap_new (W.alloc (.cells #[.int .i64 0, .int .i64 0] 42)) (.cells #[.int .i64 0, .int .i64 0] 42)
  have hsz : (W.alloc (.cells #[.int .i64 0, .int .i64 0] 42)).heap.size = W.heap.size + 1 := by simp
  rw [hsz] at R1
  have hlt2 : W.heap.size + 2 ≤ ((W.alloc (.cells #[.int .i64 0, .int .i64 0] 42)).alloc (.cells #[.int .i64 0, .int .i64 0] 42)).heap.size := by simp
  have hB := below_al (below_al (Below.refl W.heap.size W) (.cells #[.int .i64 0, .int .i64 0] 42)) (.cells #[.int .i64 0, .int .i64 0] 42)
  have HH1 := Lib.hid (H.up hB)
  have HN := Lib.hid (show (r.ls = [] → (takeS 1 r).ls = []) ∧ (r.ss = [] → (takeS 1 r).ss = []) ∧ (r.ls = [] → (takeS 1 (takeS 1 r)).ls = []) ∧ (r.ss = [] → (takeS 1 (takeS 1 r)).ss = []) from ⟨fun g => by rw [takeS_ls]; exact g, fun g => takeS_nil g, fun g => by rw [takeS_ls, takeS_ls]; exact g, fun g => takeS_nil (takeS_nil g)⟩)
  have HL1 := Lib.hid (takeS_len 1 r)
  have HL2 := Lib.hid (takeS_len 1 (takeS 1 r))
  have HV1 := Lib.hid (takeV_rg hv)
  have HV2 := Lib.hid (takeV_rg (takeS_in (k := 1) hv))
  have HLS := Lib.hid (show (takeS 1 r).ls = r.ls ∧ (takeS 1 (takeS 1 r)).ls = r.ls from ⟨takeS_ls _ _, by rw [takeS_ls, takeS_ls]⟩)
  go_enter Try.func24, Try.ntmps24
  go_upto_region 6 with fail
  generalize (W.alloc (.cells #[.int .i64 0, .int .i64 0] 42)).alloc (.cells #[.int .i64 0, .int .i64 0] 42) = W1 at R0 R1 hB hlt2 HH1 ⊢
  have HB1 := Lib.hid hB
  have HR0 := Lib.hid R0
  have HR1 := Lib.hid R1
  have y0 := lt_heapV R0
  have y1 := lt_heapV R1
  clear R0 R1 hB hsz H
  have HS := Lib.hid (show numR 25 r = putS 1 (compV 25 (takeV (takeS 1 r)).2 (takeV r).2) (failS (compE 25 (takeV r).2) (takeS 1 (takeS 1 r))) from rfl)
  have HT := Lib.hid (take_any HH1.out 1 (by omega))
  have HT2 := Lib.hid (fun (W : World) (H : HdSt w0 W b h (takeS 1 r) lA lc sA sc) => take_any H 1 (by have := HL1.out; omega))
  obtain ⟨r1, hr1⟩ : ∃ r1, takeS 1 r = r1 := ⟨_, rfl⟩
  obtain ⟨⟨xk, x⟩, hx⟩ : ∃ x, takeV r = x := ⟨_, rfl⟩
  rw [hr1, hx] at HT HS
  rw [hr1] at HN HLS HL1 HT2 HV2 HL2
  clear hx hr1 HV1
  obtain ⟨r2, hr2⟩ : ∃ r2, takeS 1 r1 = r2 := ⟨_, rfl⟩
  obtain ⟨⟨yk, y⟩, hy⟩ : ∃ x, takeV r1 = x := ⟨_, rfl⟩
  rw [hr2, hy] at HT2 HS
  rw [hr2] at HN HLS HL2
  rw [hy] at HV2
  clear hr2 hy
  dsimp only at HT HS HV2 HT2
  go_upto_region 8 with (go_at_call 37; refine HT.out.mono ?_; rintro e w2 ⟨rfl, hr2, hk2⟩; have hs9 := hk2.size; have x0 := (hk2.block W.heap.size (by omega) (by omega)).trans HR0.out; have x1 := (hk2.block (W.heap.size + 1) (by omega) (by omega)).trans HR1.out; obtain ⟨v0, v1⟩ := two_cellsV x0; obtain ⟨u0, u1⟩ := two_cellsV x1; have f0 := fun j => frozV x0 j; have f1 := fun j => frozV x1 j; have q0 := lt_heapV x0; have q1 := lt_heapV x1)
  obtain ⟨hr3, z1, hg3⟩ := hr2.two x1 (by omega) (fun g o s hA hn => by have := HLB.out.1 g o s hA (fun e => hn (HN.out.1 e)); omega) (fun g o s hA hn => by have := HLB.out.2 g o s hA (fun e => hn (HN.out.2.1 e)); omega) (by omega) (.int .i64 xk) (.int .i64 x)
  have z0 := (hg3.block W.heap.size (lt_heapV x0) (fun e => by have := Option.some.inj e; omega)).trans x0
  have HK3 := Lib.hid (((Kb.of_below HB1.out).trans hk2).aside hg3 (by omega))
  have hs3 := hg3.size
  clear hr2 hk2 hg3 x0 x1 v0 v1 u0 u1 f0 f1 q0 q1
  generalize (w2.setCell ⟨W.heap.size + 1, 0, none⟩ (.int .i64 xk)).setCell ⟨W.heap.size + 1, 1, none⟩ (.int .i64 x) = w3 at hr3 z0 z1 HK3 hs3 ⊢
  have HT3 := Lib.hid (HT2.out _ hr3)
  have HZ0 := Lib.hid z0
  have HZ1 := Lib.hid z1
  have hz0 := lt_heapV z0
  have hz1 := lt_heapV z1
  clear z0 z1 hr3
  go_upto_region 9 with (go_at_call 37; refine HT3.out.mono ?_; rintro e w4 ⟨rfl, hr4, hk4⟩; have hs9 := hk4.size; have x0 := (hk4.block W.heap.size (by omega) (by omega)).trans HZ0.out; have x1 := (hk4.block (W.heap.size + 1) (by omega) (by omega)).trans HZ1.out; obtain ⟨v0, v1⟩ := two_cellsV x0; obtain ⟨u0, u1⟩ := two_cellsV x1; have f0 := fun j => frozV x0 j; have f1 := fun j => frozV x1 j; have q0 := lt_heapV x0; have q1 := lt_heapV x1)
  obtain ⟨hr3, z0, hg3⟩ := hr4.two x0 (by omega) (fun g o s hA hn => by have := HLB.out.1 g o s hA (fun e => hn (HN.out.2.2.1 e)); omega) (fun g o s hA hn => by have := HLB.out.2 g o s hA (fun e => hn (HN.out.2.2.2 e)); omega) (by omega) (.int .i64 yk) (.int .i64 y)
  have z1 := (hg3.block (W.heap.size + 1) (lt_heapV x1) (fun e => by have := Option.some.inj e; omega)).trans x1
  have HK3 := Lib.hid ((HK3.out.trans hk4).aside hg3 (by omega))
  clear hg3 x0 x1 v0 v1 u0 u1 f0 f1 q0 q1
  generalize (w4.setCell ⟨W.heap.size, 0, none⟩ (.int .i64 yk)).setCell ⟨W.heap.size, 1, none⟩ (.int .i64 y) = w5 at hr3 z0 z1 HK3 ⊢
  obtain ⟨v0, v1⟩ := two_cellsV z0
  obtain ⟨u0, u1⟩ := two_cellsV z1
  have q0 := lt_heapV z0
  have q1 := lt_heapV z1
  have HC := Lib.hid (fun w => rcomp_any 25 y x HV2.out.1 HV2.out.2 w)
  obtain ⟨n, hn⟩ : ∃ n, compV 25 y x = n := ⟨_, rfl⟩
  obtain ⟨u, hu⟩ : ∃ u, compE 25 x = u := ⟨_, rfl⟩
  rw [hn, hu] at HC HS
  clear hn hu
  have HF := Lib.hid (hfail_any hr3 u)
  have hlen : r2.ss.length ≤ 900000 := by have := HL1.out; have := HL2.out; omega
  clear hr3 z0 z1
  go_wp2_with (first | (go_at_call 38; refine (HC.out _).mono ?_; rintro e w6 ⟨rfl, rfl⟩) | (go_at_call 39; refine HF.out.mono ?_; rintro e w6 ⟨rfl, hr6, hk6⟩) | (go_at_call 40; refine (put_any hr6 1 n (by rw [failS_ss]; omega)).mono ?_; rintro e w8 hr8; have HR := Lib.hid hr8; obtain ⟨rfl, _⟩ := hr8))
  go_end0
  rw [HS.out]
  exact HdEx.after (HK3.out.trans hk6) (fun g => by rw [failS_ls]; exact HN.out.2.2.1 g) (fun g => by rw [failS_ss]; exact HN.out.2.2.2 g) HR.out
set_option maxRecDepth 100000 in
set_option maxHeartbeats 1000000 in
theorem numr_26 {w0 W : World} {b : Nat} {h : Hd8} {r : Rs} {lA : Option Addr} {lc : Nat} {sA : Option Addr} {sc : Nat} (H : HdSt w0 W b h r lA lc sA sc) (hl : r.ss.length ≤ 900000) (hv : VsIn r.ss) :
    Calls Try.prog 24 #[.pointer (some ⟨b, 0, none⟩), .int .i64 26] W (HdEx w0 W b h r (numR 26 r) lA sA (.tuple #[])) := by
  have HLB := Lib.hid H.lb
  have hz := lt_heapV H.box
  have hbw := H.bel.size
  have R0 := laid_old (o' := (.cells #[.int .i64 0, .int .i64 0] 42)) (World.alloc_heap_new W (.cells #[.int .i64 0, .int .i64 0] 42))
  have R1 := World.alloc_heap_new (W.alloc (.cells #[.int .i64 0, .int .i64 0] 42)) (.cells #[.int .i64 0, .int .i64 0] 42)
  have hsz : (W.alloc (.cells #[.int .i64 0, .int .i64 0] 42)).heap.size = W.heap.size + 1 := by simp
  rw [hsz] at R1
  have hlt2 : W.heap.size + 2 ≤ ((W.alloc (.cells #[.int .i64 0, .int .i64 0] 42)).alloc (.cells #[.int .i64 0, .int .i64 0] 42)).heap.size := by simp
  have hB := below_al (below_al (Below.refl W.heap.size W) (.cells #[.int .i64 0, .int .i64 0] 42)) (.cells #[.int .i64 0, .int .i64 0] 42)
  have HH1 := Lib.hid (H.up hB)
  have HN := Lib.hid (show (r.ls = [] → (takeS 1 r).ls = []) ∧ (r.ss = [] → (takeS 1 r).ss = []) ∧ (r.ls = [] → (takeS 1 (takeS 1 r)).ls = []) ∧ (r.ss = [] → (takeS 1 (takeS 1 r)).ss = []) from ⟨fun g => by rw [takeS_ls]; exact g, fun g => takeS_nil g, fun g => by rw [takeS_ls, takeS_ls]; exact g, fun g => takeS_nil (takeS_nil g)⟩)
  have HL1 := Lib.hid (takeS_len 1 r)
  have HL2 := Lib.hid (takeS_len 1 (takeS 1 r))
  have HV1 := Lib.hid (takeV_rg hv)
  have HV2 := Lib.hid (takeV_rg (takeS_in (k := 1) hv))
  have HLS := Lib.hid (show (takeS 1 r).ls = r.ls ∧ (takeS 1 (takeS 1 r)).ls = r.ls from ⟨takeS_ls _ _, by rw [takeS_ls, takeS_ls]⟩)
  go_enter Try.func24, Try.ntmps24
  go_upto_region 6 with fail
  generalize (W.alloc (.cells #[.int .i64 0, .int .i64 0] 42)).alloc (.cells #[.int .i64 0, .int .i64 0] 42) = W1 at R0 R1 hB hlt2 HH1 ⊢
  have HB1 := Lib.hid hB
  have HR0 := Lib.hid R0
  have HR1 := Lib.hid R1
  have y0 := lt_heapV R0
  have y1 := lt_heapV R1
  clear R0 R1 hB hsz H
  have HS := Lib.hid (show numR 26 r = putS 1 (compV 26 (takeV (takeS 1 r)).2 (takeV r).2) (failS (compE 26 (takeV r).2) (takeS 1 (takeS 1 r))) from rfl)
  have HT := Lib.hid (take_any HH1.out 1 (by omega))
  have HT2 := Lib.hid (fun (W : World) (H : HdSt w0 W b h (takeS 1 r) lA lc sA sc) => take_any H 1 (by have := HL1.out; omega))
  obtain ⟨r1, hr1⟩ : ∃ r1, takeS 1 r = r1 := ⟨_, rfl⟩
  obtain ⟨⟨xk, x⟩, hx⟩ : ∃ x, takeV r = x := ⟨_, rfl⟩
  rw [hr1, hx] at HT HS
  rw [hr1] at HN HLS HL1 HT2 HV2 HL2
  clear hx hr1 HV1
  obtain ⟨r2, hr2⟩ : ∃ r2, takeS 1 r1 = r2 := ⟨_, rfl⟩
  obtain ⟨⟨yk, y⟩, hy⟩ : ∃ x, takeV r1 = x := ⟨_, rfl⟩
  rw [hr2, hy] at HT2 HS
  rw [hr2] at HN HLS HL2
  rw [hy] at HV2
  clear hr2 hy
  dsimp only at HT HS HV2 HT2
  go_upto_region 8 with (go_at_call 37; refine HT.out.mono ?_; rintro e w2 ⟨rfl, hr2, hk2⟩; have hs9 := hk2.size; have x0 := (hk2.block W.heap.size (by omega) (by omega)).trans HR0.out; have x1 := (hk2.block (W.heap.size + 1) (by omega) (by omega)).trans HR1.out; obtain ⟨v0, v1⟩ := two_cellsV x0; obtain ⟨u0, u1⟩ := two_cellsV x1; have f0 := fun j => frozV x0 j; have f1 := fun j => frozV x1 j; have q0 := lt_heapV x0; have q1 := lt_heapV x1)
  obtain ⟨hr3, z1, hg3⟩ := hr2.two x1 (by omega) (fun g o s hA hn => by have := HLB.out.1 g o s hA (fun e => hn (HN.out.1 e)); omega) (fun g o s hA hn => by have := HLB.out.2 g o s hA (fun e => hn (HN.out.2.1 e)); omega) (by omega) (.int .i64 xk) (.int .i64 x)
  have z0 := (hg3.block W.heap.size (lt_heapV x0) (fun e => by have := Option.some.inj e; omega)).trans x0
  have HK3 := Lib.hid (((Kb.of_below HB1.out).trans hk2).aside hg3 (by omega))
  have hs3 := hg3.size
  clear hr2 hk2 hg3 x0 x1 v0 v1 u0 u1 f0 f1 q0 q1
  generalize (w2.setCell ⟨W.heap.size + 1, 0, none⟩ (.int .i64 xk)).setCell ⟨W.heap.size + 1, 1, none⟩ (.int .i64 x) = w3 at hr3 z0 z1 HK3 hs3 ⊢
  have HT3 := Lib.hid (HT2.out _ hr3)
  have HZ0 := Lib.hid z0
  have HZ1 := Lib.hid z1
  have hz0 := lt_heapV z0
  have hz1 := lt_heapV z1
  clear z0 z1 hr3
  go_upto_region 9 with (go_at_call 37; refine HT3.out.mono ?_; rintro e w4 ⟨rfl, hr4, hk4⟩; have hs9 := hk4.size; have x0 := (hk4.block W.heap.size (by omega) (by omega)).trans HZ0.out; have x1 := (hk4.block (W.heap.size + 1) (by omega) (by omega)).trans HZ1.out; obtain ⟨v0, v1⟩ := two_cellsV x0; obtain ⟨u0, u1⟩ := two_cellsV x1; have f0 := fun j => frozV x0 j; have f1 := fun j => frozV x1 j; have q0 := lt_heapV x0; have q1 := lt_heapV x1)
  obtain ⟨hr3, z0, hg3⟩ := hr4.two x0 (by omega) (fun g o s hA hn => by have := HLB.out.1 g o s hA (fun e => hn (HN.out.2.2.1 e)); omega) (fun g o s hA hn => by have := HLB.out.2 g o s hA (fun e => hn (HN.out.2.2.2 e)); omega) (by omega) (.int .i64 yk) (.int .i64 y)
  have z1 := (hg3.block (W.heap.size + 1) (lt_heapV x1) (fun e => by have := Option.some.inj e; omega)).trans x1
  have HK3 := Lib.hid ((HK3.out.trans hk4).aside hg3 (by omega))
  clear hg3 x0 x1 v0 v1 u0 u1 f0 f1 q0 q1
  generalize (w4.setCell ⟨W.heap.size, 0, none⟩ (.int .i64 yk)).setCell ⟨W.heap.size, 1, none⟩ (.int .i64 y) = w5 at hr3 z0 z1 HK3 ⊢
  obtain ⟨v0, v1⟩ := two_cellsV z0
  obtain ⟨u0, u1⟩ := two_cellsV z1
  have q0 := lt_heapV z0
  have q1 := lt_heapV z1
  have HC := Lib.hid (fun w => rcomp_any 26 y x HV2.out.1 HV2.out.2 w)
  obtain ⟨n, hn⟩ : ∃ n, compV 26 y x = n := ⟨_, rfl⟩
  obtain ⟨u, hu⟩ : ∃ u, compE 26 x = u := ⟨_, rfl⟩
  rw [hn, hu] at HC HS
  clear hn hu
  have HF := Lib.hid (hfail_any hr3 u)
  have hlen : r2.ss.length ≤ 900000 := by have := HL1.out; have := HL2.out; omega
  clear hr3 z0 z1
  go_wp2_with (first | (go_at_call 38; refine (HC.out _).mono ?_; rintro e w6 ⟨rfl, rfl⟩) | (go_at_call 39; refine HF.out.mono ?_; rintro e w6 ⟨rfl, hr6, hk6⟩) | (go_at_call 40; refine (put_any hr6 1 n (by rw [failS_ss]; omega)).mono ?_; rintro e w8 hr8; have HR := Lib.hid hr8; obtain ⟨rfl, _⟩ := hr8))
  go_end0
  rw [HS.out]
  exact HdEx.after (HK3.out.trans hk6) (fun g => by rw [failS_ls]; exact HN.out.2.2.1 g) (fun g => by rw [failS_ss]; exact HN.out.2.2.2 g) HR.out
set_option maxRecDepth 100000 in
set_option maxHeartbeats 1000000 in
theorem numr_27 {w0 W : World} {b : Nat} {h : Hd8} {r : Rs} {lA : Option Addr} {lc : Nat} {sA : Option Addr} {sc : Nat} (H : HdSt w0 W b h r lA lc sA sc) (hl : r.ss.length ≤ 900000) (hv : VsIn r.ss) :
    Calls Try.prog 24 #[.pointer (some ⟨b, 0, none⟩), .int .i64 27] W (HdEx w0 W b h r (numR 27 r) lA sA (.tuple #[])) := by
  have HLB := Lib.hid H.lb
  have hz := lt_heapV H.box
  have hbw := H.bel.size
  have R0 := laid_old (o' := (.cells #[.int .i64 0, .int .i64 0] 42)) (World.alloc_heap_new W (.cells #[.int .i64 0, .int .i64 0] 42))
  have R1 := World.alloc_heap_new (W.alloc (.cells #[.int .i64 0, .int .i64 0] 42)) (.cells #[.int .i64 0, .int .i64 0] 42)
  have hsz : (W.alloc (.cells #[.int .i64 0, .int .i64 0] 42)).heap.size = W.heap.size + 1 := by simp
  rw [hsz] at R1
  have hlt2 : W.heap.size + 2 ≤ ((W.alloc (.cells #[.int .i64 0, .int .i64 0] 42)).alloc (.cells #[.int .i64 0, .int .i64 0] 42)).heap.size := by simp
  have hB := below_al (below_al (Below.refl W.heap.size W) (.cells #[.int .i64 0, .int .i64 0] 42)) (.cells #[.int .i64 0, .int .i64 0] 42)
  have HH1 := Lib.hid (H.up hB)
  have HN := Lib.hid (show (r.ls = [] → (takeS 2 r).ls = []) ∧ (r.ss = [] → (takeS 2 r).ss = []) ∧ (r.ls = [] → (takeS 2 (takeS 2 r)).ls = []) ∧ (r.ss = [] → (takeS 2 (takeS 2 r)).ss = []) from ⟨fun g => by rw [takeS_ls]; exact g, fun g => takeS_nil g, fun g => by rw [takeS_ls, takeS_ls]; exact g, fun g => takeS_nil (takeS_nil g)⟩)
  have HL1 := Lib.hid (takeS_len 2 r)
  have HL2 := Lib.hid (takeS_len 2 (takeS 2 r))
  have HV1 := Lib.hid (takeV_rg hv)
  have HV2 := Lib.hid (takeV_rg (takeS_in (k := 2) hv))
  have HLS := Lib.hid (show (takeS 2 r).ls = r.ls ∧ (takeS 2 (takeS 2 r)).ls = r.ls from ⟨takeS_ls _ _, by rw [takeS_ls, takeS_ls]⟩)
  go_enter Try.func24, Try.ntmps24
  go_upto_region 6 with fail
  generalize (W.alloc (.cells #[.int .i64 0, .int .i64 0] 42)).alloc (.cells #[.int .i64 0, .int .i64 0] 42) = W1 at R0 R1 hB hlt2 HH1 ⊢
  have HB1 := Lib.hid hB
  have HR0 := Lib.hid R0
  have HR1 := Lib.hid R1
  have y0 := lt_heapV R0
  have y1 := lt_heapV R1
  clear R0 R1 hB hsz H
  have HS := Lib.hid (show numR 27 r = putS 2 (compV 27 (takeV (takeS 2 r)).2 (takeV r).2) (failS (compE 27 (takeV r).2) (takeS 2 (takeS 2 r))) from rfl)
  have HT := Lib.hid (take_any HH1.out 2 (by omega))
  have HT2 := Lib.hid (fun (W : World) (H : HdSt w0 W b h (takeS 2 r) lA lc sA sc) => take_any H 2 (by have := HL1.out; omega))
  obtain ⟨r1, hr1⟩ : ∃ r1, takeS 2 r = r1 := ⟨_, rfl⟩
  obtain ⟨⟨xk, x⟩, hx⟩ : ∃ x, takeV r = x := ⟨_, rfl⟩
  rw [hr1, hx] at HT HS
  rw [hr1] at HN HLS HL1 HT2 HV2 HL2
  clear hx hr1 HV1
  obtain ⟨r2, hr2⟩ : ∃ r2, takeS 2 r1 = r2 := ⟨_, rfl⟩
  obtain ⟨⟨yk, y⟩, hy⟩ : ∃ x, takeV r1 = x := ⟨_, rfl⟩
  rw [hr2, hy] at HT2 HS
  rw [hr2] at HN HLS HL2
  rw [hy] at HV2
  clear hr2 hy
  dsimp only at HT HS HV2 HT2
  go_upto_region 8 with (go_at_call 37; refine HT.out.mono ?_; rintro e w2 ⟨rfl, hr2, hk2⟩; have hs9 := hk2.size; have x0 := (hk2.block W.heap.size (by omega) (by omega)).trans HR0.out; have x1 := (hk2.block (W.heap.size + 1) (by omega) (by omega)).trans HR1.out; obtain ⟨v0, v1⟩ := two_cellsV x0; obtain ⟨u0, u1⟩ := two_cellsV x1; have f0 := fun j => frozV x0 j; have f1 := fun j => frozV x1 j; have q0 := lt_heapV x0; have q1 := lt_heapV x1)
  obtain ⟨hr3, z1, hg3⟩ := hr2.two x1 (by omega) (fun g o s hA hn => by have := HLB.out.1 g o s hA (fun e => hn (HN.out.1 e)); omega) (fun g o s hA hn => by have := HLB.out.2 g o s hA (fun e => hn (HN.out.2.1 e)); omega) (by omega) (.int .i64 xk) (.int .i64 x)
  have z0 := (hg3.block W.heap.size (lt_heapV x0) (fun e => by have := Option.some.inj e; omega)).trans x0
  have HK3 := Lib.hid (((Kb.of_below HB1.out).trans hk2).aside hg3 (by omega))
  have hs3 := hg3.size
  clear hr2 hk2 hg3 x0 x1 v0 v1 u0 u1 f0 f1 q0 q1
  generalize (w2.setCell ⟨W.heap.size + 1, 0, none⟩ (.int .i64 xk)).setCell ⟨W.heap.size + 1, 1, none⟩ (.int .i64 x) = w3 at hr3 z0 z1 HK3 hs3 ⊢
  have HT3 := Lib.hid (HT2.out _ hr3)
  have HZ0 := Lib.hid z0
  have HZ1 := Lib.hid z1
  have hz0 := lt_heapV z0
  have hz1 := lt_heapV z1
  clear z0 z1 hr3
  go_upto_region 9 with (go_at_call 37; refine HT3.out.mono ?_; rintro e w4 ⟨rfl, hr4, hk4⟩; have hs9 := hk4.size; have x0 := (hk4.block W.heap.size (by omega) (by omega)).trans HZ0.out; have x1 := (hk4.block (W.heap.size + 1) (by omega) (by omega)).trans HZ1.out; obtain ⟨v0, v1⟩ := two_cellsV x0; obtain ⟨u0, u1⟩ := two_cellsV x1; have f0 := fun j => frozV x0 j; have f1 := fun j => frozV x1 j; have q0 := lt_heapV x0; have q1 := lt_heapV x1)
  obtain ⟨hr3, z0, hg3⟩ := hr4.two x0 (by omega) (fun g o s hA hn => by have := HLB.out.1 g o s hA (fun e => hn (HN.out.2.2.1 e)); omega) (fun g o s hA hn => by have := HLB.out.2 g o s hA (fun e => hn (HN.out.2.2.2 e)); omega) (by omega) (.int .i64 yk) (.int .i64 y)
  have z1 := (hg3.block (W.heap.size + 1) (lt_heapV x1) (fun e => by have := Option.some.inj e; omega)).trans x1
  have HK3 := Lib.hid ((HK3.out.trans hk4).aside hg3 (by omega))
  clear hg3 x0 x1 v0 v1 u0 u1 f0 f1 q0 q1
  generalize (w4.setCell ⟨W.heap.size, 0, none⟩ (.int .i64 yk)).setCell ⟨W.heap.size, 1, none⟩ (.int .i64 y) = w5 at hr3 z0 z1 HK3 ⊢
  obtain ⟨v0, v1⟩ := two_cellsV z0
  obtain ⟨u0, u1⟩ := two_cellsV z1
  have q0 := lt_heapV z0
  have q1 := lt_heapV z1
  have HC := Lib.hid (fun w => rcomp_any 27 y x HV2.out.1 HV2.out.2 w)
  obtain ⟨n, hn⟩ : ∃ n, compV 27 y x = n := ⟨_, rfl⟩
  obtain ⟨u, hu⟩ : ∃ u, compE 27 x = u := ⟨_, rfl⟩
  rw [hn, hu] at HC HS
  clear hn hu
  have HF := Lib.hid (hfail_any hr3 u)
  have hlen : r2.ss.length ≤ 900000 := by have := HL1.out; have := HL2.out; omega
  clear hr3 z0 z1
  go_wp2_with (first | (go_at_call 38; refine (HC.out _).mono ?_; rintro e w6 ⟨rfl, rfl⟩) | (go_at_call 39; refine HF.out.mono ?_; rintro e w6 ⟨rfl, hr6, hk6⟩) | (go_at_call 40; refine (put_any hr6 2 n (by rw [failS_ss]; omega)).mono ?_; rintro e w8 hr8; have HR := Lib.hid hr8; obtain ⟨rfl, _⟩ := hr8))
  go_end0
  rw [HS.out]
  exact HdEx.after (HK3.out.trans hk6) (fun g => by rw [failS_ls]; exact HN.out.2.2.1 g) (fun g => by rw [failS_ss]; exact HN.out.2.2.2 g) HR.out
set_option maxRecDepth 100000 in
set_option maxHeartbeats 1000000 in
theorem numr_28 {w0 W : World} {b : Nat} {h : Hd8} {r : Rs} {lA : Option Addr} {lc : Nat} {sA : Option Addr} {sc : Nat} (H : HdSt w0 W b h r lA lc sA sc) (hl : r.ss.length ≤ 900000) (hv : VsIn r.ss) :
    Calls Try.prog 24 #[.pointer (some ⟨b, 0, none⟩), .int .i64 28] W (HdEx w0 W b h r (numR 28 r) lA sA (.tuple #[])) := by
  have HLB := Lib.hid H.lb
  have hz := lt_heapV H.box
  have hbw := H.bel.size
  have R0 := laid_old (o' := (.cells #[.int .i64 0, .int .i64 0] 42)) (World.alloc_heap_new W (.cells #[.int .i64 0, .int .i64 0] 42))
  have R1 := World.alloc_heap_new (W.alloc (.cells #[.int .i64 0, .int .i64 0] 42)) (.cells #[.int .i64 0, .int .i64 0] 42)
  have hsz : (W.alloc (.cells #[.int .i64 0, .int .i64 0] 42)).heap.size = W.heap.size + 1 := by simp
  rw [hsz] at R1
  have hlt2 : W.heap.size + 2 ≤ ((W.alloc (.cells #[.int .i64 0, .int .i64 0] 42)).alloc (.cells #[.int .i64 0, .int .i64 0] 42)).heap.size := by simp
  have hB := below_al (below_al (Below.refl W.heap.size W) (.cells #[.int .i64 0, .int .i64 0] 42)) (.cells #[.int .i64 0, .int .i64 0] 42)
  have HH1 := Lib.hid (H.up hB)
  have HN := Lib.hid (show (r.ls = [] → (takeS 2 r).ls = []) ∧ (r.ss = [] → (takeS 2 r).ss = []) ∧ (r.ls = [] → (takeS 2 (takeS 2 r)).ls = []) ∧ (r.ss = [] → (takeS 2 (takeS 2 r)).ss = []) from ⟨fun g => by rw [takeS_ls]; exact g, fun g => takeS_nil g, fun g => by rw [takeS_ls, takeS_ls]; exact g, fun g => takeS_nil (takeS_nil g)⟩)
  have HL1 := Lib.hid (takeS_len 2 r)
  have HL2 := Lib.hid (takeS_len 2 (takeS 2 r))
  have HV1 := Lib.hid (takeV_rg hv)
  have HV2 := Lib.hid (takeV_rg (takeS_in (k := 2) hv))
  have HLS := Lib.hid (show (takeS 2 r).ls = r.ls ∧ (takeS 2 (takeS 2 r)).ls = r.ls from ⟨takeS_ls _ _, by rw [takeS_ls, takeS_ls]⟩)
  go_enter Try.func24, Try.ntmps24
  go_upto_region 6 with fail
  generalize (W.alloc (.cells #[.int .i64 0, .int .i64 0] 42)).alloc (.cells #[.int .i64 0, .int .i64 0] 42) = W1 at R0 R1 hB hlt2 HH1 ⊢
  have HB1 := Lib.hid hB
  have HR0 := Lib.hid R0
  have HR1 := Lib.hid R1
  have y0 := lt_heapV R0
  have y1 := lt_heapV R1
  clear R0 R1 hB hsz H
  have HS := Lib.hid (show numR 28 r = putS 2 (compV 28 (takeV (takeS 2 r)).2 (takeV r).2) (failS (compE 28 (takeV r).2) (takeS 2 (takeS 2 r))) from rfl)
  have HT := Lib.hid (take_any HH1.out 2 (by omega))
  have HT2 := Lib.hid (fun (W : World) (H : HdSt w0 W b h (takeS 2 r) lA lc sA sc) => take_any H 2 (by have := HL1.out; omega))
  obtain ⟨r1, hr1⟩ : ∃ r1, takeS 2 r = r1 := ⟨_, rfl⟩
  obtain ⟨⟨xk, x⟩, hx⟩ : ∃ x, takeV r = x := ⟨_, rfl⟩
  rw [hr1, hx] at HT HS
  rw [hr1] at HN HLS HL1 HT2 HV2 HL2
  clear hx hr1 HV1
  obtain ⟨r2, hr2⟩ : ∃ r2, takeS 2 r1 = r2 := ⟨_, rfl⟩
  obtain ⟨⟨yk, y⟩, hy⟩ : ∃ x, takeV r1 = x := ⟨_, rfl⟩
  rw [hr2, hy] at HT2 HS
  rw [hr2] at HN HLS HL2
  rw [hy] at HV2
  clear hr2 hy
  dsimp only at HT HS HV2 HT2
  go_upto_region 8 with (go_at_call 37; refine HT.out.mono ?_; rintro e w2 ⟨rfl, hr2, hk2⟩; have hs9 := hk2.size; have x0 := (hk2.block W.heap.size (by omega) (by omega)).trans HR0.out; have x1 := (hk2.block (W.heap.size + 1) (by omega) (by omega)).trans HR1.out; obtain ⟨v0, v1⟩ := two_cellsV x0; obtain ⟨u0, u1⟩ := two_cellsV x1; have f0 := fun j => frozV x0 j; have f1 := fun j => frozV x1 j; have q0 := lt_heapV x0; have q1 := lt_heapV x1)
  obtain ⟨hr3, z1, hg3⟩ := hr2.two x1 (by omega) (fun g o s hA hn => by have := HLB.out.1 g o s hA (fun e => hn (HN.out.1 e)); omega) (fun g o s hA hn => by have := HLB.out.2 g o s hA (fun e => hn (HN.out.2.1 e)); omega) (by omega) (.int .i64 xk) (.int .i64 x)
  have z0 := (hg3.block W.heap.size (lt_heapV x0) (fun e => by have := Option.some.inj e; omega)).trans x0
  have HK3 := Lib.hid (((Kb.of_below HB1.out).trans hk2).aside hg3 (by omega))
  have hs3 := hg3.size
  clear hr2 hk2 hg3 x0 x1 v0 v1 u0 u1 f0 f1 q0 q1
  generalize (w2.setCell ⟨W.heap.size + 1, 0, none⟩ (.int .i64 xk)).setCell ⟨W.heap.size + 1, 1, none⟩ (.int .i64 x) = w3 at hr3 z0 z1 HK3 hs3 ⊢
  have HT3 := Lib.hid (HT2.out _ hr3)
  have HZ0 := Lib.hid z0
  have HZ1 := Lib.hid z1
  have hz0 := lt_heapV z0
  have hz1 := lt_heapV z1
  clear z0 z1 hr3
  go_upto_region 9 with (go_at_call 37; refine HT3.out.mono ?_; rintro e w4 ⟨rfl, hr4, hk4⟩; have hs9 := hk4.size; have x0 := (hk4.block W.heap.size (by omega) (by omega)).trans HZ0.out; have x1 := (hk4.block (W.heap.size + 1) (by omega) (by omega)).trans HZ1.out; obtain ⟨v0, v1⟩ := two_cellsV x0; obtain ⟨u0, u1⟩ := two_cellsV x1; have f0 := fun j => frozV x0 j; have f1 := fun j => frozV x1 j; have q0 := lt_heapV x0; have q1 := lt_heapV x1)
  obtain ⟨hr3, z0, hg3⟩ := hr4.two x0 (by omega) (fun g o s hA hn => by have := HLB.out.1 g o s hA (fun e => hn (HN.out.2.2.1 e)); omega) (fun g o s hA hn => by have := HLB.out.2 g o s hA (fun e => hn (HN.out.2.2.2 e)); omega) (by omega) (.int .i64 yk) (.int .i64 y)
  have z1 := (hg3.block (W.heap.size + 1) (lt_heapV x1) (fun e => by have := Option.some.inj e; omega)).trans x1
  have HK3 := Lib.hid ((HK3.out.trans hk4).aside hg3 (by omega))
  clear hg3 x0 x1 v0 v1 u0 u1 f0 f1 q0 q1
  generalize (w4.setCell ⟨W.heap.size, 0, none⟩ (.int .i64 yk)).setCell ⟨W.heap.size, 1, none⟩ (.int .i64 y) = w5 at hr3 z0 z1 HK3 ⊢
  obtain ⟨v0, v1⟩ := two_cellsV z0
  obtain ⟨u0, u1⟩ := two_cellsV z1
  have q0 := lt_heapV z0
  have q1 := lt_heapV z1
  have HC := Lib.hid (fun w => rcomp_any 28 y x HV2.out.1 HV2.out.2 w)
  obtain ⟨n, hn⟩ : ∃ n, compV 28 y x = n := ⟨_, rfl⟩
  obtain ⟨u, hu⟩ : ∃ u, compE 28 x = u := ⟨_, rfl⟩
  rw [hn, hu] at HC HS
  clear hn hu
  have HF := Lib.hid (hfail_any hr3 u)
  have hlen : r2.ss.length ≤ 900000 := by have := HL1.out; have := HL2.out; omega
  clear hr3 z0 z1
  go_wp2_with (first | (go_at_call 38; refine (HC.out _).mono ?_; rintro e w6 ⟨rfl, rfl⟩) | (go_at_call 39; refine HF.out.mono ?_; rintro e w6 ⟨rfl, hr6, hk6⟩) | (go_at_call 40; refine (put_any hr6 2 n (by rw [failS_ss]; omega)).mono ?_; rintro e w8 hr8; have HR := Lib.hid hr8; obtain ⟨rfl, _⟩ := hr8))
  go_end0
  rw [HS.out]
  exact HdEx.after (HK3.out.trans hk6) (fun g => by rw [failS_ls]; exact HN.out.2.2.1 g) (fun g => by rw [failS_ss]; exact HN.out.2.2.2 g) HR.out
set_option maxRecDepth 100000 in
set_option maxHeartbeats 1000000 in
theorem numr_29 {w0 W : World} {b : Nat} {h : Hd8} {r : Rs} {lA : Option Addr} {lc : Nat} {sA : Option Addr} {sc : Nat} (H : HdSt w0 W b h r lA lc sA sc) (hl : r.ss.length ≤ 900000) (hv : VsIn r.ss) :
    Calls Try.prog 24 #[.pointer (some ⟨b, 0, none⟩), .int .i64 29] W (HdEx w0 W b h r (numR 29 r) lA sA (.tuple #[])) := by
  have HLB := Lib.hid H.lb
  have hz := lt_heapV H.box
  have hbw := H.bel.size
  have R0 := laid_old (o' := (.cells #[.int .i64 0, .int .i64 0] 42)) (World.alloc_heap_new W (.cells #[.int .i64 0, .int .i64 0] 42))
  have R1 := World.alloc_heap_new (W.alloc (.cells #[.int .i64 0, .int .i64 0] 42)) (.cells #[.int .i64 0, .int .i64 0] 42)
  have hsz : (W.alloc (.cells #[.int .i64 0, .int .i64 0] 42)).heap.size = W.heap.size + 1 := by simp
  rw [hsz] at R1
  have hlt2 : W.heap.size + 2 ≤ ((W.alloc (.cells #[.int .i64 0, .int .i64 0] 42)).alloc (.cells #[.int .i64 0, .int .i64 0] 42)).heap.size := by simp
  have hB := below_al (below_al (Below.refl W.heap.size W) (.cells #[.int .i64 0, .int .i64 0] 42)) (.cells #[.int .i64 0, .int .i64 0] 42)
  have HH1 := Lib.hid (H.up hB)
  have HN := Lib.hid (show (r.ls = [] → (takeS 2 r).ls = []) ∧ (r.ss = [] → (takeS 2 r).ss = []) ∧ (r.ls = [] → (takeS 2 (takeS 2 r)).ls = []) ∧ (r.ss = [] → (takeS 2 (takeS 2 r)).ss = []) from ⟨fun g => by rw [takeS_ls]; exact g, fun g => takeS_nil g, fun g => by rw [takeS_ls, takeS_ls]; exact g, fun g => takeS_nil (takeS_nil g)⟩)
  have HL1 := Lib.hid (takeS_len 2 r)
  have HL2 := Lib.hid (takeS_len 2 (takeS 2 r))
  have HV1 := Lib.hid (takeV_rg hv)
  have HV2 := Lib.hid (takeV_rg (takeS_in (k := 2) hv))
  have HLS := Lib.hid (show (takeS 2 r).ls = r.ls ∧ (takeS 2 (takeS 2 r)).ls = r.ls from ⟨takeS_ls _ _, by rw [takeS_ls, takeS_ls]⟩)
  go_enter Try.func24, Try.ntmps24
  go_upto_region 6 with fail
  generalize (W.alloc (.cells #[.int .i64 0, .int .i64 0] 42)).alloc (.cells #[.int .i64 0, .int .i64 0] 42) = W1 at R0 R1 hB hlt2 HH1 ⊢
  have HB1 := Lib.hid hB
  have HR0 := Lib.hid R0
  have HR1 := Lib.hid R1
  have y0 := lt_heapV R0
  have y1 := lt_heapV R1
  clear R0 R1 hB hsz H
  have HS := Lib.hid (show numR 29 r = putS 2 (compV 29 (takeV (takeS 2 r)).2 (takeV r).2) (failS (compE 29 (takeV r).2) (takeS 2 (takeS 2 r))) from rfl)
  have HT := Lib.hid (take_any HH1.out 2 (by omega))
  have HT2 := Lib.hid (fun (W : World) (H : HdSt w0 W b h (takeS 2 r) lA lc sA sc) => take_any H 2 (by have := HL1.out; omega))
  obtain ⟨r1, hr1⟩ : ∃ r1, takeS 2 r = r1 := ⟨_, rfl⟩
  obtain ⟨⟨xk, x⟩, hx⟩ : ∃ x, takeV r = x := ⟨_, rfl⟩
  rw [hr1, hx] at HT HS
  rw [hr1] at HN HLS HL1 HT2 HV2 HL2
  clear hx hr1 HV1
  obtain ⟨r2, hr2⟩ : ∃ r2, takeS 2 r1 = r2 := ⟨_, rfl⟩
  obtain ⟨⟨yk, y⟩, hy⟩ : ∃ x, takeV r1 = x := ⟨_, rfl⟩
  rw [hr2, hy] at HT2 HS
  rw [hr2] at HN HLS HL2
  rw [hy] at HV2
  clear hr2 hy
  dsimp only at HT HS HV2 HT2
  go_upto_region 8 with (go_at_call 37; refine HT.out.mono ?_; rintro e w2 ⟨rfl, hr2, hk2⟩; have hs9 := hk2.size; have x0 := (hk2.block W.heap.size (by omega) (by omega)).trans HR0.out; have x1 := (hk2.block (W.heap.size + 1) (by omega) (by omega)).trans HR1.out; obtain ⟨v0, v1⟩ := two_cellsV x0; obtain ⟨u0, u1⟩ := two_cellsV x1; have f0 := fun j => frozV x0 j; have f1 := fun j => frozV x1 j; have q0 := lt_heapV x0; have q1 := lt_heapV x1)
  obtain ⟨hr3, z1, hg3⟩ := hr2.two x1 (by omega) (fun g o s hA hn => by have := HLB.out.1 g o s hA (fun e => hn (HN.out.1 e)); omega) (fun g o s hA hn => by have := HLB.out.2 g o s hA (fun e => hn (HN.out.2.1 e)); omega) (by omega) (.int .i64 xk) (.int .i64 x)
  have z0 := (hg3.block W.heap.size (lt_heapV x0) (fun e => by have := Option.some.inj e; omega)).trans x0
  have HK3 := Lib.hid (((Kb.of_below HB1.out).trans hk2).aside hg3 (by omega))
  have hs3 := hg3.size
  clear hr2 hk2 hg3 x0 x1 v0 v1 u0 u1 f0 f1 q0 q1
  generalize (w2.setCell ⟨W.heap.size + 1, 0, none⟩ (.int .i64 xk)).setCell ⟨W.heap.size + 1, 1, none⟩ (.int .i64 x) = w3 at hr3 z0 z1 HK3 hs3 ⊢
  have HT3 := Lib.hid (HT2.out _ hr3)
  have HZ0 := Lib.hid z0
  have HZ1 := Lib.hid z1
  have hz0 := lt_heapV z0
  have hz1 := lt_heapV z1
  clear z0 z1 hr3
  go_upto_region 9 with (go_at_call 37; refine HT3.out.mono ?_; rintro e w4 ⟨rfl, hr4, hk4⟩; have hs9 := hk4.size; have x0 := (hk4.block W.heap.size (by omega) (by omega)).trans HZ0.out; have x1 := (hk4.block (W.heap.size + 1) (by omega) (by omega)).trans HZ1.out; obtain ⟨v0, v1⟩ := two_cellsV x0; obtain ⟨u0, u1⟩ := two_cellsV x1; have f0 := fun j => frozV x0 j; have f1 := fun j => frozV x1 j; have q0 := lt_heapV x0; have q1 := lt_heapV x1)
  obtain ⟨hr3, z0, hg3⟩ := hr4.two x0 (by omega) (fun g o s hA hn => by have := HLB.out.1 g o s hA (fun e => hn (HN.out.2.2.1 e)); omega) (fun g o s hA hn => by have := HLB.out.2 g o s hA (fun e => hn (HN.out.2.2.2 e)); omega) (by omega) (.int .i64 yk) (.int .i64 y)
  have z1 := (hg3.block (W.heap.size + 1) (lt_heapV x1) (fun e => by have := Option.some.inj e; omega)).trans x1
  have HK3 := Lib.hid ((HK3.out.trans hk4).aside hg3 (by omega))
  clear hg3 x0 x1 v0 v1 u0 u1 f0 f1 q0 q1
  generalize (w4.setCell ⟨W.heap.size, 0, none⟩ (.int .i64 yk)).setCell ⟨W.heap.size, 1, none⟩ (.int .i64 y) = w5 at hr3 z0 z1 HK3 ⊢
  obtain ⟨v0, v1⟩ := two_cellsV z0
  obtain ⟨u0, u1⟩ := two_cellsV z1
  have q0 := lt_heapV z0
  have q1 := lt_heapV z1
  have HC := Lib.hid (fun w => rcomp_any 29 y x HV2.out.1 HV2.out.2 w)
  obtain ⟨n, hn⟩ : ∃ n, compV 29 y x = n := ⟨_, rfl⟩
  obtain ⟨u, hu⟩ : ∃ u, compE 29 x = u := ⟨_, rfl⟩
  rw [hn, hu] at HC HS
  clear hn hu
  have HF := Lib.hid (hfail_any hr3 u)
  have hlen : r2.ss.length ≤ 900000 := by have := HL1.out; have := HL2.out; omega
  clear hr3 z0 z1
  go_wp2_with (first | (go_at_call 38; refine (HC.out _).mono ?_; rintro e w6 ⟨rfl, rfl⟩) | (go_at_call 39; refine HF.out.mono ?_; rintro e w6 ⟨rfl, hr6, hk6⟩) | (go_at_call 40; refine (put_any hr6 2 n (by rw [failS_ss]; omega)).mono ?_; rintro e w8 hr8; have HR := Lib.hid hr8; obtain ⟨rfl, _⟩ := hr8))
  go_end0
  rw [HS.out]
  exact HdEx.after (HK3.out.trans hk6) (fun g => by rw [failS_ls]; exact HN.out.2.2.1 g) (fun g => by rw [failS_ss]; exact HN.out.2.2.2 g) HR.out
set_option maxRecDepth 100000 in
set_option maxHeartbeats 1000000 in
theorem numr_30 {w0 W : World} {b : Nat} {h : Hd8} {r : Rs} {lA : Option Addr} {lc : Nat} {sA : Option Addr} {sc : Nat} (H : HdSt w0 W b h r lA lc sA sc) (hl : r.ss.length ≤ 900000) (hv : VsIn r.ss) :
    Calls Try.prog 24 #[.pointer (some ⟨b, 0, none⟩), .int .i64 30] W (HdEx w0 W b h r (numR 30 r) lA sA (.tuple #[])) := by
  have HLB := Lib.hid H.lb
  have hz := lt_heapV H.box
  have hbw := H.bel.size
  have R0 := laid_old (o' := (.cells #[.int .i64 0, .int .i64 0] 42)) (World.alloc_heap_new W (.cells #[.int .i64 0, .int .i64 0] 42))
  have R1 := World.alloc_heap_new (W.alloc (.cells #[.int .i64 0, .int .i64 0] 42)) (.cells #[.int .i64 0, .int .i64 0] 42)
  have hsz : (W.alloc (.cells #[.int .i64 0, .int .i64 0] 42)).heap.size = W.heap.size + 1 := by simp
  rw [hsz] at R1
  have hlt2 : W.heap.size + 2 ≤ ((W.alloc (.cells #[.int .i64 0, .int .i64 0] 42)).alloc (.cells #[.int .i64 0, .int .i64 0] 42)).heap.size := by simp
  have hB := below_al (below_al (Below.refl W.heap.size W) (.cells #[.int .i64 0, .int .i64 0] 42)) (.cells #[.int .i64 0, .int .i64 0] 42)
  have HH1 := Lib.hid (H.up hB)
  have HN := Lib.hid (show (r.ls = [] → (takeS 2 r).ls = []) ∧ (r.ss = [] → (takeS 2 r).ss = []) ∧ (r.ls = [] → (takeS 2 (takeS 2 r)).ls = []) ∧ (r.ss = [] → (takeS 2 (takeS 2 r)).ss = []) from ⟨fun g => by rw [takeS_ls]; exact g, fun g => takeS_nil g, fun g => by rw [takeS_ls, takeS_ls]; exact g, fun g => takeS_nil (takeS_nil g)⟩)
  have HL1 := Lib.hid (takeS_len 2 r)
  have HL2 := Lib.hid (takeS_len 2 (takeS 2 r))
  have HV1 := Lib.hid (takeV_rg hv)
  have HV2 := Lib.hid (takeV_rg (takeS_in (k := 2) hv))
  have HLS := Lib.hid (show (takeS 2 r).ls = r.ls ∧ (takeS 2 (takeS 2 r)).ls = r.ls from ⟨takeS_ls _ _, by rw [takeS_ls, takeS_ls]⟩)
  go_enter Try.func24, Try.ntmps24
  go_upto_region 6 with fail
  generalize (W.alloc (.cells #[.int .i64 0, .int .i64 0] 42)).alloc (.cells #[.int .i64 0, .int .i64 0] 42) = W1 at R0 R1 hB hlt2 HH1 ⊢
  have HB1 := Lib.hid hB
  have HR0 := Lib.hid R0
  have HR1 := Lib.hid R1
  have y0 := lt_heapV R0
  have y1 := lt_heapV R1
  clear R0 R1 hB hsz H
  have HS := Lib.hid (show numR 30 r = putS 2 (compV 30 (takeV (takeS 2 r)).2 (takeV r).2) (failS (compE 30 (takeV r).2) (takeS 2 (takeS 2 r))) from rfl)
  have HT := Lib.hid (take_any HH1.out 2 (by omega))
  have HT2 := Lib.hid (fun (W : World) (H : HdSt w0 W b h (takeS 2 r) lA lc sA sc) => take_any H 2 (by have := HL1.out; omega))
  obtain ⟨r1, hr1⟩ : ∃ r1, takeS 2 r = r1 := ⟨_, rfl⟩
  obtain ⟨⟨xk, x⟩, hx⟩ : ∃ x, takeV r = x := ⟨_, rfl⟩
  rw [hr1, hx] at HT HS
  rw [hr1] at HN HLS HL1 HT2 HV2 HL2
  clear hx hr1 HV1
  obtain ⟨r2, hr2⟩ : ∃ r2, takeS 2 r1 = r2 := ⟨_, rfl⟩
  obtain ⟨⟨yk, y⟩, hy⟩ : ∃ x, takeV r1 = x := ⟨_, rfl⟩
  rw [hr2, hy] at HT2 HS
  rw [hr2] at HN HLS HL2
  rw [hy] at HV2
  clear hr2 hy
  dsimp only at HT HS HV2 HT2
  go_upto_region 8 with (go_at_call 37; refine HT.out.mono ?_; rintro e w2 ⟨rfl, hr2, hk2⟩; have hs9 := hk2.size; have x0 := (hk2.block W.heap.size (by omega) (by omega)).trans HR0.out; have x1 := (hk2.block (W.heap.size + 1) (by omega) (by omega)).trans HR1.out; obtain ⟨v0, v1⟩ := two_cellsV x0; obtain ⟨u0, u1⟩ := two_cellsV x1; have f0 := fun j => frozV x0 j; have f1 := fun j => frozV x1 j; have q0 := lt_heapV x0; have q1 := lt_heapV x1)
  obtain ⟨hr3, z1, hg3⟩ := hr2.two x1 (by omega) (fun g o s hA hn => by have := HLB.out.1 g o s hA (fun e => hn (HN.out.1 e)); omega) (fun g o s hA hn => by have := HLB.out.2 g o s hA (fun e => hn (HN.out.2.1 e)); omega) (by omega) (.int .i64 xk) (.int .i64 x)
  have z0 := (hg3.block W.heap.size (lt_heapV x0) (fun e => by have := Option.some.inj e; omega)).trans x0
  have HK3 := Lib.hid (((Kb.of_below HB1.out).trans hk2).aside hg3 (by omega))
  have hs3 := hg3.size
  clear hr2 hk2 hg3 x0 x1 v0 v1 u0 u1 f0 f1 q0 q1
  generalize (w2.setCell ⟨W.heap.size + 1, 0, none⟩ (.int .i64 xk)).setCell ⟨W.heap.size + 1, 1, none⟩ (.int .i64 x) = w3 at hr3 z0 z1 HK3 hs3 ⊢
  have HT3 := Lib.hid (HT2.out _ hr3)
  have HZ0 := Lib.hid z0
  have HZ1 := Lib.hid z1
  have hz0 := lt_heapV z0
  have hz1 := lt_heapV z1
  clear z0 z1 hr3
  go_upto_region 9 with (go_at_call 37; refine HT3.out.mono ?_; rintro e w4 ⟨rfl, hr4, hk4⟩; have hs9 := hk4.size; have x0 := (hk4.block W.heap.size (by omega) (by omega)).trans HZ0.out; have x1 := (hk4.block (W.heap.size + 1) (by omega) (by omega)).trans HZ1.out; obtain ⟨v0, v1⟩ := two_cellsV x0; obtain ⟨u0, u1⟩ := two_cellsV x1; have f0 := fun j => frozV x0 j; have f1 := fun j => frozV x1 j; have q0 := lt_heapV x0; have q1 := lt_heapV x1)
  obtain ⟨hr3, z0, hg3⟩ := hr4.two x0 (by omega) (fun g o s hA hn => by have := HLB.out.1 g o s hA (fun e => hn (HN.out.2.2.1 e)); omega) (fun g o s hA hn => by have := HLB.out.2 g o s hA (fun e => hn (HN.out.2.2.2 e)); omega) (by omega) (.int .i64 yk) (.int .i64 y)
  have z1 := (hg3.block (W.heap.size + 1) (lt_heapV x1) (fun e => by have := Option.some.inj e; omega)).trans x1
  have HK3 := Lib.hid ((HK3.out.trans hk4).aside hg3 (by omega))
  clear hg3 x0 x1 v0 v1 u0 u1 f0 f1 q0 q1
  generalize (w4.setCell ⟨W.heap.size, 0, none⟩ (.int .i64 yk)).setCell ⟨W.heap.size, 1, none⟩ (.int .i64 y) = w5 at hr3 z0 z1 HK3 ⊢
  obtain ⟨v0, v1⟩ := two_cellsV z0
  obtain ⟨u0, u1⟩ := two_cellsV z1
  have q0 := lt_heapV z0
  have q1 := lt_heapV z1
  have HC := Lib.hid (fun w => rcomp_any 30 y x HV2.out.1 HV2.out.2 w)
  obtain ⟨n, hn⟩ : ∃ n, compV 30 y x = n := ⟨_, rfl⟩
  obtain ⟨u, hu⟩ : ∃ u, compE 30 x = u := ⟨_, rfl⟩
  rw [hn, hu] at HC HS
  clear hn hu
  have HF := Lib.hid (hfail_any hr3 u)
  have hlen : r2.ss.length ≤ 900000 := by have := HL1.out; have := HL2.out; omega
  clear hr3 z0 z1
  go_wp2_with (first | (go_at_call 38; refine (HC.out _).mono ?_; rintro e w6 ⟨rfl, rfl⟩) | (go_at_call 39; refine HF.out.mono ?_; rintro e w6 ⟨rfl, hr6, hk6⟩) | (go_at_call 40; refine (put_any hr6 2 n (by rw [failS_ss]; omega)).mono ?_; rintro e w8 hr8; have HR := Lib.hid hr8; obtain ⟨rfl, _⟩ := hr8))
  go_end0
  rw [HS.out]
  exact HdEx.after (HK3.out.trans hk6) (fun g => by rw [failS_ls]; exact HN.out.2.2.1 g) (fun g => by rw [failS_ss]; exact HN.out.2.2.2 g) HR.out
set_option maxRecDepth 100000 in
set_option maxHeartbeats 1000000 in
theorem numr_31 {w0 W : World} {b : Nat} {h : Hd8} {r : Rs} {lA : Option Addr} {lc : Nat} {sA : Option Addr} {sc : Nat} (H : HdSt w0 W b h r lA lc sA sc) (hl : r.ss.length ≤ 900000) (hv : VsIn r.ss) :
    Calls Try.prog 24 #[.pointer (some ⟨b, 0, none⟩), .int .i64 31] W (HdEx w0 W b h r (numR 31 r) lA sA (.tuple #[])) := by
  have HLB := Lib.hid H.lb
  have hz := lt_heapV H.box
  have hbw := H.bel.size
  have R0 := laid_old (o' := (.cells #[.int .i64 0, .int .i64 0] 42)) (World.alloc_heap_new W (.cells #[.int .i64 0, .int .i64 0] 42))
  have R1 := World.alloc_heap_new (W.alloc (.cells #[.int .i64 0, .int .i64 0] 42)) (.cells #[.int .i64 0, .int .i64 0] 42)
  have hsz : (W.alloc (.cells #[.int .i64 0, .int .i64 0] 42)).heap.size = W.heap.size + 1 := by simp
  rw [hsz] at R1
  have hlt2 : W.heap.size + 2 ≤ ((W.alloc (.cells #[.int .i64 0, .int .i64 0] 42)).alloc (.cells #[.int .i64 0, .int .i64 0] 42)).heap.size := by simp
  have hB := below_al (below_al (Below.refl W.heap.size W) (.cells #[.int .i64 0, .int .i64 0] 42)) (.cells #[.int .i64 0, .int .i64 0] 42)
  have HH1 := Lib.hid (H.up hB)
  have HN := Lib.hid (show (r.ls = [] → (takeS 2 r).ls = []) ∧ (r.ss = [] → (takeS 2 r).ss = []) ∧ (r.ls = [] → (takeS 2 (takeS 2 r)).ls = []) ∧ (r.ss = [] → (takeS 2 (takeS 2 r)).ss = []) from ⟨fun g => by rw [takeS_ls]; exact g, fun g => takeS_nil g, fun g => by rw [takeS_ls, takeS_ls]; exact g, fun g => takeS_nil (takeS_nil g)⟩)
  have HL1 := Lib.hid (takeS_len 2 r)
  have HL2 := Lib.hid (takeS_len 2 (takeS 2 r))
  have HV1 := Lib.hid (takeV_rg hv)
  have HV2 := Lib.hid (takeV_rg (takeS_in (k := 2) hv))
  have HLS := Lib.hid (show (takeS 2 r).ls = r.ls ∧ (takeS 2 (takeS 2 r)).ls = r.ls from ⟨takeS_ls _ _, by rw [takeS_ls, takeS_ls]⟩)
  go_enter Try.func24, Try.ntmps24
  go_upto_region 6 with fail
  generalize (W.alloc (.cells #[.int .i64 0, .int .i64 0] 42)).alloc (.cells #[.int .i64 0, .int .i64 0] 42) = W1 at R0 R1 hB hlt2 HH1 ⊢
  have HB1 := Lib.hid hB
  have HR0 := Lib.hid R0
  have HR1 := Lib.hid R1
  have y0 := lt_heapV R0
  have y1 := lt_heapV R1
  clear R0 R1 hB hsz H
  have HS := Lib.hid (show numR 31 r = putS 2 (compV 31 (takeV (takeS 2 r)).2 (takeV r).2) (failS (compE 31 (takeV r).2) (takeS 2 (takeS 2 r))) from rfl)
  have HT := Lib.hid (take_any HH1.out 2 (by omega))
  have HT2 := Lib.hid (fun (W : World) (H : HdSt w0 W b h (takeS 2 r) lA lc sA sc) => take_any H 2 (by have := HL1.out; omega))
  obtain ⟨r1, hr1⟩ : ∃ r1, takeS 2 r = r1 := ⟨_, rfl⟩
  obtain ⟨⟨xk, x⟩, hx⟩ : ∃ x, takeV r = x := ⟨_, rfl⟩
  rw [hr1, hx] at HT HS
  rw [hr1] at HN HLS HL1 HT2 HV2 HL2
  clear hx hr1 HV1
  obtain ⟨r2, hr2⟩ : ∃ r2, takeS 2 r1 = r2 := ⟨_, rfl⟩
  obtain ⟨⟨yk, y⟩, hy⟩ : ∃ x, takeV r1 = x := ⟨_, rfl⟩
  rw [hr2, hy] at HT2 HS
  rw [hr2] at HN HLS HL2
  rw [hy] at HV2
  clear hr2 hy
  dsimp only at HT HS HV2 HT2
  go_upto_region 8 with (go_at_call 37; refine HT.out.mono ?_; rintro e w2 ⟨rfl, hr2, hk2⟩; have hs9 := hk2.size; have x0 := (hk2.block W.heap.size (by omega) (by omega)).trans HR0.out; have x1 := (hk2.block (W.heap.size + 1) (by omega) (by omega)).trans HR1.out; obtain ⟨v0, v1⟩ := two_cellsV x0; obtain ⟨u0, u1⟩ := two_cellsV x1; have f0 := fun j => frozV x0 j; have f1 := fun j => frozV x1 j; have q0 := lt_heapV x0; have q1 := lt_heapV x1)
  obtain ⟨hr3, z1, hg3⟩ := hr2.two x1 (by omega) (fun g o s hA hn => by have := HLB.out.1 g o s hA (fun e => hn (HN.out.1 e)); omega) (fun g o s hA hn => by have := HLB.out.2 g o s hA (fun e => hn (HN.out.2.1 e)); omega) (by omega) (.int .i64 xk) (.int .i64 x)
  have z0 := (hg3.block W.heap.size (lt_heapV x0) (fun e => by have := Option.some.inj e; omega)).trans x0
  have HK3 := Lib.hid (((Kb.of_below HB1.out).trans hk2).aside hg3 (by omega))
  have hs3 := hg3.size
  clear hr2 hk2 hg3 x0 x1 v0 v1 u0 u1 f0 f1 q0 q1
  generalize (w2.setCell ⟨W.heap.size + 1, 0, none⟩ (.int .i64 xk)).setCell ⟨W.heap.size + 1, 1, none⟩ (.int .i64 x) = w3 at hr3 z0 z1 HK3 hs3 ⊢
  have HT3 := Lib.hid (HT2.out _ hr3)
  have HZ0 := Lib.hid z0
  have HZ1 := Lib.hid z1
  have hz0 := lt_heapV z0
  have hz1 := lt_heapV z1
  clear z0 z1 hr3
  go_upto_region 9 with (go_at_call 37; refine HT3.out.mono ?_; rintro e w4 ⟨rfl, hr4, hk4⟩; have hs9 := hk4.size; have x0 := (hk4.block W.heap.size (by omega) (by omega)).trans HZ0.out; have x1 := (hk4.block (W.heap.size + 1) (by omega) (by omega)).trans HZ1.out; obtain ⟨v0, v1⟩ := two_cellsV x0; obtain ⟨u0, u1⟩ := two_cellsV x1; have f0 := fun j => frozV x0 j; have f1 := fun j => frozV x1 j; have q0 := lt_heapV x0; have q1 := lt_heapV x1)
  obtain ⟨hr3, z0, hg3⟩ := hr4.two x0 (by omega) (fun g o s hA hn => by have := HLB.out.1 g o s hA (fun e => hn (HN.out.2.2.1 e)); omega) (fun g o s hA hn => by have := HLB.out.2 g o s hA (fun e => hn (HN.out.2.2.2 e)); omega) (by omega) (.int .i64 yk) (.int .i64 y)
  have z1 := (hg3.block (W.heap.size + 1) (lt_heapV x1) (fun e => by have := Option.some.inj e; omega)).trans x1
  have HK3 := Lib.hid ((HK3.out.trans hk4).aside hg3 (by omega))
  clear hg3 x0 x1 v0 v1 u0 u1 f0 f1 q0 q1
  generalize (w4.setCell ⟨W.heap.size, 0, none⟩ (.int .i64 yk)).setCell ⟨W.heap.size, 1, none⟩ (.int .i64 y) = w5 at hr3 z0 z1 HK3 ⊢
  obtain ⟨v0, v1⟩ := two_cellsV z0
  obtain ⟨u0, u1⟩ := two_cellsV z1
  have q0 := lt_heapV z0
  have q1 := lt_heapV z1
  have HC := Lib.hid (fun w => rcomp_any 31 y x HV2.out.1 HV2.out.2 w)
  obtain ⟨n, hn⟩ : ∃ n, compV 31 y x = n := ⟨_, rfl⟩
  obtain ⟨u, hu⟩ : ∃ u, compE 31 x = u := ⟨_, rfl⟩
  rw [hn, hu] at HC HS
  clear hn hu
  have HF := Lib.hid (hfail_any hr3 u)
  have hlen : r2.ss.length ≤ 900000 := by have := HL1.out; have := HL2.out; omega
  clear hr3 z0 z1
  go_wp2_with (first | (go_at_call 38; refine (HC.out _).mono ?_; rintro e w6 ⟨rfl, rfl⟩) | (go_at_call 39; refine HF.out.mono ?_; rintro e w6 ⟨rfl, hr6, hk6⟩) | (go_at_call 40; refine (put_any hr6 2 n (by rw [failS_ss]; omega)).mono ?_; rintro e w8 hr8; have HR := Lib.hid hr8; obtain ⟨rfl, _⟩ := hr8))
  go_end0
  rw [HS.out]
  exact HdEx.after (HK3.out.trans hk6) (fun g => by rw [failS_ls]; exact HN.out.2.2.1 g) (fun g => by rw [failS_ss]; exact HN.out.2.2.2 g) HR.out
set_option maxRecDepth 100000 in
set_option maxHeartbeats 1000000 in
theorem numr_32 {w0 W : World} {b : Nat} {h : Hd8} {r : Rs} {lA : Option Addr} {lc : Nat} {sA : Option Addr} {sc : Nat} (H : HdSt w0 W b h r lA lc sA sc) (hl : r.ss.length ≤ 900000) (hv : VsIn r.ss) :
    Calls Try.prog 24 #[.pointer (some ⟨b, 0, none⟩), .int .i64 32] W (HdEx w0 W b h r (numR 32 r) lA sA (.tuple #[])) := by
  have HLB := Lib.hid H.lb
  have hz := lt_heapV H.box
  have hbw := H.bel.size
  have R0 := laid_old (o' := (.cells #[.int .i64 0, .int .i64 0] 42)) (World.alloc_heap_new W (.cells #[.int .i64 0, .int .i64 0] 42))
  have R1 := World.alloc_heap_new (W.alloc (.cells #[.int .i64 0, .int .i64 0] 42)) (.cells #[.int .i64 0, .int .i64 0] 42)
  have hsz : (W.alloc (.cells #[.int .i64 0, .int .i64 0] 42)).heap.size = W.heap.size + 1 := by simp
  rw [hsz] at R1
  have hlt2 : W.heap.size + 2 ≤ ((W.alloc (.cells #[.int .i64 0, .int .i64 0] 42)).alloc (.cells #[.int .i64 0, .int .i64 0] 42)).heap.size := by simp
  have hB := below_al (below_al (Below.refl W.heap.size W) (.cells #[.int .i64 0, .int .i64 0] 42)) (.cells #[.int .i64 0, .int .i64 0] 42)
  have HH1 := Lib.hid (H.up hB)
  have HN := Lib.hid (show (r.ls = [] → (takeS 2 r).ls = []) ∧ (r.ss = [] → (takeS 2 r).ss = []) ∧ (r.ls = [] → (takeS 2 (takeS 2 r)).ls = []) ∧ (r.ss = [] → (takeS 2 (takeS 2 r)).ss = []) from ⟨fun g => by rw [takeS_ls]; exact g, fun g => takeS_nil g, fun g => by rw [takeS_ls, takeS_ls]; exact g, fun g => takeS_nil (takeS_nil g)⟩)
  have HL1 := Lib.hid (takeS_len 2 r)
  have HL2 := Lib.hid (takeS_len 2 (takeS 2 r))
  have HV1 := Lib.hid (takeV_rg hv)
  have HV2 := Lib.hid (takeV_rg (takeS_in (k := 2) hv))
  have HLS := Lib.hid (show (takeS 2 r).ls = r.ls ∧ (takeS 2 (takeS 2 r)).ls = r.ls from ⟨takeS_ls _ _, by rw [takeS_ls, takeS_ls]⟩)
  go_enter Try.func24, Try.ntmps24
  go_upto_region 6 with fail
  generalize (W.alloc (.cells #[.int .i64 0, .int .i64 0] 42)).alloc (.cells #[.int .i64 0, .int .i64 0] 42) = W1 at R0 R1 hB hlt2 HH1 ⊢
  have HB1 := Lib.hid hB
  have HR0 := Lib.hid R0
  have HR1 := Lib.hid R1
  have y0 := lt_heapV R0
  have y1 := lt_heapV R1
  clear R0 R1 hB hsz H
  have HS := Lib.hid (show numR 32 r = putS 2 (compV 32 (takeV r).2 0) (failS (compE 32 0) (takeS 2 r)) from rfl)
  have HT := Lib.hid (take_any HH1.out 2 (by omega))
  obtain ⟨r1, hr1⟩ : ∃ r1, takeS 2 r = r1 := ⟨_, rfl⟩
  obtain ⟨⟨xk, x⟩, hx⟩ : ∃ x, takeV r = x := ⟨_, rfl⟩
  rw [hr1, hx] at HT HS
  rw [hr1] at HN HLS HL1
  rw [hx] at HV1
  clear hx hr1 HV2 HL2
  dsimp only at HT HS HV1
  go_upto_region 9 with (go_at_call 37; refine HT.out.mono ?_; rintro e w2 ⟨rfl, hr2, hk2⟩; have hs9 := hk2.size; have x0 := (hk2.block W.heap.size (by omega) (by omega)).trans HR0.out; have x1 := (hk2.block (W.heap.size + 1) (by omega) (by omega)).trans HR1.out; obtain ⟨v0, v1⟩ := two_cellsV x0; obtain ⟨u0, u1⟩ := two_cellsV x1; have f0 := fun j => frozV x0 j; have f1 := fun j => frozV x1 j; have q0 := lt_heapV x0; have q1 := lt_heapV x1)
  obtain ⟨hr3, z0, hg3⟩ := hr2.two x0 (by omega) (fun g o s hA hn => by have := HLB.out.1 g o s hA (fun e => hn (HN.out.1 e)); omega) (fun g o s hA hn => by have := HLB.out.2 g o s hA (fun e => hn (HN.out.2.1 e)); omega) (by omega) (.int .i64 xk) (.int .i64 x)
  have z1 := (hg3.block (W.heap.size + 1) (lt_heapV x1) (fun e => by have := Option.some.inj e; omega)).trans x1
  have HK3 := Lib.hid (((Kb.of_below HB1.out).trans hk2).aside hg3 (by omega))
  clear hg3 x0 x1 v0 v1 u0 u1 f0 f1 q0 q1
  generalize (w2.setCell ⟨W.heap.size, 0, none⟩ (.int .i64 xk)).setCell ⟨W.heap.size, 1, none⟩ (.int .i64 x) = w5 at hr3 z0 z1 HK3 ⊢
  obtain ⟨v0, v1⟩ := two_cellsV z0
  obtain ⟨u0, u1⟩ := two_cellsV z1
  have q0 := lt_heapV z0
  have q1 := lt_heapV z1
  have HC := Lib.hid (fun w => rcomp_any 32 x 0 HV1.out.1 HV1.out.2 w)
  obtain ⟨n, hn⟩ : ∃ n, compV 32 x 0 = n := ⟨_, rfl⟩
  obtain ⟨u, hu⟩ : ∃ u, compE 32 0 = u := ⟨_, rfl⟩
  rw [hn, hu] at HC HS
  clear hn hu
  have HF := Lib.hid (hfail_any hr3 u)
  have hlen : r1.ss.length ≤ 900000 := by have := HL1.out; omega
  clear hr3 z0 z1
  go_wp2_with (first | (go_at_call 38; refine (HC.out _).mono ?_; rintro e w6 ⟨rfl, rfl⟩) | (go_at_call 39; refine HF.out.mono ?_; rintro e w6 ⟨rfl, hr6, hk6⟩) | (go_at_call 40; refine (put_any hr6 2 n (by rw [failS_ss]; omega)).mono ?_; rintro e w8 hr8; have HR := Lib.hid hr8; obtain ⟨rfl, _⟩ := hr8))
  go_end0
  rw [HS.out]
  exact HdEx.after (HK3.out.trans hk6) (fun g => by rw [failS_ls]; exact HN.out.1 g) (fun g => by rw [failS_ss]; exact HN.out.2.1 g) HR.out
set_option maxRecDepth 100000 in
set_option maxHeartbeats 1000000 in
theorem numr_33 {w0 W : World} {b : Nat} {h : Hd8} {r : Rs} {lA : Option Addr} {lc : Nat} {sA : Option Addr} {sc : Nat} (H : HdSt w0 W b h r lA lc sA sc) (hl : r.ss.length ≤ 900000) (hv : VsIn r.ss) :
    Calls Try.prog 24 #[.pointer (some ⟨b, 0, none⟩), .int .i64 33] W (HdEx w0 W b h r (numR 33 r) lA sA (.tuple #[])) := by
  have HLB := Lib.hid H.lb
  have hz := lt_heapV H.box
  have hbw := H.bel.size
  have R0 := laid_old (o' := (.cells #[.int .i64 0, .int .i64 0] 42)) (World.alloc_heap_new W (.cells #[.int .i64 0, .int .i64 0] 42))
  have R1 := World.alloc_heap_new (W.alloc (.cells #[.int .i64 0, .int .i64 0] 42)) (.cells #[.int .i64 0, .int .i64 0] 42)
  have hsz : (W.alloc (.cells #[.int .i64 0, .int .i64 0] 42)).heap.size = W.heap.size + 1 := by simp
  rw [hsz] at R1
  have hlt2 : W.heap.size + 2 ≤ ((W.alloc (.cells #[.int .i64 0, .int .i64 0] 42)).alloc (.cells #[.int .i64 0, .int .i64 0] 42)).heap.size := by simp
  have hB := below_al (below_al (Below.refl W.heap.size W) (.cells #[.int .i64 0, .int .i64 0] 42)) (.cells #[.int .i64 0, .int .i64 0] 42)
  have HH1 := Lib.hid (H.up hB)
  have HN := Lib.hid (show (r.ls = [] → (takeS 2 r).ls = []) ∧ (r.ss = [] → (takeS 2 r).ss = []) ∧ (r.ls = [] → (takeS 2 (takeS 2 r)).ls = []) ∧ (r.ss = [] → (takeS 2 (takeS 2 r)).ss = []) from ⟨fun g => by rw [takeS_ls]; exact g, fun g => takeS_nil g, fun g => by rw [takeS_ls, takeS_ls]; exact g, fun g => takeS_nil (takeS_nil g)⟩)
  have HL1 := Lib.hid (takeS_len 2 r)
  have HL2 := Lib.hid (takeS_len 2 (takeS 2 r))
  have HV1 := Lib.hid (takeV_rg hv)
  have HV2 := Lib.hid (takeV_rg (takeS_in (k := 2) hv))
  have HLS := Lib.hid (show (takeS 2 r).ls = r.ls ∧ (takeS 2 (takeS 2 r)).ls = r.ls from ⟨takeS_ls _ _, by rw [takeS_ls, takeS_ls]⟩)
  go_enter Try.func24, Try.ntmps24
  go_upto_region 6 with fail
  generalize (W.alloc (.cells #[.int .i64 0, .int .i64 0] 42)).alloc (.cells #[.int .i64 0, .int .i64 0] 42) = W1 at R0 R1 hB hlt2 HH1 ⊢
  have HB1 := Lib.hid hB
  have HR0 := Lib.hid R0
  have HR1 := Lib.hid R1
  have y0 := lt_heapV R0
  have y1 := lt_heapV R1
  clear R0 R1 hB hsz H
  have HS := Lib.hid (show numR 33 r = putS 1 (compV 33 (takeV (takeS 2 r)).2 (takeV r).2) (failS (compE 33 (takeV r).2) (takeS 2 (takeS 2 r))) from rfl)
  have HT := Lib.hid (take_any HH1.out 2 (by omega))
  have HT2 := Lib.hid (fun (W : World) (H : HdSt w0 W b h (takeS 2 r) lA lc sA sc) => take_any H 2 (by have := HL1.out; omega))
  obtain ⟨r1, hr1⟩ : ∃ r1, takeS 2 r = r1 := ⟨_, rfl⟩
  obtain ⟨⟨xk, x⟩, hx⟩ : ∃ x, takeV r = x := ⟨_, rfl⟩
  rw [hr1, hx] at HT HS
  rw [hr1] at HN HLS HL1 HT2 HV2 HL2
  clear hx hr1 HV1
  obtain ⟨r2, hr2⟩ : ∃ r2, takeS 2 r1 = r2 := ⟨_, rfl⟩
  obtain ⟨⟨yk, y⟩, hy⟩ : ∃ x, takeV r1 = x := ⟨_, rfl⟩
  rw [hr2, hy] at HT2 HS
  rw [hr2] at HN HLS HL2
  rw [hy] at HV2
  clear hr2 hy
  dsimp only at HT HS HV2 HT2
  go_upto_region 8 with (go_at_call 37; refine HT.out.mono ?_; rintro e w2 ⟨rfl, hr2, hk2⟩; have hs9 := hk2.size; have x0 := (hk2.block W.heap.size (by omega) (by omega)).trans HR0.out; have x1 := (hk2.block (W.heap.size + 1) (by omega) (by omega)).trans HR1.out; obtain ⟨v0, v1⟩ := two_cellsV x0; obtain ⟨u0, u1⟩ := two_cellsV x1; have f0 := fun j => frozV x0 j; have f1 := fun j => frozV x1 j; have q0 := lt_heapV x0; have q1 := lt_heapV x1)
  obtain ⟨hr3, z1, hg3⟩ := hr2.two x1 (by omega) (fun g o s hA hn => by have := HLB.out.1 g o s hA (fun e => hn (HN.out.1 e)); omega) (fun g o s hA hn => by have := HLB.out.2 g o s hA (fun e => hn (HN.out.2.1 e)); omega) (by omega) (.int .i64 xk) (.int .i64 x)
  have z0 := (hg3.block W.heap.size (lt_heapV x0) (fun e => by have := Option.some.inj e; omega)).trans x0
  have HK3 := Lib.hid (((Kb.of_below HB1.out).trans hk2).aside hg3 (by omega))
  have hs3 := hg3.size
  clear hr2 hk2 hg3 x0 x1 v0 v1 u0 u1 f0 f1 q0 q1
  generalize (w2.setCell ⟨W.heap.size + 1, 0, none⟩ (.int .i64 xk)).setCell ⟨W.heap.size + 1, 1, none⟩ (.int .i64 x) = w3 at hr3 z0 z1 HK3 hs3 ⊢
  have HT3 := Lib.hid (HT2.out _ hr3)
  have HZ0 := Lib.hid z0
  have HZ1 := Lib.hid z1
  have hz0 := lt_heapV z0
  have hz1 := lt_heapV z1
  clear z0 z1 hr3
  go_upto_region 9 with (go_at_call 37; refine HT3.out.mono ?_; rintro e w4 ⟨rfl, hr4, hk4⟩; have hs9 := hk4.size; have x0 := (hk4.block W.heap.size (by omega) (by omega)).trans HZ0.out; have x1 := (hk4.block (W.heap.size + 1) (by omega) (by omega)).trans HZ1.out; obtain ⟨v0, v1⟩ := two_cellsV x0; obtain ⟨u0, u1⟩ := two_cellsV x1; have f0 := fun j => frozV x0 j; have f1 := fun j => frozV x1 j; have q0 := lt_heapV x0; have q1 := lt_heapV x1)
  obtain ⟨hr3, z0, hg3⟩ := hr4.two x0 (by omega) (fun g o s hA hn => by have := HLB.out.1 g o s hA (fun e => hn (HN.out.2.2.1 e)); omega) (fun g o s hA hn => by have := HLB.out.2 g o s hA (fun e => hn (HN.out.2.2.2 e)); omega) (by omega) (.int .i64 yk) (.int .i64 y)
  have z1 := (hg3.block (W.heap.size + 1) (lt_heapV x1) (fun e => by have := Option.some.inj e; omega)).trans x1
  have HK3 := Lib.hid ((HK3.out.trans hk4).aside hg3 (by omega))
  clear hg3 x0 x1 v0 v1 u0 u1 f0 f1 q0 q1
  generalize (w4.setCell ⟨W.heap.size, 0, none⟩ (.int .i64 yk)).setCell ⟨W.heap.size, 1, none⟩ (.int .i64 y) = w5 at hr3 z0 z1 HK3 ⊢
  obtain ⟨v0, v1⟩ := two_cellsV z0
  obtain ⟨u0, u1⟩ := two_cellsV z1
  have q0 := lt_heapV z0
  have q1 := lt_heapV z1
  have HC := Lib.hid (fun w => rcomp_any 33 y x HV2.out.1 HV2.out.2 w)
  obtain ⟨n, hn⟩ : ∃ n, compV 33 y x = n := ⟨_, rfl⟩
  obtain ⟨u, hu⟩ : ∃ u, compE 33 x = u := ⟨_, rfl⟩
  rw [hn, hu] at HC HS
  clear hn hu
  have HF := Lib.hid (hfail_any hr3 u)
  have hlen : r2.ss.length ≤ 900000 := by have := HL1.out; have := HL2.out; omega
  clear hr3 z0 z1
  go_wp2_with (first | (go_at_call 38; refine (HC.out _).mono ?_; rintro e w6 ⟨rfl, rfl⟩) | (go_at_call 39; refine HF.out.mono ?_; rintro e w6 ⟨rfl, hr6, hk6⟩) | (go_at_call 40; refine (put_any hr6 1 n (by rw [failS_ss]; omega)).mono ?_; rintro e w8 hr8; have HR := Lib.hid hr8; obtain ⟨rfl, _⟩ := hr8))
  go_end0
  rw [HS.out]
  exact HdEx.after (HK3.out.trans hk6) (fun g => by rw [failS_ls]; exact HN.out.2.2.1 g) (fun g => by rw [failS_ss]; exact HN.out.2.2.2 g) HR.out
set_option maxRecDepth 100000 in
set_option maxHeartbeats 1000000 in
theorem numr_34 {w0 W : World} {b : Nat} {h : Hd8} {r : Rs} {lA : Option Addr} {lc : Nat} {sA : Option Addr} {sc : Nat} (H : HdSt w0 W b h r lA lc sA sc) (hl : r.ss.length ≤ 900000) (hv : VsIn r.ss) :
    Calls Try.prog 24 #[.pointer (some ⟨b, 0, none⟩), .int .i64 34] W (HdEx w0 W b h r (numR 34 r) lA sA (.tuple #[])) := by
  have HLB := Lib.hid H.lb
  have hz := lt_heapV H.box
  have hbw := H.bel.size
  have R0 := laid_old (o' := (.cells #[.int .i64 0, .int .i64 0] 42)) (World.alloc_heap_new W (.cells #[.int .i64 0, .int .i64 0] 42))
  have R1 := World.alloc_heap_new (W.alloc (.cells #[.int .i64 0, .int .i64 0] 42)) (.cells #[.int .i64 0, .int .i64 0] 42)
  have hsz : (W.alloc (.cells #[.int .i64 0, .int .i64 0] 42)).heap.size = W.heap.size + 1 := by simp
  rw [hsz] at R1
  have hlt2 : W.heap.size + 2 ≤ ((W.alloc (.cells #[.int .i64 0, .int .i64 0] 42)).alloc (.cells #[.int .i64 0, .int .i64 0] 42)).heap.size := by simp
  have hB := below_al (below_al (Below.refl W.heap.size W) (.cells #[.int .i64 0, .int .i64 0] 42)) (.cells #[.int .i64 0, .int .i64 0] 42)
  have HH1 := Lib.hid (H.up hB)
  have HN := Lib.hid (show (r.ls = [] → (takeS 1 r).ls = []) ∧ (r.ss = [] → (takeS 1 r).ss = []) ∧ (r.ls = [] → (takeS 1 (takeS 1 r)).ls = []) ∧ (r.ss = [] → (takeS 1 (takeS 1 r)).ss = []) from ⟨fun g => by rw [takeS_ls]; exact g, fun g => takeS_nil g, fun g => by rw [takeS_ls, takeS_ls]; exact g, fun g => takeS_nil (takeS_nil g)⟩)
  have HL1 := Lib.hid (takeS_len 1 r)
  have HL2 := Lib.hid (takeS_len 1 (takeS 1 r))
  have HV1 := Lib.hid (takeV_rg hv)
  have HV2 := Lib.hid (takeV_rg (takeS_in (k := 1) hv))
  have HLS := Lib.hid (show (takeS 1 r).ls = r.ls ∧ (takeS 1 (takeS 1 r)).ls = r.ls from ⟨takeS_ls _ _, by rw [takeS_ls, takeS_ls]⟩)
  go_enter Try.func24, Try.ntmps24
  go_upto_region 6 with fail
  generalize (W.alloc (.cells #[.int .i64 0, .int .i64 0] 42)).alloc (.cells #[.int .i64 0, .int .i64 0] 42) = W1 at R0 R1 hB hlt2 HH1 ⊢
  have HB1 := Lib.hid hB
  have HR0 := Lib.hid R0
  have HR1 := Lib.hid R1
  have y0 := lt_heapV R0
  have y1 := lt_heapV R1
  clear R0 R1 hB hsz H
  have HS := Lib.hid (show numR 34 r = putS 2 (compV 34 (takeV r).2 0) (failS (compE 34 0) (takeS 1 r)) from rfl)
  have HT := Lib.hid (take_any HH1.out 1 (by omega))
  obtain ⟨r1, hr1⟩ : ∃ r1, takeS 1 r = r1 := ⟨_, rfl⟩
  obtain ⟨⟨xk, x⟩, hx⟩ : ∃ x, takeV r = x := ⟨_, rfl⟩
  rw [hr1, hx] at HT HS
  rw [hr1] at HN HLS HL1
  rw [hx] at HV1
  clear hx hr1 HV2 HL2
  dsimp only at HT HS HV1
  go_upto_region 9 with (go_at_call 37; refine HT.out.mono ?_; rintro e w2 ⟨rfl, hr2, hk2⟩; have hs9 := hk2.size; have x0 := (hk2.block W.heap.size (by omega) (by omega)).trans HR0.out; have x1 := (hk2.block (W.heap.size + 1) (by omega) (by omega)).trans HR1.out; obtain ⟨v0, v1⟩ := two_cellsV x0; obtain ⟨u0, u1⟩ := two_cellsV x1; have f0 := fun j => frozV x0 j; have f1 := fun j => frozV x1 j; have q0 := lt_heapV x0; have q1 := lt_heapV x1)
  obtain ⟨hr3, z0, hg3⟩ := hr2.two x0 (by omega) (fun g o s hA hn => by have := HLB.out.1 g o s hA (fun e => hn (HN.out.1 e)); omega) (fun g o s hA hn => by have := HLB.out.2 g o s hA (fun e => hn (HN.out.2.1 e)); omega) (by omega) (.int .i64 xk) (.int .i64 x)
  have z1 := (hg3.block (W.heap.size + 1) (lt_heapV x1) (fun e => by have := Option.some.inj e; omega)).trans x1
  have HK3 := Lib.hid (((Kb.of_below HB1.out).trans hk2).aside hg3 (by omega))
  clear hg3 x0 x1 v0 v1 u0 u1 f0 f1 q0 q1
  generalize (w2.setCell ⟨W.heap.size, 0, none⟩ (.int .i64 xk)).setCell ⟨W.heap.size, 1, none⟩ (.int .i64 x) = w5 at hr3 z0 z1 HK3 ⊢
  obtain ⟨v0, v1⟩ := two_cellsV z0
  obtain ⟨u0, u1⟩ := two_cellsV z1
  have q0 := lt_heapV z0
  have q1 := lt_heapV z1
  have HC := Lib.hid (fun w => rcomp_any 34 x 0 HV1.out.1 HV1.out.2 w)
  obtain ⟨n, hn⟩ : ∃ n, compV 34 x 0 = n := ⟨_, rfl⟩
  obtain ⟨u, hu⟩ : ∃ u, compE 34 0 = u := ⟨_, rfl⟩
  rw [hn, hu] at HC HS
  clear hn hu
  have HF := Lib.hid (hfail_any hr3 u)
  have hlen : r1.ss.length ≤ 900000 := by have := HL1.out; omega
  clear hr3 z0 z1
  go_wp2_with (first | (go_at_call 38; refine (HC.out _).mono ?_; rintro e w6 ⟨rfl, rfl⟩) | (go_at_call 39; refine HF.out.mono ?_; rintro e w6 ⟨rfl, hr6, hk6⟩) | (go_at_call 40; refine (put_any hr6 2 n (by rw [failS_ss]; omega)).mono ?_; rintro e w8 hr8; have HR := Lib.hid hr8; obtain ⟨rfl, _⟩ := hr8))
  go_end0
  rw [HS.out]
  exact HdEx.after (HK3.out.trans hk6) (fun g => by rw [failS_ls]; exact HN.out.1 g) (fun g => by rw [failS_ss]; exact HN.out.2.1 g) HR.out
set_option maxRecDepth 100000 in
set_option maxHeartbeats 1000000 in
theorem numr_35 {w0 W : World} {b : Nat} {h : Hd8} {r : Rs} {lA : Option Addr} {lc : Nat} {sA : Option Addr} {sc : Nat} (H : HdSt w0 W b h r lA lc sA sc) (hl : r.ss.length ≤ 900000) (hv : VsIn r.ss) :
    Calls Try.prog 24 #[.pointer (some ⟨b, 0, none⟩), .int .i64 35] W (HdEx w0 W b h r (numR 35 r) lA sA (.tuple #[])) := by
  have HLB := Lib.hid H.lb
  have hz := lt_heapV H.box
  have hbw := H.bel.size
  have R0 := laid_old (o' := (.cells #[.int .i64 0, .int .i64 0] 42)) (World.alloc_heap_new W (.cells #[.int .i64 0, .int .i64 0] 42))
  have R1 := World.alloc_heap_new (W.alloc (.cells #[.int .i64 0, .int .i64 0] 42)) (.cells #[.int .i64 0, .int .i64 0] 42)
  have hsz : (W.alloc (.cells #[.int .i64 0, .int .i64 0] 42)).heap.size = W.heap.size + 1 := by simp
  rw [hsz] at R1
  have hlt2 : W.heap.size + 2 ≤ ((W.alloc (.cells #[.int .i64 0, .int .i64 0] 42)).alloc (.cells #[.int .i64 0, .int .i64 0] 42)).heap.size := by simp
  have hB := below_al (below_al (Below.refl W.heap.size W) (.cells #[.int .i64 0, .int .i64 0] 42)) (.cells #[.int .i64 0, .int .i64 0] 42)
  have HH1 := Lib.hid (H.up hB)
  have HN := Lib.hid (show (r.ls = [] → (takeS 2 r).ls = []) ∧ (r.ss = [] → (takeS 2 r).ss = []) ∧ (r.ls = [] → (takeS 2 (takeS 2 r)).ls = []) ∧ (r.ss = [] → (takeS 2 (takeS 2 r)).ss = []) from ⟨fun g => by rw [takeS_ls]; exact g, fun g => takeS_nil g, fun g => by rw [takeS_ls, takeS_ls]; exact g, fun g => takeS_nil (takeS_nil g)⟩)
  have HL1 := Lib.hid (takeS_len 2 r)
  have HL2 := Lib.hid (takeS_len 2 (takeS 2 r))
  have HV1 := Lib.hid (takeV_rg hv)
  have HV2 := Lib.hid (takeV_rg (takeS_in (k := 2) hv))
  have HLS := Lib.hid (show (takeS 2 r).ls = r.ls ∧ (takeS 2 (takeS 2 r)).ls = r.ls from ⟨takeS_ls _ _, by rw [takeS_ls, takeS_ls]⟩)
  go_enter Try.func24, Try.ntmps24
  go_upto_region 6 with fail
  generalize (W.alloc (.cells #[.int .i64 0, .int .i64 0] 42)).alloc (.cells #[.int .i64 0, .int .i64 0] 42) = W1 at R0 R1 hB hlt2 HH1 ⊢
  have HB1 := Lib.hid hB
  have HR0 := Lib.hid R0
  have HR1 := Lib.hid R1
  have y0 := lt_heapV R0
  have y1 := lt_heapV R1
  clear R0 R1 hB hsz H
  have HS := Lib.hid (show numR 35 r = putS 1 (compV 35 (takeV r).2 0) (failS (compE 35 0) (takeS 2 r)) from rfl)
  have HT := Lib.hid (take_any HH1.out 2 (by omega))
  obtain ⟨r1, hr1⟩ : ∃ r1, takeS 2 r = r1 := ⟨_, rfl⟩
  obtain ⟨⟨xk, x⟩, hx⟩ : ∃ x, takeV r = x := ⟨_, rfl⟩
  rw [hr1, hx] at HT HS
  rw [hr1] at HN HLS HL1
  rw [hx] at HV1
  clear hx hr1 HV2 HL2
  dsimp only at HT HS HV1
  go_upto_region 9 with (go_at_call 37; refine HT.out.mono ?_; rintro e w2 ⟨rfl, hr2, hk2⟩; have hs9 := hk2.size; have x0 := (hk2.block W.heap.size (by omega) (by omega)).trans HR0.out; have x1 := (hk2.block (W.heap.size + 1) (by omega) (by omega)).trans HR1.out; obtain ⟨v0, v1⟩ := two_cellsV x0; obtain ⟨u0, u1⟩ := two_cellsV x1; have f0 := fun j => frozV x0 j; have f1 := fun j => frozV x1 j; have q0 := lt_heapV x0; have q1 := lt_heapV x1)
  obtain ⟨hr3, z0, hg3⟩ := hr2.two x0 (by omega) (fun g o s hA hn => by have := HLB.out.1 g o s hA (fun e => hn (HN.out.1 e)); omega) (fun g o s hA hn => by have := HLB.out.2 g o s hA (fun e => hn (HN.out.2.1 e)); omega) (by omega) (.int .i64 xk) (.int .i64 x)
  have z1 := (hg3.block (W.heap.size + 1) (lt_heapV x1) (fun e => by have := Option.some.inj e; omega)).trans x1
  have HK3 := Lib.hid (((Kb.of_below HB1.out).trans hk2).aside hg3 (by omega))
  clear hg3 x0 x1 v0 v1 u0 u1 f0 f1 q0 q1
  generalize (w2.setCell ⟨W.heap.size, 0, none⟩ (.int .i64 xk)).setCell ⟨W.heap.size, 1, none⟩ (.int .i64 x) = w5 at hr3 z0 z1 HK3 ⊢
  obtain ⟨v0, v1⟩ := two_cellsV z0
  obtain ⟨u0, u1⟩ := two_cellsV z1
  have q0 := lt_heapV z0
  have q1 := lt_heapV z1
  have HC := Lib.hid (fun w => rcomp_any 35 x 0 HV1.out.1 HV1.out.2 w)
  obtain ⟨n, hn⟩ : ∃ n, compV 35 x 0 = n := ⟨_, rfl⟩
  obtain ⟨u, hu⟩ : ∃ u, compE 35 0 = u := ⟨_, rfl⟩
  rw [hn, hu] at HC HS
  clear hn hu
  have HF := Lib.hid (hfail_any hr3 u)
  have hlen : r1.ss.length ≤ 900000 := by have := HL1.out; omega
  clear hr3 z0 z1
  go_wp2_with (first | (go_at_call 38; refine (HC.out _).mono ?_; rintro e w6 ⟨rfl, rfl⟩) | (go_at_call 39; refine HF.out.mono ?_; rintro e w6 ⟨rfl, hr6, hk6⟩) | (go_at_call 40; refine (put_any hr6 1 n (by rw [failS_ss]; omega)).mono ?_; rintro e w8 hr8; have HR := Lib.hid hr8; obtain ⟨rfl, _⟩ := hr8))
  go_end0
  rw [HS.out]
  exact HdEx.after (HK3.out.trans hk6) (fun g => by rw [failS_ls]; exact HN.out.1 g) (fun g => by rw [failS_ss]; exact HN.out.2.1 g) HR.out
theorem number_any {w0 W : World} {b : Nat} {h : Hd8} {r : Rs} {lA : Option Addr} {lc : Nat} {sA : Option Addr} {sc : Nat} (H : HdSt w0 W b h r lA lc sA sc) (hl : r.ss.length ≤ 900000) (hv : VsIn r.ss) {op : Int} (ho : 15 ≤ op ∧ op ≤ 35) :
    Calls Try.prog 24 #[.pointer (some ⟨b, 0, none⟩), .int .i64 op] W (HdEx w0 W b h r (numR op r) lA sA (.tuple #[])) := by
  have hc : op = 15 ∨ op = 16 ∨ op = 17 ∨ op = 18 ∨ op = 19 ∨ op = 20 ∨ op = 21 ∨ op = 22 ∨ op = 23 ∨ op = 24 ∨ op = 25 ∨ op = 26 ∨ op = 27 ∨ op = 28 ∨ op = 29 ∨ op = 30 ∨ op = 31 ∨ op = 32 ∨ op = 33 ∨ op = 34 ∨ op = 35 := by omega
  rcases hc with e | e | e | e | e | e | e | e | e | e | e | e | e | e | e | e | e | e | e | e | e <;> subst e
  · exact numr_15 H hl hv
  · exact numr_16 H hl hv
  · exact numr_17 H hl hv
  · exact numr_18 H hl hv
  · exact numr_19 H hl hv
  · exact numr_20 H hl hv
  · exact numr_21 H hl hv
  · exact numr_22 H hl hv
  · exact numr_23 H hl hv
  · exact numr_24 H hl hv
  · exact numr_25 H hl hv
  · exact numr_26 H hl hv
  · exact numr_27 H hl hv
  · exact numr_28 H hl hv
  · exact numr_29 H hl hv
  · exact numr_30 H hl hv
  · exact numr_31 H hl hv
  · exact numr_32 H hl hv
  · exact numr_33 H hl hv
  · exact numr_34 H hl hv
  · exact numr_35 H hl hv

end Go.Proofs.Ytgiglbjkijlchaa
