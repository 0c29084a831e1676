/- Layer 42: the reference's hand in memory: local (written by gen/bohl.py). -/
import Derived.Test.YtgiglbjkijlchaaRk
namespace Go.Proofs.Ytgiglbjkijlchaa
open Go.ChangeShapes Go.WideShapes Go.ChangeAt Go.RowKit Go.PlainAid
set_option linter.unusedSimpArgs false
set_option linter.unusedVariables false

theorem HdSt.ln {w0 W : World} {b : Nat} {h : Hd8} {r : Rs} {lA : Option Addr} {lc : Nat} {sA : Option Addr} {sc : Nat} (H : HdSt w0 W b h r lA lc sA sc) {k : Nat} {p : Va} (hp : r.ls[k]? = some p) : ∃ g o, lA = some ⟨g, o, none⟩ ∧ g < W.heap.size ∧ W.cell? ⟨g, o + k * 2, none⟩ = some (.int .i64 p.1) ∧ W.cell? ⟨g, o + k * 2 + 1, none⟩ = some (.int .i64 p.2) := by
  rcases H.loc with h0 | ⟨g, o, hA, hg, hc⟩
  · rw [h0] at hp; simp at hp
  · exact ⟨g, o, hA, hg, hc k p hp⟩
set_option maxRecDepth 100000 in
set_option maxHeartbeats 1000000 in
theorem hloc_out {w0 W : World} {b : Nat} {h : Hd8} {r : Rs} {lA : Option Addr} {lc : Nat} {sA : Option Addr} {sc : Nat} (i : In) (k : Int) (H : HdSt w0 W b h r lA lc sA sc) (hlb : r.ls.length ≤ 1000000) (ho : atV i.a r.ls = none) :
    Calls Try.prog 43 #[.pointer (some ⟨b, 0, none⟩), (Value.agg #[Value.int IntKind.i64 (In.op i), Value.int IntKind.i64 (In.a i), Value.int IntKind.i64 (In.b i), Value.int IntKind.i64 (In.t i), Value.slice (In.kA i) (In.kn i) (In.kc i), Value.slice (In.tA i) (In.tn i) (In.tc i), Value.string (In.r1 i), Value.string (In.r2 i), Value.string (In.r3 i), Value.string (In.s i)]), .int .i64 k] W (HdRet w0 W b h (failS 21 r) lA lc sA sc (.agg #[.int .i64 0, .int .i64 0])) := by
  obtain ⟨m, hm⟩ : ∃ m, r.ls.length = m := ⟨_, rfl⟩
  have hor : i.a < 0 ∨ (¬ i.a < 0 ∧ (m : Int) ≤ i.a) := by
    unfold atV at ho
    split at ho
    · exact Or.inl (by assumption)
    · rename_i hg
      have := List.getElem?_eq_none_iff.1 ho
      exact Or.inr ⟨hg, by omega⟩
  clear ho
  go_enter Try.func43, Try.ntmps43
  go_upto_region 1 with fail
  have R0 := laid_old (o' := (.cells #[.int .i64 0, .int .i64 0] 42)) (World.alloc_heap_new W (.cells #[.int .i64 i.op, .int .i64 i.a, .int .i64 i.b, .int .i64 i.t, .slice i.kA i.kn i.kc, .slice i.tA i.tn i.tc, .string i.r1, .string i.r2, .string i.r3, .string i.s] 29))
  have R1 := World.alloc_heap_new (W.alloc (.cells #[.int .i64 i.op, .int .i64 i.a, .int .i64 i.b, .int .i64 i.t, .slice i.kA i.kn i.kc, .slice i.tA i.tn i.tc, .string i.r1, .string i.r2, .string i.r3, .string i.s] 29)) (.cells #[.int .i64 0, .int .i64 0] 42)
  have hsz : (W.alloc (.cells #[.int .i64 i.op, .int .i64 i.a, .int .i64 i.b, .int .i64 i.t, .slice i.kA i.kn i.kc, .slice i.tA i.tn i.tc, .string i.r1, .string i.r2, .string i.r3, .string i.s] 29)).heap.size = W.heap.size + 1 := by simp
  have hlt2 : W.heap.size + 2 ≤ ((W.alloc (.cells #[.int .i64 i.op, .int .i64 i.a, .int .i64 i.b, .int .i64 i.t, .slice i.kA i.kn i.kc, .slice i.tA i.tn i.tc, .string i.r1, .string i.r2, .string i.r3, .string i.s] 29)).alloc (.cells #[.int .i64 0, .int .i64 0] 42)).heap.size := by simp
  rw [hsz] at R1
  have hB := below_al (below_al (Below.refl W.heap.size W) (.cells #[.int .i64 i.op, .int .i64 i.a, .int .i64 i.b, .int .i64 i.t, .slice i.kA i.kn i.kc, .slice i.tA i.tn i.tc, .string i.r1, .string i.r2, .string i.r3, .string i.s] 29)) (.cells #[.int .i64 0, .int .i64 0] 42)
  generalize (W.alloc (.cells #[.int .i64 i.op, .int .i64 i.a, .int .i64 i.b, .int .i64 i.t, .slice i.kA i.kn i.kc, .slice i.tA i.tn i.tc, .string i.r1, .string i.r2, .string i.r3, .string i.s] 29)).alloc (.cells #[.int .i64 0, .int .i64 0] 42) = W1 at R0 R1 hB hlt2 ⊢
  have HH1 := Lib.hid (H.up hB)
  have HK1 := Lib.hid (Kb.of_below (b := b) hB)
  have HBW := Lib.hid hB
  have HLB := Lib.hid H.lb
  have hzb := lt_heapV H.box
  have hbw := H.bel.size
  have c3 := (nine_cells (H.up hB).box).2.2.2.1
  rw [hm] at c3 hlb
  have HM := Lib.hid hm
  have yb := lt_heapV (H.up hB).box
  have HR0 := Lib.hid R0
  have HR1 := Lib.hid R1
  obtain ⟨r0, r1, r2, r3, r4, r5, r6, r7, r8, r9⟩ := ten_cells R0
  have y0 := lt_heapV R0
  have y1 := lt_heapV R1
  clear R0 R1 hB hsz hm r0 r2 r3 r4 r5 r6 r7 r8 r9
  rcases hor with ho | ⟨ho, ho2⟩
  all_goals
    go_quiet (fail)
    have hd := below_dr (Below.refl W1.heap.size W1) nq
    generalize W1.drewN nq = W2 at hd ⊢
    have HH2 := Lib.hid (HH1.out.up hd)
    have HF := Lib.hid (hfail_any HH2.out 21)
    have HK2 := Lib.hid (HK1.out.trans (Kb.of_below hd))
    have HR2 := Lib.hid ((hd.block _ y1).trans HR1.out)
    have hs2 := hd.size
    clear c3 r1 hd
    go_upto_region 3 with (go_at_call 39; refine HF.out.mono ?_; rintro e w4 ⟨rfl, hr4, hk4⟩)
    have HR4 := Lib.hid hr4
    have HK4 := Lib.hid (HK2.out.trans hk4)
    have x1 := (hk4.block (W.heap.size + 1) (by omega) (by omega)).trans HR2.out
    have hs4 := hk4.size
    obtain ⟨z0, z1⟩ := two_cellsV x1
    have f0 := fun j => frozV x1 j
    have HX := Lib.hid x1
    have hz4 : W.heap.size + 1 < w4.heap.size := lt_heapV x1
    clear hr4 hk4 x1
    go_wp2
    have hs5 := heap_setCell_same w4 (W.heap.size + 1) 0 _ _ (.int .i64 0) HX.out
    have hs6 := heap_setCell_same _ (W.heap.size + 1) 1 _ _ (.int .i64 0) hs5
    have hg2 : w4.grownBy ((w4.setCell ⟨W.heap.size + 1, 0, none⟩ (.int .i64 0)).setCell ⟨W.heap.size + 1, 1, none⟩ (.int .i64 0)) (some (W.heap.size + 1)) := grown_two grown_setV grown_setV
    obtain ⟨e0, e1⟩ := two_cellsV hs6
    refine bodyPost_ret (v := .agg #[.int .i64 0, .int .i64 0]) ?_ rfl ⟨rfl, HR4.out.aside hg2 (by omega) (fun g o s hA hn => by have := HLB.out.1 g o s hA (by rw [failS_ls] at hn; exact hn); omega) (fun g o s hA hn => by have := HLB.out.2 g o s hA (by rw [failS_ss] at hn; exact hn); omega) (by omega), HK4.out.aside hg2 (by omega)⟩
    simp [results, Try.f43, go_sem, *]
set_option maxRecDepth 100000 in
set_option maxHeartbeats 1000000 in
theorem hloc_in {w0 W : World} {b : Nat} {h : Hd8} {r : Rs} {lA : Option Addr} {lc : Nat} {sA : Option Addr} {sc : Nat} (i : In) (k : Int) (H : HdSt w0 W b h r lA lc sA sc) (hlb : r.ls.length ≤ 1000000) {j : Nat} {x y : Int} (ha : i.a = (j : Int)) (hp : r.ls[j]? = some (x, y)) :
    Calls Try.prog 43 #[.pointer (some ⟨b, 0, none⟩), (Value.agg #[Value.int IntKind.i64 (In.op i), Value.int IntKind.i64 (In.a i), Value.int IntKind.i64 (In.b i), Value.int IntKind.i64 (In.t i), Value.slice (In.kA i) (In.kn i) (In.kc i), Value.slice (In.tA i) (In.tn i) (In.tc i), Value.string (In.r1 i), Value.string (In.r2 i), Value.string (In.r3 i), Value.string (In.s i)]), .int .i64 k] W (HdRet w0 W b h (if k ≠ 0 ∧ x ≠ k then failS 21 r else r) lA lc sA sc (.agg #[.int .i64 x, .int .i64 y])) := by
  generalize hrr : (if k ≠ 0 ∧ x ≠ k then failS 21 r else r) = r'
  have HRR := Lib.hid hrr
  clear hrr
  obtain ⟨m, hm⟩ : ∃ m, r.ls.length = m := ⟨_, rfl⟩
  have hjm : j < m := by rw [← hm]; exact get_ltF hp
  have hj0 : (0 : Int) ≤ (j : Int) := by omega
  have hj1 : (j : Int) < (m : Int) := by omega
  obtain ⟨g, o, rfl, hg, q0, q1⟩ := H.ln hp
  dsimp only at q0 q1
  have HQ := Lib.hid (And.intro q0 q1)
  clear q0 q1
  have HA := Lib.hid ha
  clear ha
  go_enter Try.func43, Try.ntmps43
  go_upto_region 1 with fail
  have R0 := laid_old (o' := (.cells #[.int .i64 0, .int .i64 0] 42)) (World.alloc_heap_new W (.cells #[.int .i64 i.op, .int .i64 i.a, .int .i64 i.b, .int .i64 i.t, .slice i.kA i.kn i.kc, .slice i.tA i.tn i.tc, .string i.r1, .string i.r2, .string i.r3, .string i.s] 29))
  have R1 := World.alloc_heap_new (W.alloc (.cells #[.int .i64 i.op, .int .i64 i.a, .int .i64 i.b, .int .i64 i.t, .slice i.kA i.kn i.kc, .slice i.tA i.tn i.tc, .string i.r1, .string i.r2, .string i.r3, .string i.s] 29)) (.cells #[.int .i64 0, .int .i64 0] 42)
  have hsz : (W.alloc (.cells #[.int .i64 i.op, .int .i64 i.a, .int .i64 i.b, .int .i64 i.t, .slice i.kA i.kn i.kc, .slice i.tA i.tn i.tc, .string i.r1, .string i.r2, .string i.r3, .string i.s] 29)).heap.size = W.heap.size + 1 := by simp
  have hlt2 : W.heap.size + 2 ≤ ((W.alloc (.cells #[.int .i64 i.op, .int .i64 i.a, .int .i64 i.b, .int .i64 i.t, .slice i.kA i.kn i.kc, .slice i.tA i.tn i.tc, .string i.r1, .string i.r2, .string i.r3, .string i.s] 29)).alloc (.cells #[.int .i64 0, .int .i64 0] 42)).heap.size := by simp
  rw [hsz] at R1
  have hB := below_al (below_al (Below.refl W.heap.size W) (.cells #[.int .i64 i.op, .int .i64 i.a, .int .i64 i.b, .int .i64 i.t, .slice i.kA i.kn i.kc, .slice i.tA i.tn i.tc, .string i.r1, .string i.r2, .string i.r3, .string i.s] 29)) (.cells #[.int .i64 0, .int .i64 0] 42)
  generalize (W.alloc (.cells #[.int .i64 i.op, .int .i64 i.a, .int .i64 i.b, .int .i64 i.t, .slice i.kA i.kn i.kc, .slice i.tA i.tn i.tc, .string i.r1, .string i.r2, .string i.r3, .string i.s] 29)).alloc (.cells #[.int .i64 0, .int .i64 0] 42) = W1 at R0 R1 hB hlt2 ⊢
  have HH1 := Lib.hid (H.up hB)
  have HK1 := Lib.hid (Kb.of_below (b := b) hB)
  have HBW := Lib.hid hB
  have HLB := Lib.hid H.lb
  have hzb := lt_heapV H.box
  have hbw := H.bel.size
  have c3 := (nine_cells (H.up hB).box).2.2.2.1
  rw [hm] at c3 hlb
  have HM := Lib.hid hm
  have yb := lt_heapV (H.up hB).box
  have HR0 := Lib.hid R0
  have HR1 := Lib.hid R1
  rw [HA.out] at R0
  obtain ⟨r0, r1, r2, r3, r4, r5, r6, r7, r8, r9⟩ := ten_cells R0
  have y0 := lt_heapV R0
  have y1 := lt_heapV R1
  clear R0 R1 hB hsz hm r0 r2 r3 r4 r5 r6 r7 r8 r9
  rw [HA.out]
  go_quiet (fail)
  go_upto_region 4 with fail
  have hd := below_dr (Below.refl W1.heap.size W1) nq
  generalize W1.drewN nq = W2 at hd ⊢
  have HH2 := Lib.hid (HH1.out.up hd)
  have HK2 := Lib.hid (HK1.out.trans (Kb.of_below hd))
  have x1 := (hd.block _ y1).trans HR1.out
  have HR2 := Lib.hid x1
  have hs2 := hd.size
  have hgd : g < W2.heap.size := by omega
  have hb0 : ∀ w', Below W2.heap.size W2 w' → Below W.heap.size W w' := fun w' h => below_on (below_on HBW.out hd) h
  have q3 := (nine_cells HH2.out.box).2.2.2.1
  rw [HM.out] at q3
  have r2 := (ten_cells ((hd.block _ y0).trans HR0.out)).2.1
  rw [HA.out] at r2
  have q0 := ((below_on HBW.out hd).cell (p := ⟨g, o + j * 2, none⟩) hg).trans HQ.out.1
  have q1 := ((below_on HBW.out hd).cell (p := ⟨g, o + j * 2 + 1, none⟩) hg).trans HQ.out.2
  have hzb2 := lt_heapV HH2.out.box
  have y02 : W.heap.size < W2.heap.size := by omega
  have KS := Lib.hid (fun (w' : World) (hb : Below W2.heap.size W2 w') => show (fun w' => w'.cell? ⟨b, 3, none⟩ = some (.slice (some ⟨g, o, none⟩) m lc) ∧ w'.cell? ⟨W.heap.size, 1, none⟩ = some (.int .i64 (j : Int)) ∧ w'.cell? ⟨g, o + j * 2, none⟩ = some (.int .i64 x) ∧ w'.cell? ⟨g, o + j * 2 + 1, none⟩ = some (.int .i64 y) ∧ Below W2.heap.size W2 w') w' from ⟨(hb.cell (p := ⟨b, 3, none⟩) hzb2).trans q3, (hb.cell (p := ⟨W.heap.size, 1, none⟩) y02).trans r2, (hb.cell (p := ⟨g, o + j * 2, none⟩) hgd).trans q0, (hb.cell (p := ⟨g, o + j * 2 + 1, none⟩) hgd).trans q1, hb⟩)
  clear q3 r2 q0 q1 hd x1 hb0
  refine regN_start (N := 10) (S := (fun w' => w'.cell? ⟨b, 3, none⟩ = some (.slice (some ⟨g, o, none⟩) m lc) ∧ w'.cell? ⟨W.heap.size, 1, none⟩ = some (.int .i64 (j : Int)) ∧ w'.cell? ⟨g, o + j * 2, none⟩ = some (.int .i64 x) ∧ w'.cell? ⟨g, o + j * 2 + 1, none⟩ = some (.int .i64 y) ∧ Below W2.heap.size W2 w')) (by kernel_rfl) ?_
  change wpAnyN _ _ _ _ _ _ _ #[false, false, false, false, false, false, false, false, false, false, false] _ (World.drew _)
  have hS0 := KS.out _ (Below.refl W2.heap.size W2).drew
  refine regN_take (i := 0) (d := (some 25)) (v := ?v4x1) (l2 := #[true, false, false, false, false, false, false, false, false, false, false]) rfl rfl rfl (by kernel_rfl) (by kernel_rfl) (by kernel_rfl) (by kernel_rfl) (fun _ _ _ h => h) (by rfl) ?hv4x1 hS0 ?h4x1
  case hv4x1 => intro u hSu; clear hSu; go_simp; (try with_reducible rfl)
  (try simp only [Act.put, List.setIfInBounds_toArray, List.set_cons_zero, List.set_cons_succ])
  refine regN_take (i := 1) (d := (some 26)) (v := ?v4x2) (l2 := #[true, true, false, false, false, false, false, false, false, false, false]) rfl rfl rfl (by kernel_rfl) (by kernel_rfl) (by kernel_rfl) (by kernel_rfl) (fun _ _ _ h => h) (by rfl) ?hv4x2 hS0 ?h4x2
  case hv4x2 => intro u hSu; clear hSu; go_simp; (try with_reducible rfl)
  (try simp only [Act.put, List.setIfInBounds_toArray, List.set_cons_zero, List.set_cons_succ])
  refine regN_take (i := 2) (d := (some 27)) (v := ?v4x3) (l2 := #[true, true, true, false, false, false, false, false, false, false, false]) rfl rfl rfl (by kernel_rfl) (by kernel_rfl) (by kernel_rfl) (by kernel_rfl) (fun _ _ _ h => h) (by rfl) ?hv4x3 hS0 ?h4x3
  case hv4x3 => intro u hSu; clear hSu; go_simp; (try with_reducible rfl)
  (try simp only [Act.put, List.setIfInBounds_toArray, List.set_cons_zero, List.set_cons_succ])
  refine regN_take (i := 3) (d := (some 28)) (v := ?v4x4) (l2 := #[true, true, true, true, false, false, false, false, false, false, false]) rfl rfl rfl (by kernel_rfl) (by kernel_rfl) (by kernel_rfl) (by kernel_rfl) (fun _ _ _ h => h) (by rfl) ?hv4x4 hS0 ?h4x4
  case hv4x4 => intro u hSu; clear hSu; go_simp; (try with_reducible rfl)
  (try simp only [Act.put, List.setIfInBounds_toArray, List.set_cons_zero, List.set_cons_succ])
  refine regN_take (i := 4) (d := (some 29)) (v := ?v4x5) (l2 := #[true, true, true, true, true, false, false, false, false, false, false]) rfl rfl rfl (by kernel_rfl) (by kernel_rfl) (by kernel_rfl) (by kernel_rfl) (fun _ _ _ h => h) (by rfl) ?hv4x5 hS0 ?h4x5
  case hv4x5 => intro u hSu; (try dsimp only at hSu); (try go_split_ands); go_simp; (try with_reducible rfl)
  (try simp only [Act.put, List.setIfInBounds_toArray, List.set_cons_zero, List.set_cons_succ])
  refine regN_take (i := 5) (d := (some 30)) (v := ?v4x6) (l2 := #[true, true, true, true, true, true, false, false, false, false, false]) rfl rfl rfl (by kernel_rfl) (by kernel_rfl) (by kernel_rfl) (by kernel_rfl) (fun _ _ _ h => h) (by rfl) ?hv4x6 hS0 ?h4x6
  case hv4x6 => intro u hSu; clear hSu; go_simp; (try with_reducible rfl)
  (try simp only [Act.put, List.setIfInBounds_toArray, List.set_cons_zero, List.set_cons_succ])
  refine regN_take (i := 6) (d := (some 31)) (v := ?v4x7) (l2 := #[true, true, true, true, true, true, true, false, false, false, false]) rfl rfl rfl (by kernel_rfl) (by kernel_rfl) (by kernel_rfl) (by kernel_rfl) (fun _ _ _ h => h) (by rfl) ?hv4x7 hS0 ?h4x7
  case hv4x7 => intro u hSu; (try dsimp only at hSu); (try go_split_ands); go_simp; (try with_reducible rfl)
  (try simp only [Act.put, List.setIfInBounds_toArray, List.set_cons_zero, List.set_cons_succ])
  refine regN_take (i := 7) (d := (some 32)) (v := ?v4x8) (l2 := #[true, true, true, true, true, true, true, true, false, false, false]) rfl rfl rfl (by kernel_rfl) (by kernel_rfl) (by kernel_rfl) (by kernel_rfl) (fun _ _ _ h => h) (by rfl) ?hv4x8 hS0 ?h4x8
  case hv4x8 => intro u hSu; clear hSu; go_simp; (try with_reducible rfl)
  (try simp only [Act.put, List.setIfInBounds_toArray, List.set_cons_zero, List.set_cons_succ])
  refine regN_take (i := 8) (d := (some 33)) (v := ?v4x9) (l2 := #[true, true, true, true, true, true, true, true, true, false, false]) rfl rfl rfl (by kernel_rfl) (by kernel_rfl) (by kernel_rfl) (by kernel_rfl) (fun _ _ _ h => h) (by rfl) ?hv4x9 hS0 ?h4x9
  case hv4x9 => intro u hSu; (try dsimp only at hSu); (try go_split_ands); go_simp; (try with_reducible rfl)
  (try simp only [Act.put, List.setIfInBounds_toArray, List.set_cons_zero, List.set_cons_succ])
  refine regN_ready (rs := [9]) (by kernel_rfl) (by simp) ?_
  refine (AllN.cons (i := 9) (l2 := #[true, true, true, true, true, true, true, true, true, true, false]) rfl rfl (fun K hK => ?_) AllN.nil)
  have hz15 : W2.heap.size < (W2.drew.alloc (.cells #[.int .i64 0, .int .i64 0] 42)).heap.size := by simp
  go_simp
  have hS1 : ((fun w' => w'.cell? ⟨b, 3, none⟩ = some (.slice (some ⟨g, o, none⟩) m lc) ∧ w'.cell? ⟨W.heap.size, 1, none⟩ = some (.int .i64 (j : Int)) ∧ w'.cell? ⟨g, o + j * 2, none⟩ = some (.int .i64 x) ∧ w'.cell? ⟨g, o + j * 2 + 1, none⟩ = some (.int .i64 y) ∧ Below W2.heap.size W2 w') : World → Prop) _ := KS.out _ (below_al (Below.refl W2.heap.size W2).drew (.cells #[.int .i64 0, .int .i64 0] 42))
  refine hK _ _ (fun _ => hS1) ?_
  clear hK K
  (try simp only [Act.put, List.setIfInBounds_toArray, List.set_cons_zero, List.set_cons_succ])
  refine regN_ready (rs := [10]) (by kernel_rfl) (by simp) ?_
  refine (AllN.cons (i := 10) (l2 := #[true, true, true, true, true, true, true, true, true, true, true]) rfl rfl (fun K hK => ?_) AllN.nil)
  go_simp
  refine hK _ _ (fun h => absurd rfl h) ?_
  clear hK K
  (try simp only [Act.put, List.setIfInBounds_toArray, List.set_cons_zero, List.set_cons_succ])
  refine regN_done (by kernel_rfl) ?_ _
  have hb3 : Below W2.heap.size W2 (W2.alloc (.cells #[.int .i64 x, .int .i64 y] 42)).drew := (below_al (Below.refl W2.heap.size W2) _).drew
  have hx3 : (W2.alloc (.cells #[.int .i64 x, .int .i64 y] 42)).drew.heap[W2.heap.size]? = some (.cells #[.int .i64 x, .int .i64 y] 42) := World.alloc_heap_new W2 _
  clear hS0 hS1 hz15 KS
  generalize (W2.alloc (.cells #[.int .i64 x, .int .i64 y] 42)).drew = W3 at hb3 hx3 ⊢
  have HH3 := Lib.hid (HH2.out.up hb3)
  have HK3 := Lib.hid (HK2.out.trans (Kb.of_below hb3))
  have hx1 := (hb3.block (W.heap.size + 1) (by omega)).trans HR2.out
  have HX1 := Lib.hid hx1
  have HX3 := Lib.hid hx3
  obtain ⟨d0, d1⟩ := two_cellsV hx3
  obtain ⟨z0, z1⟩ := two_cellsV hx1
  have hf1 := fun j => frozV hx1 j
  have y1 := lt_heapV hx1
  have y3 := lt_heapV hx3
  have hbz := lt_heapV HH3.out.box
  have hs3 := hb3.size
  clear hx1 hx3 hb3
  by_cases hbad : k ≠ 0 ∧ x ≠ k
  · have HE := Lib.hid (show r' = failS 21 r from HRR.out.symm.trans (if_pos hbad))
    have hk0 : (k != 0) = true := by simpa using hbad.1
    have hxk : (x != k) = true := by simpa using hbad.2
    have HF := Lib.hid (hfail_any HH3.out 21)
    clear hbad
    go_upto_region 7 with (go_at_call 39; refine HF.out.mono ?_; rintro e w4 ⟨rfl, hr4, hk4⟩)
    have HR4 := Lib.hid hr4
    have HK4 := Lib.hid (HK3.out.trans hk4)
    have x3 := (hk4.block W2.heap.size y3 (by omega)).trans HX3.out
    have x1 := (hk4.block (W.heap.size + 1) y1 (by omega)).trans HX1.out
    have hs4 := hk4.size
    obtain ⟨d0, d1⟩ := two_cellsV x3
    obtain ⟨z0, z1⟩ := two_cellsV x1
    have hf1 := fun j => frozV x1 j
    have HX4 := Lib.hid x1
    have y4 := lt_heapV x1
    have y5 := lt_heapV x3
    clear hr4 hk4 x1 x3
    go_wp2
    have hs5 := heap_setCell_same w4 (W.heap.size + 1) 0 _ _ (.int .i64 x) HX4.out
    have hs6 := heap_setCell_same _ (W.heap.size + 1) 1 _ _ (.int .i64 y) hs5
    have hg2 : w4.grownBy ((w4.setCell ⟨W.heap.size + 1, 0, none⟩ (.int .i64 x)).setCell ⟨W.heap.size + 1, 1, none⟩ (.int .i64 y)) (some (W.heap.size + 1)) := grown_two grown_setV grown_setV
    obtain ⟨e0, e1⟩ := two_cellsV hs6
    rw [HE.out]
    refine bodyPost_ret (v := .agg #[.int .i64 x, .int .i64 y]) ?_ rfl ⟨rfl, HR4.out.aside hg2 (by omega) (fun g o s hA hn => by have := HLB.out.1 g o s hA (by rw [failS_ls] at hn; exact hn); omega) (fun g o s hA hn => by have := HLB.out.2 g o s hA (by rw [failS_ss] at hn; exact hn); omega) (by omega), HK4.out.aside hg2 (by omega)⟩
    simp [results, Try.f43, go_sem, *]
  · have HE := Lib.hid (show r' = r from HRR.out.symm.trans (if_neg hbad))
    have hor : (k != 0) = false ∨ ((k != 0) = true ∧ (x != k) = false) := by
      simp
      omega
    clear hbad
    rcases hor with hk0 | ⟨hk0, hxk⟩
    all_goals
      go_wp2
      have hs5 := heap_setCell_same W3 (W.heap.size + 1) 0 _ _ (.int .i64 x) HX1.out
      have hs6 := heap_setCell_same _ (W.heap.size + 1) 1 _ _ (.int .i64 y) hs5
      have hg2 : W3.grownBy ((W3.setCell ⟨W.heap.size + 1, 0, none⟩ (.int .i64 x)).setCell ⟨W.heap.size + 1, 1, none⟩ (.int .i64 y)) (some (W.heap.size + 1)) := grown_two grown_setV grown_setV
      obtain ⟨e0, e1⟩ := two_cellsV hs6
      rw [HE.out]
      refine bodyPost_ret (v := .agg #[.int .i64 x, .int .i64 y]) ?_ rfl ⟨rfl, HH3.out.aside hg2 (by omega) (fun g o s hA hn => by have := HLB.out.1 g o s hA hn; omega) (fun g o s hA hn => by have := HLB.out.2 g o s hA hn; omega) (by omega), HK3.out.aside hg2 (by omega)⟩
      simp [results, Try.f43, go_sem, *]
theorem hloc_any {w0 W : World} {b : Nat} {h : Hd8} {r : Rs} {lA : Option Addr} {lc : Nat} {sA : Option Addr} {sc : Nat} (i : In) (k : Int) (H : HdSt w0 W b h r lA lc sA sc) (hlb : r.ls.length ≤ 1000000) :
    Calls Try.prog 43 #[.pointer (some ⟨b, 0, none⟩), (Value.agg #[Value.int IntKind.i64 (In.op i), Value.int IntKind.i64 (In.a i), Value.int IntKind.i64 (In.b i), Value.int IntKind.i64 (In.t i), Value.slice (In.kA i) (In.kn i) (In.kc i), Value.slice (In.tA i) (In.tn i) (In.tc i), Value.string (In.r1 i), Value.string (In.r2 i), Value.string (In.r3 i), Value.string (In.s i)]), .int .i64 k] W (HdRet w0 W b h (locRS i.a k r) lA lc sA sc (.agg #[.int .i64 (locRV i.a r).1, .int .i64 (locRV i.a r).2])) := by
  cases hp : atV i.a r.ls with
  | none =>
    rw [show locRS i.a k r = failS 21 r by unfold locRS; rw [hp], show locRV i.a r = (0, 0) by unfold locRV; rw [hp]; rfl]
    exact hloc_out i k H hlb hp
  | some p =>
    obtain ⟨x, y⟩ := p
    have h0 : ¬ i.a < 0 := fun g => by unfold atV at hp; rw [if_pos g] at hp; cases hp
    obtain ⟨j, hj⟩ : ∃ j : Nat, i.a = (j : Int) := ⟨i.a.toNat, by omega⟩
    rw [show locRS i.a k r = (if k ≠ 0 ∧ x ≠ k then failS 21 r else r) by unfold locRS; rw [hp], show locRV i.a r = (x, y) by unfold locRV; rw [hp]; rfl]
    refine hloc_in i k H hlb hj ?_
    unfold atV at hp
    rw [if_neg h0, hj] at hp
    exact hp
end Go.Proofs.Ytgiglbjkijlchaa
