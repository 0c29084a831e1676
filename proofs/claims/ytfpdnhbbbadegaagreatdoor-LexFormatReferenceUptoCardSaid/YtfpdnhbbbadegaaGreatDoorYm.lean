/- Layer 53: scan: names, numbers, strings. (gen/ym.py) -/
import Derived.Test.YtfpdnhbbbadegaaGreatDoorYh
import Derived.Test.YtfpdnhbbbadegaaGreatDoorYi
import Derived.Test.YtfpdnhbbbadegaaGreatDoorYl
import Derived.Test.YtfpdnhbbbadegaaGreatDoorYd
namespace Go.Proofs.YtfpdnhbbbadegaaGreatDoor
open Go.ChangeShapes Go.WideShapes Go.ChangeAt Go.RowKit Go.PlainAid Go.Shelf
set_option linter.unusedSimpArgs false
set_option linter.unusedVariables false

theorem scV_form (o : Option Sc) : ∃ (a : Int) (t : ByteArray) (n b z : Int), scV o = .tuple #[.agg #[.int .i64 a, .string t, .int .i64 n, .int .i64 b], .int .i64 z] := by cases o <;> exact ⟨_, _, _, _, _, rfl⟩
def boxS (w : World) (s : ByteArray) : World := ((w.alloc (.cells #[.string s] 9)).alloc (.cells #[.int .i64 0, .string ⟨#[]⟩, .int .i64 0, .int .i64 0] 27)).alloc (.cells #[.int .i64 0] 3)
theorem box_below (w : World) (s : ByteArray) : Below w.heap.size w (boxS w s) := below_al (below_al (below_al (Below.refl _ _) _) _) _
theorem box_str (w : World) (s : ByteArray) : (boxS w s).heap[w.heap.size]? = some (.cells #[.string s] 9) :=
  (Below.heap_alloc _ _ _ (by simp only [World.size_alloc]; omega)).trans ((Below.heap_alloc _ _ _ (by simp only [World.size_alloc]; omega)).trans (World.alloc_heap_new w _))
theorem box_tok (w : World) (s : ByteArray) : (boxS w s).heap[w.heap.size + 1]? = some (.cells #[.int .i64 0, .string ⟨#[]⟩, .int .i64 0, .int .i64 0] 27) := by
  refine (Below.heap_alloc _ _ _ (by simp only [World.size_alloc]; omega)).trans ?_
  have := World.alloc_heap_new (w.alloc (.cells #[.string s] 9)) (.cells #[.int .i64 0, .string ⟨#[]⟩, .int .i64 0, .int .i64 0] 27)
  rwa [World.size_alloc] at this
theorem box_int (w : World) (s : ByteArray) : (boxS w s).heap[w.heap.size + 1 + 1]? = some (.cells #[.int .i64 0] 3) := by
  have := World.alloc_heap_new ((w.alloc (.cells #[.string s] 9)).alloc (.cells #[.int .i64 0, .string ⟨#[]⟩, .int .i64 0, .int .i64 0] 27)) (.cells #[.int .i64 0] 3)
  rwa [World.size_alloc, World.size_alloc] at this
theorem results_cell_cell {fn : Func} {p u : Tmp} {ty ty' : TypeId} (h : fn.results = #[.cell p ty, .cell u ty']) (tmps : Array Value) (P : Program) (w : World) :
    (results fn tmps).run P w =
      ((asAddr (tmps.getD p undef)).run P w).andThen fun a w₁ => ((loadVar ty a).run P w₁).andThen fun v w₂ => ((asAddr (tmps.getD u undef)).run P w₂).andThen fun a' w₃ => ((loadVar ty' a').run P w₃).andThen fun v' w₄ => .ok (.tuple #[v, v']) w₄ := by
  simp only [results, h]
  simp [Sem.run_bind, Result.andThen]
theorem sc_ret {fn : Func} (hf : fn.results = #[.cell 2 27, .cell 3 3]) {a : Act} {w : World} {B C : Nat} {x0 x1 x2 x3 v : Value} (ht : a.tmps.getD 2 undef = .pointer (some ⟨B, 0, none⟩)) (hu : a.tmps.getD 3 undef = .pointer (some ⟨C, 0, none⟩))
    (hg : w.heap[B]? = some (.cells #[x0, x1, x2, x3] 27)) (hi : w.heap[C]? = some (.cells #[v] 3)) :
    (results fn a.tmps).run Tryz.prog w = .ok (.tuple #[.agg #[x0, x1, x2, x3], v]) w := by
  obtain ⟨fs, hs⟩ := tok_under
  have hl := run_loadVar_row (P := Tryz.prog) w B 27 27 #[x0, x1, x2, x3] (0, 0) _ hg hs rfl tok_size
  have hc : w.cell? ⟨C, 0, none⟩ = some v := by simp [World.cell?, hi]
  have hl2 : (loadVar 3 ⟨C, 0, none⟩).run Tryz.prog w = .ok v w := by simp [go_sem, hc]
  rw [results_cell_cell hf, ht, hu]
  simp [asAddr, Result.andThen, hl, hl2]
theorem four_otherT {w : World} {B C : Nat} {a b c d : Value} (h : C ≠ B) : ((((w.setCell ⟨B, 0, none⟩ a).setCell ⟨B, 1, none⟩ b).setCell ⟨B, 2, none⟩ c).setCell ⟨B, 3, none⟩ d).heap[C]? = w.heap[C]? := by
  rw [Below.heap_setCell _ _ _ _ h, Below.heap_setCell _ _ _ _ h, Below.heap_setCell _ _ _ _ h, Below.heap_setCell _ _ _ _ h]
theorem both_cells {W : World} {B C : Nat} (hBC : B ≠ C) {y0 y1 y2 y3 i : Value} {t t' : TypeId} (HT : W.heap[B]? = some (.cells #[y0, y1, y2, y3] t)) (HI : W.heap[C]? = some (.cells #[i] t')) (x0 x1 x2 x3 x4 : Value) :
    (((((W.setCell ⟨B, 0, none⟩ x0).setCell ⟨B, 1, none⟩ x1).setCell ⟨B, 2, none⟩ x2).setCell ⟨B, 3, none⟩ x3).setCell ⟨C, 0, none⟩ x4).heap[B]? = some (.cells #[x0, x1, x2, x3] t) ∧
    (((((W.setCell ⟨B, 0, none⟩ x0).setCell ⟨B, 1, none⟩ x1).setCell ⟨B, 2, none⟩ x2).setCell ⟨B, 3, none⟩ x3).setCell ⟨C, 0, none⟩ x4).heap[C]? = some (.cells #[x4] t') := by
  have h1 := set_fourT (a := x0) (b := x1) (c := x2) (d := x3) HT
  have h2 := (four_otherT (w := W) (B := B) (a := x0) (b := x1) (c := x2) (d := x3) (Ne.symm hBC)).trans HI
  generalize (((W.setCell ⟨B, 0, none⟩ x0).setCell ⟨B, 1, none⟩ x1).setCell ⟨B, 2, none⟩ x2).setCell ⟨B, 3, none⟩ x3 = V at h1 h2 ⊢
  exact ⟨(Below.heap_setCell V ⟨C, 0, none⟩ x4 B hBC).trans h1, heap_setCell_same V C 0 _ _ x4 h2⟩
theorem one_cellT {W : World} {B : Nat} {a : Value} {t : TypeId} (hh : W.heap[B]? = some (.cells #[a] t)) : W.cell? ⟨B, 0, none⟩ = some a ∧ W.frozen? ⟨B, 0, none⟩ = false ∧ B < W.heap.size := by
  refine ⟨?_, ?_, lt_heap hh⟩ <;> simp [World.cell?, World.frozen?, hh]
set_option maxRecDepth 100000 in
set_option maxHeartbeats 2000000 in
theorem scan_letter (s : ByteArray) (hs : s.size ≤ 5000000) (h0 : 0 < s.size) (w : World) (hL : Laid w) (h1 : letB (bt s 0) = true) : Calls Tryz.prog 18 #[.string s] w fun e w' => e = .returned (scV (scNm s.data.toList)) ∧ Below w.heap.size w w' := by
  have hb := get_bt s
  have hb0 := bt_nonneg s 0
  have hb1 := bt_le s 0
  obtain ⟨x0, x1, x2, x3, x4, hx⟩ := scV_form (scNm s.data.toList)
  rw [hx]
  have KN := Lib.hid (fun W (hW : Laid W) => (by have h := scanName_any s hs W hW; rw [hx] at h; exact h : Calls Tryz.prog 37 #[.string s] W fun e w' => e = .returned (.tuple #[.agg #[.int .i64 x0, .string x1, .int .i64 x2, .int .i64 x3], .int .i64 x4]) ∧ Below W.heap.size W w'))
  have HB := Lib.hid (box_below w s)
  have HT := Lib.hid (box_tok w s)
  have HI := Lib.hid (box_int w s)
  have HLD := Lib.hid (hL.up (box_below w s))
  have HS := Lib.hid (box_str w s)
  unfold boxS at HB HT HI HLD HS
  clear hL hx
  go_enter Tryz.func18, Tryz.ntmps18
  go_upto_region 1 with fail
  generalize ((w.alloc (.cells #[.string s] 9)).alloc (.cells #[.int .i64 0, .string ⟨#[]⟩, .int .i64 0, .int .i64 0] 27)).alloc (.cells #[.int .i64 0] 3) = W0 at HB HT HI HLD HS ⊢
  obtain ⟨s0, sf, sy⟩ := one_cellT HS.out
  go_wp2_with (first | (go_at_call 36; refine (llet_any _ _).mono ?_; rintro e w' ⟨rfl, rfl⟩) | (go_at_call 38; refine (ldig_any _ _).mono ?_; rintro e w' ⟨rfl, rfl⟩) | (go_at_call 37; refine (KN.out _ HLD.out).mono ?_; rintro e w1 ⟨rfl, hb⟩; have HB2 := Lib.hid (below_on HB.out hb); have HT2 := Lib.hid ((hb.block _ (lt_heap HT.out)).trans HT.out); have HI2 := Lib.hid ((hb.block _ (lt_heap HI.out)).trans HI.out); obtain ⟨⟨z0, z1, z2, z3⟩, fz, yz⟩ := four_cellsT HT2.out; obtain ⟨i0, fi, yi⟩ := one_cellT HI2.out; clear hb))
  have K := both_cells (show w.heap.size + 1 ≠ w.heap.size + 1 + 1 by omega) HT2.out HI2.out (.int .i64 x0) (.string x1) (.int .i64 x2) (.int .i64 x3) (.int .i64 x4)
  refine bodyPost_ret (sc_ret rfl rfl rfl K.1 K.2) rfl ?_
  exact ⟨rfl, below_st (four_belowT HB2.out (Nat.le_succ _)) (by show w.heap.size ≤ w.heap.size + 1 + 1; omega) _⟩
set_option maxRecDepth 100000 in
set_option maxHeartbeats 2000000 in
theorem scan_digit (s : ByteArray) (hs : s.size ≤ 5000000) (h0 : 0 < s.size) (w : World) (hL : Laid w) (h1 : letB (bt s 0) = false) (h2 : digB (bt s 0) = true) : Calls Tryz.prog 18 #[.string s] w fun e w' => e = .returned (scV (scNu s.data.toList)) ∧ Below w.heap.size w w' := by
  have hb := get_bt s
  have hb0 := bt_nonneg s 0
  have hb1 := bt_le s 0
  have h3 : 0 < dgN s.data.toList := by
    obtain ⟨c, r, hd, hc, hr⟩ := drop_bt h0
    rw [List.drop_zero] at hd
    rw [hd]
    exact dg_pos (by unfold dg8; rw [hc, h2])
  obtain ⟨x0, x1, x2, x3, x4, hx⟩ := scV_form (scNu s.data.toList)
  rw [hx]
  have KN := Lib.hid (fun W (hW : Laid W) => (by have h := scanNumber_any s (by omega) h3 W hW; rw [hx] at h; exact h : Calls Tryz.prog 39 #[.string s] W fun e w' => e = .returned (.tuple #[.agg #[.int .i64 x0, .string x1, .int .i64 x2, .int .i64 x3], .int .i64 x4]) ∧ Below W.heap.size W w'))
  have HB := Lib.hid (box_below w s)
  have HT := Lib.hid (box_tok w s)
  have HI := Lib.hid (box_int w s)
  have HLD := Lib.hid (hL.up (box_below w s))
  have HS := Lib.hid (box_str w s)
  unfold boxS at HB HT HI HLD HS
  clear hL hx
  go_enter Tryz.func18, Tryz.ntmps18
  go_upto_region 1 with fail
  generalize ((w.alloc (.cells #[.string s] 9)).alloc (.cells #[.int .i64 0, .string ⟨#[]⟩, .int .i64 0, .int .i64 0] 27)).alloc (.cells #[.int .i64 0] 3) = W0 at HB HT HI HLD HS ⊢
  obtain ⟨s0, sf, sy⟩ := one_cellT HS.out
  go_wp2_with (first | (go_at_call 36; refine (llet_any _ _).mono ?_; rintro e w' ⟨rfl, rfl⟩) | (go_at_call 38; refine (ldig_any _ _).mono ?_; rintro e w' ⟨rfl, rfl⟩) | (go_at_call 39; refine (KN.out _ HLD.out).mono ?_; rintro e w1 ⟨rfl, hb⟩; have HB2 := Lib.hid (below_on HB.out hb); have HT2 := Lib.hid ((hb.block _ (lt_heap HT.out)).trans HT.out); have HI2 := Lib.hid ((hb.block _ (lt_heap HI.out)).trans HI.out); obtain ⟨⟨z0, z1, z2, z3⟩, fz, yz⟩ := four_cellsT HT2.out; obtain ⟨i0, fi, yi⟩ := one_cellT HI2.out; clear hb))
  have K := both_cells (show w.heap.size + 1 ≠ w.heap.size + 1 + 1 by omega) HT2.out HI2.out (.int .i64 x0) (.string x1) (.int .i64 x2) (.int .i64 x3) (.int .i64 x4)
  refine bodyPost_ret (sc_ret rfl rfl rfl K.1 K.2) rfl ?_
  exact ⟨rfl, below_st (four_belowT HB2.out (Nat.le_succ _)) (by show w.heap.size ≤ w.heap.size + 1 + 1; omega) _⟩
set_option maxRecDepth 100000 in
set_option maxHeartbeats 2000000 in
theorem scan_quote (s : ByteArray) (hs : s.size ≤ 5000000) (h0 : 0 < s.size) (w : World) (hL : Laid w) (h1 : letB (bt s 0) = false) (h2 : digB (bt s 0) = false) (h3 : bt s 0 = 34) : Calls Tryz.prog 18 #[.string s] w fun e w' => e = .returned (scV (scSt s.data.toList)) ∧ Below w.heap.size w w' := by
  have hb := get_bt s
  have hb0 := bt_nonneg s 0
  have hb1 := bt_le s 0
  obtain ⟨x0, x1, x2, x3, x4, hx⟩ := scV_form (scSt s.data.toList)
  rw [hx]
  have KN := Lib.hid (fun W (hW : Laid W) => (by have h := scanString_any s hs h0 W; rw [hx] at h; exact h : Calls Tryz.prog 40 #[.string s] W fun e w' => e = .returned (.tuple #[.agg #[.int .i64 x0, .string x1, .int .i64 x2, .int .i64 x3], .int .i64 x4]) ∧ Below W.heap.size W w'))
  have HB := Lib.hid (box_below w s)
  have HT := Lib.hid (box_tok w s)
  have HI := Lib.hid (box_int w s)
  have HLD := Lib.hid (hL.up (box_below w s))
  have HS := Lib.hid (box_str w s)
  unfold boxS at HB HT HI HLD HS
  clear hL hx
  have e3 : (bt s 0 == 34) = true := by simpa using h3
  clear h3
  go_enter Tryz.func18, Tryz.ntmps18
  go_upto_region 1 with fail
  generalize ((w.alloc (.cells #[.string s] 9)).alloc (.cells #[.int .i64 0, .string ⟨#[]⟩, .int .i64 0, .int .i64 0] 27)).alloc (.cells #[.int .i64 0] 3) = W0 at HB HT HI HLD HS ⊢
  obtain ⟨s0, sf, sy⟩ := one_cellT HS.out
  go_wp2_with (first | (go_at_call 36; refine (llet_any _ _).mono ?_; rintro e w' ⟨rfl, rfl⟩) | (go_at_call 38; refine (ldig_any _ _).mono ?_; rintro e w' ⟨rfl, rfl⟩) | (go_at_call 40; refine (KN.out _ HLD.out).mono ?_; rintro e w1 ⟨rfl, hb⟩; have HB2 := Lib.hid (below_on HB.out hb); have HT2 := Lib.hid ((hb.block _ (lt_heap HT.out)).trans HT.out); have HI2 := Lib.hid ((hb.block _ (lt_heap HI.out)).trans HI.out); obtain ⟨⟨z0, z1, z2, z3⟩, fz, yz⟩ := four_cellsT HT2.out; obtain ⟨i0, fi, yi⟩ := one_cellT HI2.out; clear hb))
  have K := both_cells (show w.heap.size + 1 ≠ w.heap.size + 1 + 1 by omega) HT2.out HI2.out (.int .i64 x0) (.string x1) (.int .i64 x2) (.int .i64 x3) (.int .i64 x4)
  refine bodyPost_ret (sc_ret rfl rfl rfl K.1 K.2) rfl ?_
  exact ⟨rfl, below_st (four_belowT HB2.out (Nat.le_succ _)) (by show w.heap.size ≤ w.heap.size + 1 + 1; omega) _⟩

end Go.Proofs.YtfpdnhbbbadegaaGreatDoor
