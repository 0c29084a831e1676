import Derived.Test.YthifmcnemeiphaaDoorMaM

/- Mf -/
/- Layer 18: Types of the reference (written by gen/mf.py). -/
namespace Go.Proofs.YthifmcnemeiphaaDoor
open Go.ChangeShapes Go.WideShapes Go.ChangeAt Go.RowKit Go.PlainAid Go.Maps
set_option linter.unusedSimpArgs false
set_option linter.unusedVariables false

def RtyRet (w : World) (t : TY) (e : Ending) (w' : World) : Prop := e = .returned (Value.agg #[Value.int IntKind.i64 (TY.d t), Value.int IntKind.u8 (TY.b t), Value.string (TY.s t)]) ∧ Below w.heap.size w w'
theorem ki_ref (x : TY) : decide (kiV x.d x.b x.s = 3) = x.ref := by
  unfold kiV TY.ref
  cases hv : validB x.d x.b x.s with
  | false => simp
  | true =>
    have hb := valid_base hv
    rw [if_pos rfl, Bool.true_and]
    by_cases h1 : x.b = 86
    · rw [if_pos h1, h1]
      have : ¬ 0 < x.d := by
        rw [valid_in (valid_bd hv), h1] at hv
        simp at hv
        omega
      simp [this]
    · rw [if_neg h1]
      by_cases h2 : 0 < x.d ∨ x.b = 76
      · rw [if_pos h2]
        rcases h2 with h2 | h2 <;> simp [h2]
      · rw [if_neg h2]
        have h3 : ¬ 0 < x.d := fun h => h2 (Or.inl h)
        have h4 : ¬ x.b = 76 := fun h => h2 (Or.inr h)
        simp only [decide_eq_false h3, Bool.false_or]
        rw [beq_eq_false_iff_ne.2 h4]
        split <;> simp
theorem robP (d b : Int) (s : ByteArray) (v : Bool) (h : (TY.mk d b s).ref = v) (hs : s.size ≤ 9223372036854775807) (w : World) :
    Calls Tryd.prog 78 #[.agg #[.int .i64 d, .int .u8 b, .string s]] w fun e w' => e = .returned (.bool v) ∧ Below w.heap.size w w' := by
  have hB : Below w.heap.size w w := Below.refl _ _
  have hk : (kiV d b s == 3) = v := by rw [← h, ← ki_ref]; rfl
  go_enter Tryd.func78, Tryd.ntmps78
  go_wp2_with (first | (go_at_call 70; refine (rkind_any _ _ _ hs _).mono ?_; rintro e w1 ⟨rfl, hb1⟩; obtain ⟨hc1, hf1⟩ := bcell hb1; have hz1 := hb1.size; (try simp only [World.size_alloc, World.size_setCell] at hz1); (try have hza : w.heap.size < w1.heap.size := by omega); (try have hzb : w.heap.size + 1 < w1.heap.size := by omega); (try have hzc : w.heap.size + 1 + 1 < w1.heap.size := by omega); (try have hzd : wa.heap.size < w1.heap.size := by omega); (try replace hR := (hb1.block w.heap.size (by first | exact lt_heap hR | (have := lt_heap hR; simp; omega))).trans (by first | with_reducible exact hR | with_reducible exact laid_old hR)); replace hB := below_on (w := w) ((by repeat (first | with_reducible exact hB | with_reducible exact Below.refl _ _ | with_reducible refine below_al ?_ _ | with_reducible refine below_st ?_ (by first | exact Nat.le_refl _ | exact Nat.le_add_right _ _ | (simp; omega)) _))) hb1; clear hb1))
  go_ret
  exact ⟨by first | rfl | exact ret_bool hk | exact ret_bool hk.symm, (by repeat (first | with_reducible exact hB | with_reducible exact Below.refl _ _ | with_reducible refine below_al ?_ _ | with_reducible refine below_st ?_ (by first | exact Nat.le_refl _ | exact Nat.le_add_right _ _ | (simp; omega)) _))⟩
theorem far76 (d : Int) (s : ByteArray) (w : World) :
    Calls Tryd.prog 79 #[.agg #[.int .i64 d, .int .u8 76, .string s]] w fun e w' => e = .returned (.int .i64 d) ∧ Below w.heap.size w w' := by
  have hB : Below w.heap.size w w := Below.refl _ _
  go_enter Tryd.func79, Tryd.ntmps79
  go_wp2
  go_ret
  exact ⟨rfl, (by repeat (first | with_reducible exact hB | with_reducible exact Below.refl _ _ | with_reducible refine below_al ?_ _ | with_reducible refine below_st ?_ (by first | exact Nat.le_refl _ | exact Nat.le_add_right _ _ | (simp; omega)) _))⟩
theorem farN (d b : Int) (s : ByteArray) (hb : ¬ b = 76) (h : 0 ≤ d ∧ d ≤ 8) (w : World) :
    Calls Tryd.prog 79 #[.agg #[.int .i64 d, .int .u8 b, .string s]] w fun e w' => e = .returned (.int .i64 (d - 1)) ∧ Below w.heap.size w w' := by
  have hB : Below w.heap.size w w := Below.refl _ _
  obtain ⟨h0, h1⟩ := h
  go_enter Tryd.func79, Tryd.ntmps79
  go_wp2
  go_ret
  exact ⟨rfl, (by repeat (first | with_reducible exact hB | with_reducible exact Below.refl _ _ | with_reducible refine below_al ?_ _ | with_reducible refine below_st ?_ (by first | exact Nat.le_refl _ | exact Nat.le_add_right _ _ | (simp; omega)) _))⟩
set_option maxRecDepth 100000 in
set_option maxHeartbeats 4000000 in
theorem rty_z1 (V : Value) (b1 b2 d1 d2 : Int) (s1 s2 : ByteArray) (w : World) (hz1 : s1.size ≤ 9223372036854775807) (hz2 : s2.size ≤ 9223372036854775807) (h1 : (TY.mk d1 b1 s1).ref = false) :
    Calls Tryd.prog 43 #[V, .agg #[.int .i64 d1, .int .u8 b1, .string s1], .agg #[.int .i64 d2, .int .u8 b2, .string s2]] w (RtyRet w tyZ) := by
  go_enter Tryd.func43, Tryd.ntmps43
  go_upto_region 1 with fail
  obtain ⟨H0, H1, H2, hB, hz⟩ := three_laid w (.cells #[.int .i64 (d1), .int .u8 b1, .string s1] 41) (.cells #[.int .i64 (d2), .int .u8 b2, .string s2] 41) (.cells #[.int .i64 (0), .int .u8 0, .string ⟨#[]⟩] 41)
  generalize ((w.alloc (.cells #[.int .i64 (d1), .int .u8 b1, .string s1] 41)).alloc (.cells #[.int .i64 (d2), .int .u8 b2, .string s2] 41)).alloc (.cells #[.int .i64 (0), .int .u8 0, .string ⟨#[]⟩] 41) = W at H0 H1 H2 hB hz ⊢
  obtain ⟨xa0, xa1, xa2, fa0, fa1, fa2⟩ := three_cells H0; obtain ⟨xb0, xb1, xb2, fb0, fb1, fb2⟩ := three_cells H1; obtain ⟨xc0, xc1, xc2, fc0, fc1, fc2⟩ := three_cells H2
  go_wp2_with (go_at_call 78; (with_reducible refine (robP d1 b1 s1 _ h1 hz1 _).mono ?_); rintro e w1 ⟨rfl, hb1⟩; replace H0 := (hb1.block _ (lt_heap H0)).trans H0; replace H1 := (hb1.block _ (lt_heap H1)).trans H1; replace H2 := (hb1.block _ (lt_heap H2)).trans H2; replace hB := below_on hB hb1; clear hb1 xa0 xa1 xa2 fa0 fa1 fa2 xb0 xb1 xb2 fb0 fb1 fb2 xc0 xc1 xc2 fc0 fc1 fc2; obtain ⟨xa0, xa1, xa2, fa0, fa1, fa2⟩ := three_cells H0; obtain ⟨xb0, xb1, xb2, fb0, fb1, fb2⟩ := three_cells H1; obtain ⟨xc0, xc1, xc2, fc0, fc1, fc2⟩ := three_cells H2)
  refine bodyPost_ret (ty_ret rfl rfl (set_three H2)) rfl ⟨rfl, ?_⟩
  exact below_st (below_st (below_st hB (by simp; omega) _) (by simp; omega) _) (by simp; omega) _
set_option maxRecDepth 100000 in
set_option maxHeartbeats 4000000 in
theorem rty_z2 (V : Value) (b1 b2 d1 d2 : Int) (s1 s2 : ByteArray) (w : World) (hz1 : s1.size ≤ 9223372036854775807) (hz2 : s2.size ≤ 9223372036854775807) (h1 : (TY.mk d1 b1 s1).ref = true) (h2 : (TY.mk d2 b2 s2).ref = false) :
    Calls Tryd.prog 43 #[V, .agg #[.int .i64 d1, .int .u8 b1, .string s1], .agg #[.int .i64 d2, .int .u8 b2, .string s2]] w (RtyRet w tyZ) := by
  go_enter Tryd.func43, Tryd.ntmps43
  go_upto_region 1 with fail
  obtain ⟨H0, H1, H2, hB, hz⟩ := three_laid w (.cells #[.int .i64 (d1), .int .u8 b1, .string s1] 41) (.cells #[.int .i64 (d2), .int .u8 b2, .string s2] 41) (.cells #[.int .i64 (0), .int .u8 0, .string ⟨#[]⟩] 41)
  generalize ((w.alloc (.cells #[.int .i64 (d1), .int .u8 b1, .string s1] 41)).alloc (.cells #[.int .i64 (d2), .int .u8 b2, .string s2] 41)).alloc (.cells #[.int .i64 (0), .int .u8 0, .string ⟨#[]⟩] 41) = W at H0 H1 H2 hB hz ⊢
  obtain ⟨xa0, xa1, xa2, fa0, fa1, fa2⟩ := three_cells H0; obtain ⟨xb0, xb1, xb2, fb0, fb1, fb2⟩ := three_cells H1; obtain ⟨xc0, xc1, xc2, fc0, fc1, fc2⟩ := three_cells H2
  go_wp2_with (first | (go_at_call 78; (with_reducible refine (robP d1 b1 s1 _ h1 hz1 _).mono ?_); rintro e w1 ⟨rfl, hb1⟩; replace H0 := (hb1.block _ (lt_heap H0)).trans H0; replace H1 := (hb1.block _ (lt_heap H1)).trans H1; replace H2 := (hb1.block _ (lt_heap H2)).trans H2; replace hB := below_on hB hb1; clear hb1 xa0 xa1 xa2 fa0 fa1 fa2 xb0 xb1 xb2 fb0 fb1 fb2 xc0 xc1 xc2 fc0 fc1 fc2; obtain ⟨xa0, xa1, xa2, fa0, fa1, fa2⟩ := three_cells H0; obtain ⟨xb0, xb1, xb2, fb0, fb1, fb2⟩ := three_cells H1; obtain ⟨xc0, xc1, xc2, fc0, fc1, fc2⟩ := three_cells H2) | (go_at_call 78; (with_reducible refine (robP d2 b2 s2 _ h2 hz2 _).mono ?_); rintro e w1 ⟨rfl, hb1⟩; replace H0 := (hb1.block _ (lt_heap H0)).trans H0; replace H1 := (hb1.block _ (lt_heap H1)).trans H1; replace H2 := (hb1.block _ (lt_heap H2)).trans H2; replace hB := below_on hB hb1; clear hb1 xa0 xa1 xa2 fa0 fa1 fa2 xb0 xb1 xb2 fb0 fb1 fb2 xc0 xc1 xc2 fc0 fc1 fc2; obtain ⟨xa0, xa1, xa2, fa0, fa1, fa2⟩ := three_cells H0; obtain ⟨xb0, xb1, xb2, fb0, fb1, fb2⟩ := three_cells H1; obtain ⟨xc0, xc1, xc2, fc0, fc1, fc2⟩ := three_cells H2))
  refine bodyPost_ret (ty_ret rfl rfl (set_three H2)) rfl ⟨rfl, ?_⟩
  exact below_st (below_st (below_st hB (by simp; omega) _) (by simp; omega) _) (by simp; omega) _
set_option maxRecDepth 100000 in
set_option maxHeartbeats 4000000 in
theorem rty_e (V : Value) (b1 b2 d1 d2 : Int) (s1 s2 : ByteArray) (w : World) (hz1 : s1.size ≤ 9223372036854775807) (hz2 : s2.size ≤ 9223372036854775807) (h1 : (TY.mk d1 b1 s1).ref = true) (h2 : (TY.mk d2 b2 s2).ref = true) (hE : tyE (TY.mk d1 b1 s1) (TY.mk d2 b2 s2) = true) :
    Calls Tryd.prog 43 #[V, .agg #[.int .i64 d1, .int .u8 b1, .string s1], .agg #[.int .i64 d2, .int .u8 b2, .string s2]] w (RtyRet w (TY.mk d1 b1 s1)) := by
  have e1 := fun w => ty_eqP hE w
  go_enter Tryd.func43, Tryd.ntmps43
  go_upto_region 1 with fail
  obtain ⟨H0, H1, H2, hB, hz⟩ := three_laid w (.cells #[.int .i64 (d1), .int .u8 b1, .string s1] 41) (.cells #[.int .i64 (d2), .int .u8 b2, .string s2] 41) (.cells #[.int .i64 (0), .int .u8 0, .string ⟨#[]⟩] 41)
  generalize ((w.alloc (.cells #[.int .i64 (d1), .int .u8 b1, .string s1] 41)).alloc (.cells #[.int .i64 (d2), .int .u8 b2, .string s2] 41)).alloc (.cells #[.int .i64 (0), .int .u8 0, .string ⟨#[]⟩] 41) = W at H0 H1 H2 hB hz ⊢
  obtain ⟨xa0, xa1, xa2, fa0, fa1, fa2⟩ := three_cells H0; obtain ⟨xb0, xb1, xb2, fb0, fb1, fb2⟩ := three_cells H1; obtain ⟨xc0, xc1, xc2, fc0, fc1, fc2⟩ := three_cells H2
  go_wp2_with (first | (go_at_call 78; (with_reducible refine (robP d1 b1 s1 _ h1 hz1 _).mono ?_); rintro e w1 ⟨rfl, hb1⟩; replace H0 := (hb1.block _ (lt_heap H0)).trans H0; replace H1 := (hb1.block _ (lt_heap H1)).trans H1; replace H2 := (hb1.block _ (lt_heap H2)).trans H2; replace hB := below_on hB hb1; clear hb1 xa0 xa1 xa2 fa0 fa1 fa2 xb0 xb1 xb2 fb0 fb1 fb2 xc0 xc1 xc2 fc0 fc1 fc2; obtain ⟨xa0, xa1, xa2, fa0, fa1, fa2⟩ := three_cells H0; obtain ⟨xb0, xb1, xb2, fb0, fb1, fb2⟩ := three_cells H1; obtain ⟨xc0, xc1, xc2, fc0, fc1, fc2⟩ := three_cells H2) | (go_at_call 78; (with_reducible refine (robP d2 b2 s2 _ h2 hz2 _).mono ?_); rintro e w1 ⟨rfl, hb1⟩; replace H0 := (hb1.block _ (lt_heap H0)).trans H0; replace H1 := (hb1.block _ (lt_heap H1)).trans H1; replace H2 := (hb1.block _ (lt_heap H2)).trans H2; replace hB := below_on hB hb1; clear hb1 xa0 xa1 xa2 fa0 fa1 fa2 xb0 xb1 xb2 fb0 fb1 fb2 xc0 xc1 xc2 fc0 fc1 fc2; obtain ⟨xa0, xa1, xa2, fa0, fa1, fa2⟩ := three_cells H0; obtain ⟨xb0, xb1, xb2, fb0, fb1, fb2⟩ := three_cells H1; obtain ⟨xc0, xc1, xc2, fc0, fc1, fc2⟩ := three_cells H2))
  refine bodyPost_ret (ty_ret rfl rfl (set_three H2)) rfl ⟨rfl, ?_⟩
  exact below_st (below_st (below_st hB (by simp; omega) _) (by simp; omega) _) (by simp; omega) _
set_option maxRecDepth 100000 in
set_option maxHeartbeats 4000000 in
theorem rty_4 (V : Value) (d : Int) (s1 s2 : ByteArray) (w : World) (hz1 : s1.size ≤ 9223372036854775807) (hz2 : s2.size ≤ 9223372036854775807) (h1 : (TY.mk d 76 s1).ref = true) (h2 : (TY.mk d 76 s2).ref = true) (hE : tyE (TY.mk d 76 s1) (TY.mk d 76 s2) = false) (r : ByteArray) (hr : r.toList.isEmpty = false) (KC : ∀ W, Below w.heap.size w W → Calls Tryd.prog 26 #[V, .string s1, .string s2] W fun e w' => e = .returned (.string r) ∧ Below W.heap.size W w') :
    Calls Tryd.prog 43 #[V, .agg #[.int .i64 d, .int .u8 76, .string s1], .agg #[.int .i64 d, .int .u8 76, .string s2]] w (RtyRet w ⟨d, 76, r⟩) := by
  have e1 := fun w => ty_eqP hE w
  go_enter Tryd.func43, Tryd.ntmps43
  go_upto_region 1 with fail
  obtain ⟨H0, H1, H2, hB, hz⟩ := three_laid w (.cells #[.int .i64 (d), .int .u8 76, .string s1] 41) (.cells #[.int .i64 (d), .int .u8 76, .string s2] 41) (.cells #[.int .i64 (0), .int .u8 0, .string ⟨#[]⟩] 41)
  generalize ((w.alloc (.cells #[.int .i64 (d), .int .u8 76, .string s1] 41)).alloc (.cells #[.int .i64 (d), .int .u8 76, .string s2] 41)).alloc (.cells #[.int .i64 (0), .int .u8 0, .string ⟨#[]⟩] 41) = W at H0 H1 H2 hB hz ⊢
  obtain ⟨xa0, xa1, xa2, fa0, fa1, fa2⟩ := three_cells H0; obtain ⟨xb0, xb1, xb2, fb0, fb1, fb2⟩ := three_cells H1; obtain ⟨xc0, xc1, xc2, fc0, fc1, fc2⟩ := three_cells H2
  go_upto_region 6 with (first | (go_at_call 78; (with_reducible refine (robP d 76 s1 _ h1 hz1 _).mono ?_); rintro e w1 ⟨rfl, hb1⟩; replace H0 := (hb1.block _ (lt_heap H0)).trans H0; replace H1 := (hb1.block _ (lt_heap H1)).trans H1; replace H2 := (hb1.block _ (lt_heap H2)).trans H2; replace hB := below_on hB hb1; clear hb1 xa0 xa1 xa2 fa0 fa1 fa2 xb0 xb1 xb2 fb0 fb1 fb2 xc0 xc1 xc2 fc0 fc1 fc2; obtain ⟨xa0, xa1, xa2, fa0, fa1, fa2⟩ := three_cells H0; obtain ⟨xb0, xb1, xb2, fb0, fb1, fb2⟩ := three_cells H1; obtain ⟨xc0, xc1, xc2, fc0, fc1, fc2⟩ := three_cells H2) | (go_at_call 78; (with_reducible refine (robP d 76 s2 _ h2 hz2 _).mono ?_); rintro e w1 ⟨rfl, hb1⟩; replace H0 := (hb1.block _ (lt_heap H0)).trans H0; replace H1 := (hb1.block _ (lt_heap H1)).trans H1; replace H2 := (hb1.block _ (lt_heap H2)).trans H2; replace hB := below_on hB hb1; clear hb1 xa0 xa1 xa2 fa0 fa1 fa2 xb0 xb1 xb2 fb0 fb1 fb2 xc0 xc1 xc2 fc0 fc1 fc2; obtain ⟨xa0, xa1, xa2, fa0, fa1, fa2⟩ := three_cells H0; obtain ⟨xb0, xb1, xb2, fb0, fb1, fb2⟩ := three_cells H1; obtain ⟨xc0, xc1, xc2, fc0, fc1, fc2⟩ := three_cells H2))
  have hg : w.heap.size + 3 ≤ w1.heap.size := lt_heap H2
  have H3 := World.alloc_heap_new w1 (.cells #[.int .i64 (0), .int .u8 76, .string rootS] 41)
  replace H0 := laid_old (o' := (.cells #[.int .i64 (0), .int .u8 76, .string rootS] 41)) H0
  replace H1 := laid_old (o' := (.cells #[.int .i64 (0), .int .u8 76, .string rootS] 41)) H1
  replace H2 := laid_old (o' := (.cells #[.int .i64 (0), .int .u8 76, .string rootS] 41)) H2
  replace hB := below_al hB (.cells #[.int .i64 (0), .int .u8 76, .string rootS] 41)
  generalize w1.alloc (.cells #[.int .i64 (0), .int .u8 76, .string rootS] 41) = W2 at H0 H1 H2 H3 hB ⊢
  generalize w1.heap.size = B7 at H3 hg ⊢
  clear xa0 xa1 xa2 fa0 fa1 fa2 xb0 xb1 xb2 fb0 fb1 fb2 xc0 xc1 xc2 fc0 fc1 fc2
  obtain ⟨xa0, xa1, xa2, fa0, fa1, fa2⟩ := three_cells H0; obtain ⟨xb0, xb1, xb2, fb0, fb1, fb2⟩ := three_cells H1; obtain ⟨xc0, xc1, xc2, fc0, fc1, fc2⟩ := three_cells H2; obtain ⟨xd0, xd1, xd2, fd0, fd1, fd2⟩ := three_cells H3
  go_upto_region 8 with fail
  replace H0 := (heap_setCell_other W2 ⟨B7, 0, none⟩ _ (Value.int IntKind.i64 d) (show (_ : Nat) ≠ B7 by omega)).trans H0
  replace H1 := (heap_setCell_other W2 ⟨B7, 0, none⟩ _ (Value.int IntKind.i64 d) (show (_ : Nat) ≠ B7 by omega)).trans H1
  replace H2 := (heap_setCell_other W2 ⟨B7, 0, none⟩ _ (Value.int IntKind.i64 d) (show (_ : Nat) ≠ B7 by omega)).trans H2
  replace H3 : (W2.setCell ⟨B7, 0, none⟩ (Value.int IntKind.i64 d)).heap[B7]? = some (.cells #[.int .i64 (d), .int .u8 76, .string rootS] 41) := heap_setCell_same W2 B7 0 _ _ (Value.int IntKind.i64 d) H3
  replace hB := below_st hB (p := ⟨B7, 0, none⟩) (by show w.heap.size ≤ B7; omega) (Value.int IntKind.i64 d)
  generalize W2.setCell ⟨B7, 0, none⟩ (Value.int IntKind.i64 d) = W3 at H0 H1 H2 H3 hB ⊢
  clear xa0 xa1 xa2 fa0 fa1 fa2 xb0 xb1 xb2 fb0 fb1 fb2 xc0 xc1 xc2 fc0 fc1 fc2 xd0 xd1 xd2 fd0 fd1 fd2
  obtain ⟨xa0, xa1, xa2, fa0, fa1, fa2⟩ := three_cells H0; obtain ⟨xb0, xb1, xb2, fb0, fb1, fb2⟩ := three_cells H1; obtain ⟨xc0, xc1, xc2, fc0, fc1, fc2⟩ := three_cells H2; obtain ⟨xd0, xd1, xd2, fd0, fd1, fd2⟩ := three_cells H3
  go_upto_region 11 with (go_at_call 26; (with_reducible refine (KC _ hB).mono ?_); rintro e w4 ⟨rfl, hb1⟩; replace H0 := (hb1.block _ (lt_heap H0)).trans H0; replace H1 := (hb1.block _ (lt_heap H1)).trans H1; replace H2 := (hb1.block _ (lt_heap H2)).trans H2; replace H3 := (hb1.block _ (lt_heap H3)).trans H3; replace hB := below_on hB hb1; clear hb1 xa0 xa1 xa2 fa0 fa1 fa2 xb0 xb1 xb2 fb0 fb1 fb2 xc0 xc1 xc2 fc0 fc1 fc2 xd0 xd1 xd2 fd0 fd1 fd2; obtain ⟨xa0, xa1, xa2, fa0, fa1, fa2⟩ := three_cells H0; obtain ⟨xb0, xb1, xb2, fb0, fb1, fb2⟩ := three_cells H1; obtain ⟨xc0, xc1, xc2, fc0, fc1, fc2⟩ := three_cells H2; obtain ⟨xd0, xd1, xd2, fd0, fd1, fd2⟩ := three_cells H3)
  replace H0 := (heap_setCell_other w4 ⟨B7, 2, none⟩ _ (Value.string r) (show (_ : Nat) ≠ B7 by omega)).trans H0
  replace H1 := (heap_setCell_other w4 ⟨B7, 2, none⟩ _ (Value.string r) (show (_ : Nat) ≠ B7 by omega)).trans H1
  replace H2 := (heap_setCell_other w4 ⟨B7, 2, none⟩ _ (Value.string r) (show (_ : Nat) ≠ B7 by omega)).trans H2
  replace H3 : (w4.setCell ⟨B7, 2, none⟩ (Value.string r)).heap[B7]? = some (.cells #[.int .i64 (d), .int .u8 76, .string r] 41) := heap_setCell_same w4 B7 2 _ _ (Value.string r) H3
  replace hB := below_st hB (p := ⟨B7, 2, none⟩) (by show w.heap.size ≤ B7; omega) (Value.string r)
  generalize w4.setCell ⟨B7, 2, none⟩ (Value.string r) = W5 at H0 H1 H2 H3 hB ⊢
  clear xa0 xa1 xa2 fa0 fa1 fa2 xb0 xb1 xb2 fb0 fb1 fb2 xc0 xc1 xc2 fc0 fc1 fc2 xd0 xd1 xd2 fd0 fd1 fd2
  obtain ⟨xa0, xa1, xa2, fa0, fa1, fa2⟩ := three_cells H0; obtain ⟨xb0, xb1, xb2, fb0, fb1, fb2⟩ := three_cells H1; obtain ⟨xc0, xc1, xc2, fc0, fc1, fc2⟩ := three_cells H2; obtain ⟨xd0, xd1, xd2, fd0, fd1, fd2⟩ := three_cells H3
  go_wp2
  refine bodyPost_ret (ty_ret rfl rfl (set_three H2)) rfl ⟨rfl, ?_⟩
  exact below_st (below_st (below_st hB (by simp; omega) _) (by simp; omega) _) (by simp; omega) _
set_option maxRecDepth 100000 in
set_option maxHeartbeats 4000000 in
theorem rty_50 (V : Value) (d1 d2 : Int) (s1 s2 : ByteArray) (w : World) (hz1 : s1.size ≤ 9223372036854775807) (hz2 : s2.size ≤ 9223372036854775807) (h1 : (TY.mk d1 76 s1).ref = true) (h2 : (TY.mk d2 76 s2).ref = true) (hE : tyE (TY.mk d1 76 s1) (TY.mk d2 76 s2) = false) (h3 : ¬ d1 = d2)  (hd1 : 0 ≤ d1 ∧ d1 ≤ 8) (hd2 : 0 ≤ d2 ∧ d2 ≤ 8) :
    Calls Tryd.prog 43 #[V, .agg #[.int .i64 d1, .int .u8 76, .string s1], .agg #[.int .i64 d2, .int .u8 76, .string s2]] w (RtyRet w ⟨if d2 < d1 then d2 else d1, 76, rootS⟩) := by
  have e1 := fun w => ty_eqP hE w
  go_enter Tryd.func43, Tryd.ntmps43
  go_upto_region 1 with fail
  obtain ⟨H0, H1, H2, hB, hz⟩ := three_laid w (.cells #[.int .i64 (d1), .int .u8 76, .string s1] 41) (.cells #[.int .i64 (d2), .int .u8 76, .string s2] 41) (.cells #[.int .i64 (0), .int .u8 0, .string ⟨#[]⟩] 41)
  generalize ((w.alloc (.cells #[.int .i64 (d1), .int .u8 76, .string s1] 41)).alloc (.cells #[.int .i64 (d2), .int .u8 76, .string s2] 41)).alloc (.cells #[.int .i64 (0), .int .u8 0, .string ⟨#[]⟩] 41) = W at H0 H1 H2 hB hz ⊢
  obtain ⟨xa0, xa1, xa2, fa0, fa1, fa2⟩ := three_cells H0; obtain ⟨xb0, xb1, xb2, fb0, fb1, fb2⟩ := three_cells H1; obtain ⟨xc0, xc1, xc2, fc0, fc1, fc2⟩ := three_cells H2
  go_upto_region 6 with (first | (go_at_call 78; (with_reducible refine (robP d1 76 s1 _ h1 hz1 _).mono ?_); rintro e w1 ⟨rfl, hb1⟩; replace H0 := (hb1.block _ (lt_heap H0)).trans H0; replace H1 := (hb1.block _ (lt_heap H1)).trans H1; replace H2 := (hb1.block _ (lt_heap H2)).trans H2; replace hB := below_on hB hb1; clear hb1 xa0 xa1 xa2 fa0 fa1 fa2 xb0 xb1 xb2 fb0 fb1 fb2 xc0 xc1 xc2 fc0 fc1 fc2; obtain ⟨xa0, xa1, xa2, fa0, fa1, fa2⟩ := three_cells H0; obtain ⟨xb0, xb1, xb2, fb0, fb1, fb2⟩ := three_cells H1; obtain ⟨xc0, xc1, xc2, fc0, fc1, fc2⟩ := three_cells H2) | (go_at_call 78; (with_reducible refine (robP d2 76 s2 _ h2 hz2 _).mono ?_); rintro e w1 ⟨rfl, hb1⟩; replace H0 := (hb1.block _ (lt_heap H0)).trans H0; replace H1 := (hb1.block _ (lt_heap H1)).trans H1; replace H2 := (hb1.block _ (lt_heap H2)).trans H2; replace hB := below_on hB hb1; clear hb1 xa0 xa1 xa2 fa0 fa1 fa2 xb0 xb1 xb2 fb0 fb1 fb2 xc0 xc1 xc2 fc0 fc1 fc2; obtain ⟨xa0, xa1, xa2, fa0, fa1, fa2⟩ := three_cells H0; obtain ⟨xb0, xb1, xb2, fb0, fb1, fb2⟩ := three_cells H1; obtain ⟨xc0, xc1, xc2, fc0, fc1, fc2⟩ := three_cells H2))
  have hg : w.heap.size + 3 ≤ w1.heap.size := lt_heap H2
  have H3 := World.alloc_heap_new w1 (.cells #[.int .i64 (0), .int .u8 76, .string rootS] 41)
  replace H0 := laid_old (o' := (.cells #[.int .i64 (0), .int .u8 76, .string rootS] 41)) H0
  replace H1 := laid_old (o' := (.cells #[.int .i64 (0), .int .u8 76, .string rootS] 41)) H1
  replace H2 := laid_old (o' := (.cells #[.int .i64 (0), .int .u8 76, .string rootS] 41)) H2
  replace hB := below_al hB (.cells #[.int .i64 (0), .int .u8 76, .string rootS] 41)
  generalize w1.alloc (.cells #[.int .i64 (0), .int .u8 76, .string rootS] 41) = W2 at H0 H1 H2 H3 hB ⊢
  generalize w1.heap.size = B7 at H3 hg ⊢
  clear xa0 xa1 xa2 fa0 fa1 fa2 xb0 xb1 xb2 fb0 fb1 fb2 xc0 xc1 xc2 fc0 fc1 fc2
  obtain ⟨xa0, xa1, xa2, fa0, fa1, fa2⟩ := three_cells H0; obtain ⟨xb0, xb1, xb2, fb0, fb1, fb2⟩ := three_cells H1; obtain ⟨xc0, xc1, xc2, fc0, fc1, fc2⟩ := three_cells H2; obtain ⟨xd0, xd1, xd2, fd0, fd1, fd2⟩ := three_cells H3
  go_upto_region 13 with (go_at_call 79; (with_reducible refine (far76 d1 _ _).mono ?_); rintro e w6 ⟨rfl, hb1⟩; replace H0 := (hb1.block _ (lt_heap H0)).trans H0; replace H1 := (hb1.block _ (lt_heap H1)).trans H1; replace H2 := (hb1.block _ (lt_heap H2)).trans H2; replace H3 := (hb1.block _ (lt_heap H3)).trans H3; replace hB := below_on hB hb1; clear hb1 xa0 xa1 xa2 fa0 fa1 fa2 xb0 xb1 xb2 fb0 fb1 fb2 xc0 xc1 xc2 fc0 fc1 fc2 xd0 xd1 xd2 fd0 fd1 fd2; obtain ⟨xa0, xa1, xa2, fa0, fa1, fa2⟩ := three_cells H0; obtain ⟨xb0, xb1, xb2, fb0, fb1, fb2⟩ := three_cells H1; obtain ⟨xc0, xc1, xc2, fc0, fc1, fc2⟩ := three_cells H2; obtain ⟨xd0, xd1, xd2, fd0, fd1, fd2⟩ := three_cells H3)
  replace H0 := (heap_setCell_other w6 ⟨B7, 0, none⟩ _ (Value.int IntKind.i64 (d1)) (show (_ : Nat) ≠ B7 by omega)).trans H0
  replace H1 := (heap_setCell_other w6 ⟨B7, 0, none⟩ _ (Value.int IntKind.i64 (d1)) (show (_ : Nat) ≠ B7 by omega)).trans H1
  replace H2 := (heap_setCell_other w6 ⟨B7, 0, none⟩ _ (Value.int IntKind.i64 (d1)) (show (_ : Nat) ≠ B7 by omega)).trans H2
  replace H3 : (w6.setCell ⟨B7, 0, none⟩ (Value.int IntKind.i64 (d1))).heap[B7]? = some (.cells #[.int .i64 (d1), .int .u8 76, .string rootS] 41) := heap_setCell_same w6 B7 0 _ _ (Value.int IntKind.i64 (d1)) H3
  replace hB := below_st hB (p := ⟨B7, 0, none⟩) (by show w.heap.size ≤ B7; omega) (Value.int IntKind.i64 (d1))
  generalize w6.setCell ⟨B7, 0, none⟩ (Value.int IntKind.i64 (d1)) = W7 at H0 H1 H2 H3 hB ⊢
  clear xa0 xa1 xa2 fa0 fa1 fa2 xb0 xb1 xb2 fb0 fb1 fb2 xc0 xc1 xc2 fc0 fc1 fc2 xd0 xd1 xd2 fd0 fd1 fd2
  obtain ⟨xa0, xa1, xa2, fa0, fa1, fa2⟩ := three_cells H0; obtain ⟨xb0, xb1, xb2, fb0, fb1, fb2⟩ := three_cells H1; obtain ⟨xc0, xc1, xc2, fc0, fc1, fc2⟩ := three_cells H2; obtain ⟨xd0, xd1, xd2, fd0, fd1, fd2⟩ := three_cells H3
  clear xa0 xa1 xa2 fa0 fa1 fa2 xb0 xb1 xb2 fb0 fb1 fb2 xc0 xc1 xc2 fc0 fc1 fc2 xd0 xd1 xd2 fd0 fd1 fd2 h1 h2 e1
  by_cases hm : d2 < d1
  · refine regN_start (N := 4) (S := (fun W' => W'.heap[w.heap.size]? = some (.cells #[.int .i64 (d1), .int .u8 76, .string s1] 41) ∧ W'.heap[w.heap.size + 1]? = some (.cells #[.int .i64 (d2), .int .u8 76, .string s2] 41) ∧ W'.heap[w.heap.size + 1 + 1]? = some (.cells #[.int .i64 (0), .int .u8 0, .string ⟨#[]⟩] 41) ∧ W'.heap[B7]? = some (.cells #[.int .i64 (d1), .int .u8 76, .string rootS] 41) ∧ Below w.heap.size w W')) (by kernel_rfl) ?_
    change wpAnyN _ _ _ _ _ _ _ #[false, false, false, false, false] _ (World.drew _)
    have hS0 := (show (fun W' => W'.heap[w.heap.size]? = some (.cells #[.int .i64 (d1), .int .u8 76, .string s1] 41) ∧ W'.heap[w.heap.size + 1]? = some (.cells #[.int .i64 (d2), .int .u8 76, .string s2] 41) ∧ W'.heap[w.heap.size + 1 + 1]? = some (.cells #[.int .i64 (0), .int .u8 0, .string ⟨#[]⟩] 41) ∧ W'.heap[B7]? = some (.cells #[.int .i64 (d1), .int .u8 76, .string rootS] 41) ∧ Below w.heap.size w W') W7.drew from ⟨H0, H1, H2, H3, hB.drew⟩)
    refine regN_takeC [1] (i := 0) (d := (some 55)) (v := ?v13x1) (l2 := #[true, false, false, false, false]) rfl rfl rfl (by kernel_rfl) (by kernel_rfl) (by kernel_rfl) (by kernel_rfl) (fun _ _ _ h => h) (by rfl) ?hv13x1 hS0 ?h13x1
    case hv13x1 => rintro u ⟨H0, H1, H2, H3, hB⟩; obtain ⟨xa0, xa1, xa2, fa0, fa1, fa2⟩ := three_cells H0; obtain ⟨xb0, xb1, xb2, fb0, fb1, fb2⟩ := three_cells H1; obtain ⟨xc0, xc1, xc2, fc0, fc1, fc2⟩ := three_cells H2; obtain ⟨xd0, xd1, xd2, fd0, fd1, fd2⟩ := three_cells H3; go_simp; (try with_reducible rfl)
    (try simp only [Act.put, List.setIfInBounds_toArray, List.set_cons_zero, List.set_cons_succ])
    refine regN_takeC [3] (i := 2) (d := (some 57)) (v := ?v13x2) (l2 := #[true, false, true, false, false]) rfl rfl rfl (by kernel_rfl) (by kernel_rfl) (by kernel_rfl) (by kernel_rfl) (fun _ _ _ h => h) (by rfl) ?hv13x2 hS0 ?h13x2
    case hv13x2 => intro u hSu; clear hSu; go_simp; (try with_reducible rfl)
    (try simp only [Act.put, List.setIfInBounds_toArray, List.set_cons_zero, List.set_cons_succ])
    refine regN_take (i := 3) (d := (some 58)) (v := ?v13x3) (l2 := #[true, false, true, true, false]) rfl rfl rfl (by kernel_rfl) (by kernel_rfl) (by kernel_rfl) (by kernel_rfl) (fun _ _ _ h => h) (by rfl) ?hv13x3 hS0 ?h13x3
    case hv13x3 => rintro u ⟨H0, H1, H2, H3, hB⟩; obtain ⟨xa0, xa1, xa2, fa0, fa1, fa2⟩ := three_cells H0; obtain ⟨xb0, xb1, xb2, fb0, fb1, fb2⟩ := three_cells H1; obtain ⟨xc0, xc1, xc2, fc0, fc1, fc2⟩ := three_cells H2; obtain ⟨xd0, xd1, xd2, fd0, fd1, fd2⟩ := three_cells H3; go_simp; (try with_reducible rfl)
    (try simp only [Act.put, List.setIfInBounds_toArray, List.set_cons_zero, List.set_cons_succ])
    refine regN_ready (rs := [1]) (by kernel_rfl) (by simp) ?_
    refine (AllN.cons (i := 1) (l2 := #[true, true, true, true, false]) rfl rfl (fun K hK => ?_) AllN.nil)
    go_simp
    obtain ⟨H0, H1, H2, H3, hB⟩ := hS0
    go_at_call 79
    (with_reducible refine (far76 d2 _ _).mono ?_)
    rintro e w8 ⟨rfl, hb1⟩
    have hSn := (show (fun W' => W'.heap[w.heap.size]? = some (.cells #[.int .i64 (d1), .int .u8 76, .string s1] 41) ∧ W'.heap[w.heap.size + 1]? = some (.cells #[.int .i64 (d2), .int .u8 76, .string s2] 41) ∧ W'.heap[w.heap.size + 1 + 1]? = some (.cells #[.int .i64 (0), .int .u8 0, .string ⟨#[]⟩] 41) ∧ W'.heap[B7]? = some (.cells #[.int .i64 (d1), .int .u8 76, .string rootS] 41) ∧ Below w.heap.size w W') w8 from ⟨(hb1.block _ (lt_heap H0)).trans H0, (hb1.block _ (lt_heap H1)).trans H1, (hb1.block _ (lt_heap H2)).trans H2, (hb1.block _ (lt_heap H3)).trans H3, below_on hB hb1⟩)
    clear hb1 H0 H1 H2 H3 hB
    go_simp
    have hS1 : ((fun W' => W'.heap[w.heap.size]? = some (.cells #[.int .i64 (d1), .int .u8 76, .string s1] 41) ∧ W'.heap[w.heap.size + 1]? = some (.cells #[.int .i64 (d2), .int .u8 76, .string s2] 41) ∧ W'.heap[w.heap.size + 1 + 1]? = some (.cells #[.int .i64 (0), .int .u8 0, .string ⟨#[]⟩] 41) ∧ W'.heap[B7]? = some (.cells #[.int .i64 (d1), .int .u8 76, .string rootS] 41) ∧ Below w.heap.size w W') : World → Prop) _ := hSn
    refine hK _ _ (fun _ => hS1) ?_
    clear hK K
    (try simp only [Act.put, List.setIfInBounds_toArray, List.set_cons_zero, List.set_cons_succ])
    refine regN_ready (rs := [4]) (by kernel_rfl) (by simp) ?_
    refine (AllN.cons (i := 4) (l2 := #[true, true, true, true, true]) rfl rfl (fun K hK => ?_) AllN.nil)
    go_simp
    refine hK _ _ (fun h => absurd rfl h) ?_
    clear hK K
    (try simp only [Act.put, List.setIfInBounds_toArray, List.set_cons_zero, List.set_cons_succ])
    refine regN_done (by kernel_rfl) ?_ _
    obtain ⟨H0, H1, H2, H3, hB⟩ := hS1
    obtain ⟨xa0, xa1, xa2, fa0, fa1, fa2⟩ := three_cells H0; obtain ⟨xb0, xb1, xb2, fb0, fb1, fb2⟩ := three_cells H1; obtain ⟨xc0, xc1, xc2, fc0, fc1, fc2⟩ := three_cells H2; obtain ⟨xd0, xd1, xd2, fd0, fd1, fd2⟩ := three_cells H3
    go_upto_region 15 with (go_at_call 79; (with_reducible refine (far76 d2 _ _).mono ?_); rintro e w9 ⟨rfl, hb1⟩; replace H0 := (hb1.block _ (lt_heap H0)).trans H0; replace H1 := (hb1.block _ (lt_heap H1)).trans H1; replace H2 := (hb1.block _ (lt_heap H2)).trans H2; replace H3 := (hb1.block _ (lt_heap H3)).trans H3; replace hB := below_on hB hb1; clear hb1 xa0 xa1 xa2 fa0 fa1 fa2 xb0 xb1 xb2 fb0 fb1 fb2 xc0 xc1 xc2 fc0 fc1 fc2 xd0 xd1 xd2 fd0 fd1 fd2; obtain ⟨xa0, xa1, xa2, fa0, fa1, fa2⟩ := three_cells H0; obtain ⟨xb0, xb1, xb2, fb0, fb1, fb2⟩ := three_cells H1; obtain ⟨xc0, xc1, xc2, fc0, fc1, fc2⟩ := three_cells H2; obtain ⟨xd0, xd1, xd2, fd0, fd1, fd2⟩ := three_cells H3)
    replace H0 := (heap_setCell_other w9 ⟨B7, 0, none⟩ _ (Value.int IntKind.i64 (d2)) (show (_ : Nat) ≠ B7 by omega)).trans H0
    replace H1 := (heap_setCell_other w9 ⟨B7, 0, none⟩ _ (Value.int IntKind.i64 (d2)) (show (_ : Nat) ≠ B7 by omega)).trans H1
    replace H2 := (heap_setCell_other w9 ⟨B7, 0, none⟩ _ (Value.int IntKind.i64 (d2)) (show (_ : Nat) ≠ B7 by omega)).trans H2
    replace H3 : (w9.setCell ⟨B7, 0, none⟩ (Value.int IntKind.i64 (d2))).heap[B7]? = some (.cells #[.int .i64 (d2), .int .u8 76, .string rootS] 41) := heap_setCell_same w9 B7 0 _ _ (Value.int IntKind.i64 (d2)) H3
    replace hB := below_st hB (p := ⟨B7, 0, none⟩) (by show w.heap.size ≤ B7; omega) (Value.int IntKind.i64 (d2))
    generalize w9.setCell ⟨B7, 0, none⟩ (Value.int IntKind.i64 (d2)) = W10 at H0 H1 H2 H3 hB ⊢
    clear xa0 xa1 xa2 fa0 fa1 fa2 xb0 xb1 xb2 fb0 fb1 fb2 xc0 xc1 xc2 fc0 fc1 fc2 xd0 xd1 xd2 fd0 fd1 fd2
    obtain ⟨xa0, xa1, xa2, fa0, fa1, fa2⟩ := three_cells H0; obtain ⟨xb0, xb1, xb2, fb0, fb1, fb2⟩ := three_cells H1; obtain ⟨xc0, xc1, xc2, fc0, fc1, fc2⟩ := three_cells H2; obtain ⟨xd0, xd1, xd2, fd0, fd1, fd2⟩ := three_cells H3
    go_wp2
    refine bodyPost_ret (ty_ret rfl rfl (set_three H2)) rfl ⟨rfl, ?_⟩
    exact below_st (below_st (below_st hB (by simp; omega) _) (by simp; omega) _) (by simp; omega) _
  · refine regN_start (N := 4) (S := (fun W' => W'.heap[w.heap.size]? = some (.cells #[.int .i64 (d1), .int .u8 76, .string s1] 41) ∧ W'.heap[w.heap.size + 1]? = some (.cells #[.int .i64 (d2), .int .u8 76, .string s2] 41) ∧ W'.heap[w.heap.size + 1 + 1]? = some (.cells #[.int .i64 (0), .int .u8 0, .string ⟨#[]⟩] 41) ∧ W'.heap[B7]? = some (.cells #[.int .i64 (d1), .int .u8 76, .string rootS] 41) ∧ Below w.heap.size w W')) (by kernel_rfl) ?_
    change wpAnyN _ _ _ _ _ _ _ #[false, false, false, false, false] _ (World.drew _)
    have hS0 := (show (fun W' => W'.heap[w.heap.size]? = some (.cells #[.int .i64 (d1), .int .u8 76, .string s1] 41) ∧ W'.heap[w.heap.size + 1]? = some (.cells #[.int .i64 (d2), .int .u8 76, .string s2] 41) ∧ W'.heap[w.heap.size + 1 + 1]? = some (.cells #[.int .i64 (0), .int .u8 0, .string ⟨#[]⟩] 41) ∧ W'.heap[B7]? = some (.cells #[.int .i64 (d1), .int .u8 76, .string rootS] 41) ∧ Below w.heap.size w W') W7.drew from ⟨H0, H1, H2, H3, hB.drew⟩)
    refine regN_takeC [1] (i := 0) (d := (some 55)) (v := ?v23x1) (l2 := #[true, false, false, false, false]) rfl rfl rfl (by kernel_rfl) (by kernel_rfl) (by kernel_rfl) (by kernel_rfl) (fun _ _ _ h => h) (by rfl) ?hv23x1 hS0 ?h23x1
    case hv23x1 => rintro u ⟨H0, H1, H2, H3, hB⟩; obtain ⟨xa0, xa1, xa2, fa0, fa1, fa2⟩ := three_cells H0; obtain ⟨xb0, xb1, xb2, fb0, fb1, fb2⟩ := three_cells H1; obtain ⟨xc0, xc1, xc2, fc0, fc1, fc2⟩ := three_cells H2; obtain ⟨xd0, xd1, xd2, fd0, fd1, fd2⟩ := three_cells H3; go_simp; (try with_reducible rfl)
    (try simp only [Act.put, List.setIfInBounds_toArray, List.set_cons_zero, List.set_cons_succ])
    refine regN_takeC [3] (i := 2) (d := (some 57)) (v := ?v23x2) (l2 := #[true, false, true, false, false]) rfl rfl rfl (by kernel_rfl) (by kernel_rfl) (by kernel_rfl) (by kernel_rfl) (fun _ _ _ h => h) (by rfl) ?hv23x2 hS0 ?h23x2
    case hv23x2 => intro u hSu; clear hSu; go_simp; (try with_reducible rfl)
    (try simp only [Act.put, List.setIfInBounds_toArray, List.set_cons_zero, List.set_cons_succ])
    refine regN_take (i := 3) (d := (some 58)) (v := ?v23x3) (l2 := #[true, false, true, true, false]) rfl rfl rfl (by kernel_rfl) (by kernel_rfl) (by kernel_rfl) (by kernel_rfl) (fun _ _ _ h => h) (by rfl) ?hv23x3 hS0 ?h23x3
    case hv23x3 => rintro u ⟨H0, H1, H2, H3, hB⟩; obtain ⟨xa0, xa1, xa2, fa0, fa1, fa2⟩ := three_cells H0; obtain ⟨xb0, xb1, xb2, fb0, fb1, fb2⟩ := three_cells H1; obtain ⟨xc0, xc1, xc2, fc0, fc1, fc2⟩ := three_cells H2; obtain ⟨xd0, xd1, xd2, fd0, fd1, fd2⟩ := three_cells H3; go_simp; (try with_reducible rfl)
    (try simp only [Act.put, List.setIfInBounds_toArray, List.set_cons_zero, List.set_cons_succ])
    refine regN_ready (rs := [1]) (by kernel_rfl) (by simp) ?_
    refine (AllN.cons (i := 1) (l2 := #[true, true, true, true, false]) rfl rfl (fun K hK => ?_) AllN.nil)
    go_simp
    obtain ⟨H0, H1, H2, H3, hB⟩ := hS0
    go_at_call 79
    (with_reducible refine (far76 d2 _ _).mono ?_)
    rintro e w8 ⟨rfl, hb1⟩
    have hSn := (show (fun W' => W'.heap[w.heap.size]? = some (.cells #[.int .i64 (d1), .int .u8 76, .string s1] 41) ∧ W'.heap[w.heap.size + 1]? = some (.cells #[.int .i64 (d2), .int .u8 76, .string s2] 41) ∧ W'.heap[w.heap.size + 1 + 1]? = some (.cells #[.int .i64 (0), .int .u8 0, .string ⟨#[]⟩] 41) ∧ W'.heap[B7]? = some (.cells #[.int .i64 (d1), .int .u8 76, .string rootS] 41) ∧ Below w.heap.size w W') w8 from ⟨(hb1.block _ (lt_heap H0)).trans H0, (hb1.block _ (lt_heap H1)).trans H1, (hb1.block _ (lt_heap H2)).trans H2, (hb1.block _ (lt_heap H3)).trans H3, below_on hB hb1⟩)
    clear hb1 H0 H1 H2 H3 hB
    go_simp
    have hS1 : ((fun W' => W'.heap[w.heap.size]? = some (.cells #[.int .i64 (d1), .int .u8 76, .string s1] 41) ∧ W'.heap[w.heap.size + 1]? = some (.cells #[.int .i64 (d2), .int .u8 76, .string s2] 41) ∧ W'.heap[w.heap.size + 1 + 1]? = some (.cells #[.int .i64 (0), .int .u8 0, .string ⟨#[]⟩] 41) ∧ W'.heap[B7]? = some (.cells #[.int .i64 (d1), .int .u8 76, .string rootS] 41) ∧ Below w.heap.size w W') : World → Prop) _ := hSn
    refine hK _ _ (fun _ => hS1) ?_
    clear hK K
    (try simp only [Act.put, List.setIfInBounds_toArray, List.set_cons_zero, List.set_cons_succ])
    refine regN_ready (rs := [4]) (by kernel_rfl) (by simp) ?_
    refine (AllN.cons (i := 4) (l2 := #[true, true, true, true, true]) rfl rfl (fun K hK => ?_) AllN.nil)
    go_simp
    refine hK _ _ (fun h => absurd rfl h) ?_
    clear hK K
    (try simp only [Act.put, List.setIfInBounds_toArray, List.set_cons_zero, List.set_cons_succ])
    refine regN_done (by kernel_rfl) ?_ _
    obtain ⟨H0, H1, H2, H3, hB⟩ := hS1
    obtain ⟨xa0, xa1, xa2, fa0, fa1, fa2⟩ := three_cells H0; obtain ⟨xb0, xb1, xb2, fb0, fb1, fb2⟩ := three_cells H1; obtain ⟨xc0, xc1, xc2, fc0, fc1, fc2⟩ := three_cells H2; obtain ⟨xd0, xd1, xd2, fd0, fd1, fd2⟩ := three_cells H3
    go_wp2
    refine bodyPost_ret (ty_ret rfl rfl (set_three H2)) rfl ⟨rfl, ?_⟩
    exact below_st (below_st (below_st hB (by simp; omega) _) (by simp; omega) _) (by simp; omega) _
set_option maxRecDepth 100000 in
set_option maxHeartbeats 4000000 in
theorem rty_51 (V : Value) (b2 d1 d2 : Int) (s1 s2 : ByteArray) (w : World) (hz1 : s1.size ≤ 9223372036854775807) (hz2 : s2.size ≤ 9223372036854775807) (h1 : (TY.mk d1 76 s1).ref = true) (h2 : (TY.mk d2 b2 s2).ref = true) (hE : tyE (TY.mk d1 76 s1) (TY.mk d2 b2 s2) = false)  (hb2 : ¬ b2 = 76) (hd1 : 0 ≤ d1 ∧ d1 ≤ 8) (hd2 : 0 ≤ d2 ∧ d2 ≤ 8) :
    Calls Tryd.prog 43 #[V, .agg #[.int .i64 d1, .int .u8 76, .string s1], .agg #[.int .i64 d2, .int .u8 b2, .string s2]] w (RtyRet w ⟨if d2 - 1 < d1 then d2 - 1 else d1, 76, rootS⟩) := by
  have e1 := fun w => ty_eqP hE w
  go_enter Tryd.func43, Tryd.ntmps43
  go_upto_region 1 with fail
  obtain ⟨H0, H1, H2, hB, hz⟩ := three_laid w (.cells #[.int .i64 (d1), .int .u8 76, .string s1] 41) (.cells #[.int .i64 (d2), .int .u8 b2, .string s2] 41) (.cells #[.int .i64 (0), .int .u8 0, .string ⟨#[]⟩] 41)
  generalize ((w.alloc (.cells #[.int .i64 (d1), .int .u8 76, .string s1] 41)).alloc (.cells #[.int .i64 (d2), .int .u8 b2, .string s2] 41)).alloc (.cells #[.int .i64 (0), .int .u8 0, .string ⟨#[]⟩] 41) = W at H0 H1 H2 hB hz ⊢
  obtain ⟨xa0, xa1, xa2, fa0, fa1, fa2⟩ := three_cells H0; obtain ⟨xb0, xb1, xb2, fb0, fb1, fb2⟩ := three_cells H1; obtain ⟨xc0, xc1, xc2, fc0, fc1, fc2⟩ := three_cells H2
  go_upto_region 6 with (first | (go_at_call 78; (with_reducible refine (robP d1 76 s1 _ h1 hz1 _).mono ?_); rintro e w1 ⟨rfl, hb1⟩; replace H0 := (hb1.block _ (lt_heap H0)).trans H0; replace H1 := (hb1.block _ (lt_heap H1)).trans H1; replace H2 := (hb1.block _ (lt_heap H2)).trans H2; replace hB := below_on hB hb1; clear hb1 xa0 xa1 xa2 fa0 fa1 fa2 xb0 xb1 xb2 fb0 fb1 fb2 xc0 xc1 xc2 fc0 fc1 fc2; obtain ⟨xa0, xa1, xa2, fa0, fa1, fa2⟩ := three_cells H0; obtain ⟨xb0, xb1, xb2, fb0, fb1, fb2⟩ := three_cells H1; obtain ⟨xc0, xc1, xc2, fc0, fc1, fc2⟩ := three_cells H2) | (go_at_call 78; (with_reducible refine (robP d2 b2 s2 _ h2 hz2 _).mono ?_); rintro e w1 ⟨rfl, hb1⟩; replace H0 := (hb1.block _ (lt_heap H0)).trans H0; replace H1 := (hb1.block _ (lt_heap H1)).trans H1; replace H2 := (hb1.block _ (lt_heap H2)).trans H2; replace hB := below_on hB hb1; clear hb1 xa0 xa1 xa2 fa0 fa1 fa2 xb0 xb1 xb2 fb0 fb1 fb2 xc0 xc1 xc2 fc0 fc1 fc2; obtain ⟨xa0, xa1, xa2, fa0, fa1, fa2⟩ := three_cells H0; obtain ⟨xb0, xb1, xb2, fb0, fb1, fb2⟩ := three_cells H1; obtain ⟨xc0, xc1, xc2, fc0, fc1, fc2⟩ := three_cells H2))
  have hg : w.heap.size + 3 ≤ w1.heap.size := lt_heap H2
  have H3 := World.alloc_heap_new w1 (.cells #[.int .i64 (0), .int .u8 76, .string rootS] 41)
  replace H0 := laid_old (o' := (.cells #[.int .i64 (0), .int .u8 76, .string rootS] 41)) H0
  replace H1 := laid_old (o' := (.cells #[.int .i64 (0), .int .u8 76, .string rootS] 41)) H1
  replace H2 := laid_old (o' := (.cells #[.int .i64 (0), .int .u8 76, .string rootS] 41)) H2
  replace hB := below_al hB (.cells #[.int .i64 (0), .int .u8 76, .string rootS] 41)
  generalize w1.alloc (.cells #[.int .i64 (0), .int .u8 76, .string rootS] 41) = W2 at H0 H1 H2 H3 hB ⊢
  generalize w1.heap.size = B7 at H3 hg ⊢
  clear xa0 xa1 xa2 fa0 fa1 fa2 xb0 xb1 xb2 fb0 fb1 fb2 xc0 xc1 xc2 fc0 fc1 fc2
  obtain ⟨xa0, xa1, xa2, fa0, fa1, fa2⟩ := three_cells H0; obtain ⟨xb0, xb1, xb2, fb0, fb1, fb2⟩ := three_cells H1; obtain ⟨xc0, xc1, xc2, fc0, fc1, fc2⟩ := three_cells H2; obtain ⟨xd0, xd1, xd2, fd0, fd1, fd2⟩ := three_cells H3
  go_upto_region 13 with (go_at_call 79; (with_reducible refine (far76 d1 _ _).mono ?_); rintro e w6 ⟨rfl, hb1⟩; replace H0 := (hb1.block _ (lt_heap H0)).trans H0; replace H1 := (hb1.block _ (lt_heap H1)).trans H1; replace H2 := (hb1.block _ (lt_heap H2)).trans H2; replace H3 := (hb1.block _ (lt_heap H3)).trans H3; replace hB := below_on hB hb1; clear hb1 xa0 xa1 xa2 fa0 fa1 fa2 xb0 xb1 xb2 fb0 fb1 fb2 xc0 xc1 xc2 fc0 fc1 fc2 xd0 xd1 xd2 fd0 fd1 fd2; obtain ⟨xa0, xa1, xa2, fa0, fa1, fa2⟩ := three_cells H0; obtain ⟨xb0, xb1, xb2, fb0, fb1, fb2⟩ := three_cells H1; obtain ⟨xc0, xc1, xc2, fc0, fc1, fc2⟩ := three_cells H2; obtain ⟨xd0, xd1, xd2, fd0, fd1, fd2⟩ := three_cells H3)
  replace H0 := (heap_setCell_other w6 ⟨B7, 0, none⟩ _ (Value.int IntKind.i64 (d1)) (show (_ : Nat) ≠ B7 by omega)).trans H0
  replace H1 := (heap_setCell_other w6 ⟨B7, 0, none⟩ _ (Value.int IntKind.i64 (d1)) (show (_ : Nat) ≠ B7 by omega)).trans H1
  replace H2 := (heap_setCell_other w6 ⟨B7, 0, none⟩ _ (Value.int IntKind.i64 (d1)) (show (_ : Nat) ≠ B7 by omega)).trans H2
  replace H3 : (w6.setCell ⟨B7, 0, none⟩ (Value.int IntKind.i64 (d1))).heap[B7]? = some (.cells #[.int .i64 (d1), .int .u8 76, .string rootS] 41) := heap_setCell_same w6 B7 0 _ _ (Value.int IntKind.i64 (d1)) H3
  replace hB := below_st hB (p := ⟨B7, 0, none⟩) (by show w.heap.size ≤ B7; omega) (Value.int IntKind.i64 (d1))
  generalize w6.setCell ⟨B7, 0, none⟩ (Value.int IntKind.i64 (d1)) = W7 at H0 H1 H2 H3 hB ⊢
  clear xa0 xa1 xa2 fa0 fa1 fa2 xb0 xb1 xb2 fb0 fb1 fb2 xc0 xc1 xc2 fc0 fc1 fc2 xd0 xd1 xd2 fd0 fd1 fd2
  obtain ⟨xa0, xa1, xa2, fa0, fa1, fa2⟩ := three_cells H0; obtain ⟨xb0, xb1, xb2, fb0, fb1, fb2⟩ := three_cells H1; obtain ⟨xc0, xc1, xc2, fc0, fc1, fc2⟩ := three_cells H2; obtain ⟨xd0, xd1, xd2, fd0, fd1, fd2⟩ := three_cells H3
  clear xa0 xa1 xa2 fa0 fa1 fa2 xb0 xb1 xb2 fb0 fb1 fb2 xc0 xc1 xc2 fc0 fc1 fc2 xd0 xd1 xd2 fd0 fd1 fd2 h1 h2 e1
  by_cases hm : d2 - 1 < d1
  · refine regN_start (N := 4) (S := (fun W' => W'.heap[w.heap.size]? = some (.cells #[.int .i64 (d1), .int .u8 76, .string s1] 41) ∧ W'.heap[w.heap.size + 1]? = some (.cells #[.int .i64 (d2), .int .u8 b2, .string s2] 41) ∧ W'.heap[w.heap.size + 1 + 1]? = some (.cells #[.int .i64 (0), .int .u8 0, .string ⟨#[]⟩] 41) ∧ W'.heap[B7]? = some (.cells #[.int .i64 (d1), .int .u8 76, .string rootS] 41) ∧ Below w.heap.size w W')) (by kernel_rfl) ?_
    change wpAnyN _ _ _ _ _ _ _ #[false, false, false, false, false] _ (World.drew _)
    have hS0 := (show (fun W' => W'.heap[w.heap.size]? = some (.cells #[.int .i64 (d1), .int .u8 76, .string s1] 41) ∧ W'.heap[w.heap.size + 1]? = some (.cells #[.int .i64 (d2), .int .u8 b2, .string s2] 41) ∧ W'.heap[w.heap.size + 1 + 1]? = some (.cells #[.int .i64 (0), .int .u8 0, .string ⟨#[]⟩] 41) ∧ W'.heap[B7]? = some (.cells #[.int .i64 (d1), .int .u8 76, .string rootS] 41) ∧ Below w.heap.size w W') W7.drew from ⟨H0, H1, H2, H3, hB.drew⟩)
    refine regN_takeC [1] (i := 0) (d := (some 55)) (v := ?v13x1) (l2 := #[true, false, false, false, false]) rfl rfl rfl (by kernel_rfl) (by kernel_rfl) (by kernel_rfl) (by kernel_rfl) (fun _ _ _ h => h) (by rfl) ?hv13x1 hS0 ?h13x1
    case hv13x1 => rintro u ⟨H0, H1, H2, H3, hB⟩; obtain ⟨xa0, xa1, xa2, fa0, fa1, fa2⟩ := three_cells H0; obtain ⟨xb0, xb1, xb2, fb0, fb1, fb2⟩ := three_cells H1; obtain ⟨xc0, xc1, xc2, fc0, fc1, fc2⟩ := three_cells H2; obtain ⟨xd0, xd1, xd2, fd0, fd1, fd2⟩ := three_cells H3; go_simp; (try with_reducible rfl)
    (try simp only [Act.put, List.setIfInBounds_toArray, List.set_cons_zero, List.set_cons_succ])
    refine regN_takeC [3] (i := 2) (d := (some 57)) (v := ?v13x2) (l2 := #[true, false, true, false, false]) rfl rfl rfl (by kernel_rfl) (by kernel_rfl) (by kernel_rfl) (by kernel_rfl) (fun _ _ _ h => h) (by rfl) ?hv13x2 hS0 ?h13x2
    case hv13x2 => intro u hSu; clear hSu; go_simp; (try with_reducible rfl)
    (try simp only [Act.put, List.setIfInBounds_toArray, List.set_cons_zero, List.set_cons_succ])
    refine regN_take (i := 3) (d := (some 58)) (v := ?v13x3) (l2 := #[true, false, true, true, false]) rfl rfl rfl (by kernel_rfl) (by kernel_rfl) (by kernel_rfl) (by kernel_rfl) (fun _ _ _ h => h) (by rfl) ?hv13x3 hS0 ?h13x3
    case hv13x3 => rintro u ⟨H0, H1, H2, H3, hB⟩; obtain ⟨xa0, xa1, xa2, fa0, fa1, fa2⟩ := three_cells H0; obtain ⟨xb0, xb1, xb2, fb0, fb1, fb2⟩ := three_cells H1; obtain ⟨xc0, xc1, xc2, fc0, fc1, fc2⟩ := three_cells H2; obtain ⟨xd0, xd1, xd2, fd0, fd1, fd2⟩ := three_cells H3; go_simp; (try with_reducible rfl)
    (try simp only [Act.put, List.setIfInBounds_toArray, List.set_cons_zero, List.set_cons_succ])
    refine regN_ready (rs := [1]) (by kernel_rfl) (by simp) ?_
    refine (AllN.cons (i := 1) (l2 := #[true, true, true, true, false]) rfl rfl (fun K hK => ?_) AllN.nil)
    go_simp
    obtain ⟨H0, H1, H2, H3, hB⟩ := hS0
    go_at_call 79
    (with_reducible refine (farN d2 b2 _ hb2 hd2 _).mono ?_)
    rintro e w8 ⟨rfl, hb1⟩
    have hSn := (show (fun W' => W'.heap[w.heap.size]? = some (.cells #[.int .i64 (d1), .int .u8 76, .string s1] 41) ∧ W'.heap[w.heap.size + 1]? = some (.cells #[.int .i64 (d2), .int .u8 b2, .string s2] 41) ∧ W'.heap[w.heap.size + 1 + 1]? = some (.cells #[.int .i64 (0), .int .u8 0, .string ⟨#[]⟩] 41) ∧ W'.heap[B7]? = some (.cells #[.int .i64 (d1), .int .u8 76, .string rootS] 41) ∧ Below w.heap.size w W') w8 from ⟨(hb1.block _ (lt_heap H0)).trans H0, (hb1.block _ (lt_heap H1)).trans H1, (hb1.block _ (lt_heap H2)).trans H2, (hb1.block _ (lt_heap H3)).trans H3, below_on hB hb1⟩)
    clear hb1 H0 H1 H2 H3 hB
    go_simp
    have hS1 : ((fun W' => W'.heap[w.heap.size]? = some (.cells #[.int .i64 (d1), .int .u8 76, .string s1] 41) ∧ W'.heap[w.heap.size + 1]? = some (.cells #[.int .i64 (d2), .int .u8 b2, .string s2] 41) ∧ W'.heap[w.heap.size + 1 + 1]? = some (.cells #[.int .i64 (0), .int .u8 0, .string ⟨#[]⟩] 41) ∧ W'.heap[B7]? = some (.cells #[.int .i64 (d1), .int .u8 76, .string rootS] 41) ∧ Below w.heap.size w W') : World → Prop) _ := hSn
    refine hK _ _ (fun _ => hS1) ?_
    clear hK K
    (try simp only [Act.put, List.setIfInBounds_toArray, List.set_cons_zero, List.set_cons_succ])
    refine regN_ready (rs := [4]) (by kernel_rfl) (by simp) ?_
    refine (AllN.cons (i := 4) (l2 := #[true, true, true, true, true]) rfl rfl (fun K hK => ?_) AllN.nil)
    go_simp
    refine hK _ _ (fun h => absurd rfl h) ?_
    clear hK K
    (try simp only [Act.put, List.setIfInBounds_toArray, List.set_cons_zero, List.set_cons_succ])
    refine regN_done (by kernel_rfl) ?_ _
    obtain ⟨H0, H1, H2, H3, hB⟩ := hS1
    obtain ⟨xa0, xa1, xa2, fa0, fa1, fa2⟩ := three_cells H0; obtain ⟨xb0, xb1, xb2, fb0, fb1, fb2⟩ := three_cells H1; obtain ⟨xc0, xc1, xc2, fc0, fc1, fc2⟩ := three_cells H2; obtain ⟨xd0, xd1, xd2, fd0, fd1, fd2⟩ := three_cells H3
    go_upto_region 15 with (go_at_call 79; (with_reducible refine (farN d2 b2 _ hb2 hd2 _).mono ?_); rintro e w9 ⟨rfl, hb1⟩; replace H0 := (hb1.block _ (lt_heap H0)).trans H0; replace H1 := (hb1.block _ (lt_heap H1)).trans H1; replace H2 := (hb1.block _ (lt_heap H2)).trans H2; replace H3 := (hb1.block _ (lt_heap H3)).trans H3; replace hB := below_on hB hb1; clear hb1 xa0 xa1 xa2 fa0 fa1 fa2 xb0 xb1 xb2 fb0 fb1 fb2 xc0 xc1 xc2 fc0 fc1 fc2 xd0 xd1 xd2 fd0 fd1 fd2; obtain ⟨xa0, xa1, xa2, fa0, fa1, fa2⟩ := three_cells H0; obtain ⟨xb0, xb1, xb2, fb0, fb1, fb2⟩ := three_cells H1; obtain ⟨xc0, xc1, xc2, fc0, fc1, fc2⟩ := three_cells H2; obtain ⟨xd0, xd1, xd2, fd0, fd1, fd2⟩ := three_cells H3)
    replace H0 := (heap_setCell_other w9 ⟨B7, 0, none⟩ _ (Value.int IntKind.i64 (d2 - 1)) (show (_ : Nat) ≠ B7 by omega)).trans H0
    replace H1 := (heap_setCell_other w9 ⟨B7, 0, none⟩ _ (Value.int IntKind.i64 (d2 - 1)) (show (_ : Nat) ≠ B7 by omega)).trans H1
    replace H2 := (heap_setCell_other w9 ⟨B7, 0, none⟩ _ (Value.int IntKind.i64 (d2 - 1)) (show (_ : Nat) ≠ B7 by omega)).trans H2
    replace H3 : (w9.setCell ⟨B7, 0, none⟩ (Value.int IntKind.i64 (d2 - 1))).heap[B7]? = some (.cells #[.int .i64 (d2 - 1), .int .u8 76, .string rootS] 41) := heap_setCell_same w9 B7 0 _ _ (Value.int IntKind.i64 (d2 - 1)) H3
    replace hB := below_st hB (p := ⟨B7, 0, none⟩) (by show w.heap.size ≤ B7; omega) (Value.int IntKind.i64 (d2 - 1))
    generalize w9.setCell ⟨B7, 0, none⟩ (Value.int IntKind.i64 (d2 - 1)) = W10 at H0 H1 H2 H3 hB ⊢
    clear xa0 xa1 xa2 fa0 fa1 fa2 xb0 xb1 xb2 fb0 fb1 fb2 xc0 xc1 xc2 fc0 fc1 fc2 xd0 xd1 xd2 fd0 fd1 fd2
    obtain ⟨xa0, xa1, xa2, fa0, fa1, fa2⟩ := three_cells H0; obtain ⟨xb0, xb1, xb2, fb0, fb1, fb2⟩ := three_cells H1; obtain ⟨xc0, xc1, xc2, fc0, fc1, fc2⟩ := three_cells H2; obtain ⟨xd0, xd1, xd2, fd0, fd1, fd2⟩ := three_cells H3
    go_wp2
    refine bodyPost_ret (ty_ret rfl rfl (set_three H2)) rfl ⟨rfl, ?_⟩
    exact below_st (below_st (below_st hB (by simp; omega) _) (by simp; omega) _) (by simp; omega) _
  · refine regN_start (N := 4) (S := (fun W' => W'.heap[w.heap.size]? = some (.cells #[.int .i64 (d1), .int .u8 76, .string s1] 41) ∧ W'.heap[w.heap.size + 1]? = some (.cells #[.int .i64 (d2), .int .u8 b2, .string s2] 41) ∧ W'.heap[w.heap.size + 1 + 1]? = some (.cells #[.int .i64 (0), .int .u8 0, .string ⟨#[]⟩] 41) ∧ W'.heap[B7]? = some (.cells #[.int .i64 (d1), .int .u8 76, .string rootS] 41) ∧ Below w.heap.size w W')) (by kernel_rfl) ?_
    change wpAnyN _ _ _ _ _ _ _ #[false, false, false, false, false] _ (World.drew _)
    have hS0 := (show (fun W' => W'.heap[w.heap.size]? = some (.cells #[.int .i64 (d1), .int .u8 76, .string s1] 41) ∧ W'.heap[w.heap.size + 1]? = some (.cells #[.int .i64 (d2), .int .u8 b2, .string s2] 41) ∧ W'.heap[w.heap.size + 1 + 1]? = some (.cells #[.int .i64 (0), .int .u8 0, .string ⟨#[]⟩] 41) ∧ W'.heap[B7]? = some (.cells #[.int .i64 (d1), .int .u8 76, .string rootS] 41) ∧ Below w.heap.size w W') W7.drew from ⟨H0, H1, H2, H3, hB.drew⟩)
    refine regN_takeC [1] (i := 0) (d := (some 55)) (v := ?v23x1) (l2 := #[true, false, false, false, false]) rfl rfl rfl (by kernel_rfl) (by kernel_rfl) (by kernel_rfl) (by kernel_rfl) (fun _ _ _ h => h) (by rfl) ?hv23x1 hS0 ?h23x1
    case hv23x1 => rintro u ⟨H0, H1, H2, H3, hB⟩; obtain ⟨xa0, xa1, xa2, fa0, fa1, fa2⟩ := three_cells H0; obtain ⟨xb0, xb1, xb2, fb0, fb1, fb2⟩ := three_cells H1; obtain ⟨xc0, xc1, xc2, fc0, fc1, fc2⟩ := three_cells H2; obtain ⟨xd0, xd1, xd2, fd0, fd1, fd2⟩ := three_cells H3; go_simp; (try with_reducible rfl)
    (try simp only [Act.put, List.setIfInBounds_toArray, List.set_cons_zero, List.set_cons_succ])
    refine regN_takeC [3] (i := 2) (d := (some 57)) (v := ?v23x2) (l2 := #[true, false, true, false, false]) rfl rfl rfl (by kernel_rfl) (by kernel_rfl) (by kernel_rfl) (by kernel_rfl) (fun _ _ _ h => h) (by rfl) ?hv23x2 hS0 ?h23x2
    case hv23x2 => intro u hSu; clear hSu; go_simp; (try with_reducible rfl)
    (try simp only [Act.put, List.setIfInBounds_toArray, List.set_cons_zero, List.set_cons_succ])
    refine regN_take (i := 3) (d := (some 58)) (v := ?v23x3) (l2 := #[true, false, true, true, false]) rfl rfl rfl (by kernel_rfl) (by kernel_rfl) (by kernel_rfl) (by kernel_rfl) (fun _ _ _ h => h) (by rfl) ?hv23x3 hS0 ?h23x3
    case hv23x3 => rintro u ⟨H0, H1, H2, H3, hB⟩; obtain ⟨xa0, xa1, xa2, fa0, fa1, fa2⟩ := three_cells H0; obtain ⟨xb0, xb1, xb2, fb0, fb1, fb2⟩ := three_cells H1; obtain ⟨xc0, xc1, xc2, fc0, fc1, fc2⟩ := three_cells H2; obtain ⟨xd0, xd1, xd2, fd0, fd1, fd2⟩ := three_cells H3; go_simp; (try with_reducible rfl)
    (try simp only [Act.put, List.setIfInBounds_toArray, List.set_cons_zero, List.set_cons_succ])
    refine regN_ready (rs := [1]) (by kernel_rfl) (by simp) ?_
    refine (AllN.cons (i := 1) (l2 := #[true, true, true, true, false]) rfl rfl (fun K hK => ?_) AllN.nil)
    go_simp
    obtain ⟨H0, H1, H2, H3, hB⟩ := hS0
    go_at_call 79
    (with_reducible refine (farN d2 b2 _ hb2 hd2 _).mono ?_)
    rintro e w8 ⟨rfl, hb1⟩
    have hSn := (show (fun W' => W'.heap[w.heap.size]? = some (.cells #[.int .i64 (d1), .int .u8 76, .string s1] 41) ∧ W'.heap[w.heap.size + 1]? = some (.cells #[.int .i64 (d2), .int .u8 b2, .string s2] 41) ∧ W'.heap[w.heap.size + 1 + 1]? = some (.cells #[.int .i64 (0), .int .u8 0, .string ⟨#[]⟩] 41) ∧ W'.heap[B7]? = some (.cells #[.int .i64 (d1), .int .u8 76, .string rootS] 41) ∧ Below w.heap.size w W') w8 from ⟨(hb1.block _ (lt_heap H0)).trans H0, (hb1.block _ (lt_heap H1)).trans H1, (hb1.block _ (lt_heap H2)).trans H2, (hb1.block _ (lt_heap H3)).trans H3, below_on hB hb1⟩)
    clear hb1 H0 H1 H2 H3 hB
    go_simp
    have hS1 : ((fun W' => W'.heap[w.heap.size]? = some (.cells #[.int .i64 (d1), .int .u8 76, .string s1] 41) ∧ W'.heap[w.heap.size + 1]? = some (.cells #[.int .i64 (d2), .int .u8 b2, .string s2] 41) ∧ W'.heap[w.heap.size + 1 + 1]? = some (.cells #[.int .i64 (0), .int .u8 0, .string ⟨#[]⟩] 41) ∧ W'.heap[B7]? = some (.cells #[.int .i64 (d1), .int .u8 76, .string rootS] 41) ∧ Below w.heap.size w W') : World → Prop) _ := hSn
    refine hK _ _ (fun _ => hS1) ?_
    clear hK K
    (try simp only [Act.put, List.setIfInBounds_toArray, List.set_cons_zero, List.set_cons_succ])
    refine regN_ready (rs := [4]) (by kernel_rfl) (by simp) ?_
    refine (AllN.cons (i := 4) (l2 := #[true, true, true, true, true]) rfl rfl (fun K hK => ?_) AllN.nil)
    go_simp
    refine hK _ _ (fun h => absurd rfl h) ?_
    clear hK K
    (try simp only [Act.put, List.setIfInBounds_toArray, List.set_cons_zero, List.set_cons_succ])
    refine regN_done (by kernel_rfl) ?_ _
    obtain ⟨H0, H1, H2, H3, hB⟩ := hS1
    obtain ⟨xa0, xa1, xa2, fa0, fa1, fa2⟩ := three_cells H0; obtain ⟨xb0, xb1, xb2, fb0, fb1, fb2⟩ := three_cells H1; obtain ⟨xc0, xc1, xc2, fc0, fc1, fc2⟩ := three_cells H2; obtain ⟨xd0, xd1, xd2, fd0, fd1, fd2⟩ := three_cells H3
    go_wp2
    refine bodyPost_ret (ty_ret rfl rfl (set_three H2)) rfl ⟨rfl, ?_⟩
    exact below_st (below_st (below_st hB (by simp; omega) _) (by simp; omega) _) (by simp; omega) _
set_option maxRecDepth 100000 in
set_option maxHeartbeats 4000000 in
theorem rty_52 (V : Value) (b1 d1 d2 : Int) (s1 s2 : ByteArray) (w : World) (hz1 : s1.size ≤ 9223372036854775807) (hz2 : s2.size ≤ 9223372036854775807) (h1 : (TY.mk d1 b1 s1).ref = true) (h2 : (TY.mk d2 76 s2).ref = true) (hE : tyE (TY.mk d1 b1 s1) (TY.mk d2 76 s2) = false)  (hb1 : ¬ b1 = 76) (hd1 : 0 ≤ d1 ∧ d1 ≤ 8) (hd2 : 0 ≤ d2 ∧ d2 ≤ 8) :
    Calls Tryd.prog 43 #[V, .agg #[.int .i64 d1, .int .u8 b1, .string s1], .agg #[.int .i64 d2, .int .u8 76, .string s2]] w (RtyRet w ⟨if d2 < d1 - 1 then d2 else d1 - 1, 76, rootS⟩) := by
  have e1 := fun w => ty_eqP hE w
  go_enter Tryd.func43, Tryd.ntmps43
  go_upto_region 1 with fail
  obtain ⟨H0, H1, H2, hB, hz⟩ := three_laid w (.cells #[.int .i64 (d1), .int .u8 b1, .string s1] 41) (.cells #[.int .i64 (d2), .int .u8 76, .string s2] 41) (.cells #[.int .i64 (0), .int .u8 0, .string ⟨#[]⟩] 41)
  generalize ((w.alloc (.cells #[.int .i64 (d1), .int .u8 b1, .string s1] 41)).alloc (.cells #[.int .i64 (d2), .int .u8 76, .string s2] 41)).alloc (.cells #[.int .i64 (0), .int .u8 0, .string ⟨#[]⟩] 41) = W at H0 H1 H2 hB hz ⊢
  obtain ⟨xa0, xa1, xa2, fa0, fa1, fa2⟩ := three_cells H0; obtain ⟨xb0, xb1, xb2, fb0, fb1, fb2⟩ := three_cells H1; obtain ⟨xc0, xc1, xc2, fc0, fc1, fc2⟩ := three_cells H2
  go_upto_region 6 with (first | (go_at_call 78; (with_reducible refine (robP d1 b1 s1 _ h1 hz1 _).mono ?_); rintro e w1 ⟨rfl, hb1⟩; replace H0 := (hb1.block _ (lt_heap H0)).trans H0; replace H1 := (hb1.block _ (lt_heap H1)).trans H1; replace H2 := (hb1.block _ (lt_heap H2)).trans H2; replace hB := below_on hB hb1; clear hb1 xa0 xa1 xa2 fa0 fa1 fa2 xb0 xb1 xb2 fb0 fb1 fb2 xc0 xc1 xc2 fc0 fc1 fc2; obtain ⟨xa0, xa1, xa2, fa0, fa1, fa2⟩ := three_cells H0; obtain ⟨xb0, xb1, xb2, fb0, fb1, fb2⟩ := three_cells H1; obtain ⟨xc0, xc1, xc2, fc0, fc1, fc2⟩ := three_cells H2) | (go_at_call 78; (with_reducible refine (robP d2 76 s2 _ h2 hz2 _).mono ?_); rintro e w1 ⟨rfl, hb1⟩; replace H0 := (hb1.block _ (lt_heap H0)).trans H0; replace H1 := (hb1.block _ (lt_heap H1)).trans H1; replace H2 := (hb1.block _ (lt_heap H2)).trans H2; replace hB := below_on hB hb1; clear hb1 xa0 xa1 xa2 fa0 fa1 fa2 xb0 xb1 xb2 fb0 fb1 fb2 xc0 xc1 xc2 fc0 fc1 fc2; obtain ⟨xa0, xa1, xa2, fa0, fa1, fa2⟩ := three_cells H0; obtain ⟨xb0, xb1, xb2, fb0, fb1, fb2⟩ := three_cells H1; obtain ⟨xc0, xc1, xc2, fc0, fc1, fc2⟩ := three_cells H2))
  have hg : w.heap.size + 3 ≤ w1.heap.size := lt_heap H2
  have H3 := World.alloc_heap_new w1 (.cells #[.int .i64 (0), .int .u8 76, .string rootS] 41)
  replace H0 := laid_old (o' := (.cells #[.int .i64 (0), .int .u8 76, .string rootS] 41)) H0
  replace H1 := laid_old (o' := (.cells #[.int .i64 (0), .int .u8 76, .string rootS] 41)) H1
  replace H2 := laid_old (o' := (.cells #[.int .i64 (0), .int .u8 76, .string rootS] 41)) H2
  replace hB := below_al hB (.cells #[.int .i64 (0), .int .u8 76, .string rootS] 41)
  generalize w1.alloc (.cells #[.int .i64 (0), .int .u8 76, .string rootS] 41) = W2 at H0 H1 H2 H3 hB ⊢
  generalize w1.heap.size = B7 at H3 hg ⊢
  clear xa0 xa1 xa2 fa0 fa1 fa2 xb0 xb1 xb2 fb0 fb1 fb2 xc0 xc1 xc2 fc0 fc1 fc2
  obtain ⟨xa0, xa1, xa2, fa0, fa1, fa2⟩ := three_cells H0; obtain ⟨xb0, xb1, xb2, fb0, fb1, fb2⟩ := three_cells H1; obtain ⟨xc0, xc1, xc2, fc0, fc1, fc2⟩ := three_cells H2; obtain ⟨xd0, xd1, xd2, fd0, fd1, fd2⟩ := three_cells H3
  go_upto_region 13 with (go_at_call 79; (with_reducible refine (farN d1 b1 _ hb1 hd1 _).mono ?_); rintro e w6 ⟨rfl, hb1⟩; replace H0 := (hb1.block _ (lt_heap H0)).trans H0; replace H1 := (hb1.block _ (lt_heap H1)).trans H1; replace H2 := (hb1.block _ (lt_heap H2)).trans H2; replace H3 := (hb1.block _ (lt_heap H3)).trans H3; replace hB := below_on hB hb1; clear hb1 xa0 xa1 xa2 fa0 fa1 fa2 xb0 xb1 xb2 fb0 fb1 fb2 xc0 xc1 xc2 fc0 fc1 fc2 xd0 xd1 xd2 fd0 fd1 fd2; obtain ⟨xa0, xa1, xa2, fa0, fa1, fa2⟩ := three_cells H0; obtain ⟨xb0, xb1, xb2, fb0, fb1, fb2⟩ := three_cells H1; obtain ⟨xc0, xc1, xc2, fc0, fc1, fc2⟩ := three_cells H2; obtain ⟨xd0, xd1, xd2, fd0, fd1, fd2⟩ := three_cells H3)
  replace H0 := (heap_setCell_other w6 ⟨B7, 0, none⟩ _ (Value.int IntKind.i64 (d1 - 1)) (show (_ : Nat) ≠ B7 by omega)).trans H0
  replace H1 := (heap_setCell_other w6 ⟨B7, 0, none⟩ _ (Value.int IntKind.i64 (d1 - 1)) (show (_ : Nat) ≠ B7 by omega)).trans H1
  replace H2 := (heap_setCell_other w6 ⟨B7, 0, none⟩ _ (Value.int IntKind.i64 (d1 - 1)) (show (_ : Nat) ≠ B7 by omega)).trans H2
  replace H3 : (w6.setCell ⟨B7, 0, none⟩ (Value.int IntKind.i64 (d1 - 1))).heap[B7]? = some (.cells #[.int .i64 (d1 - 1), .int .u8 76, .string rootS] 41) := heap_setCell_same w6 B7 0 _ _ (Value.int IntKind.i64 (d1 - 1)) H3
  replace hB := below_st hB (p := ⟨B7, 0, none⟩) (by show w.heap.size ≤ B7; omega) (Value.int IntKind.i64 (d1 - 1))
  generalize w6.setCell ⟨B7, 0, none⟩ (Value.int IntKind.i64 (d1 - 1)) = W7 at H0 H1 H2 H3 hB ⊢
  clear xa0 xa1 xa2 fa0 fa1 fa2 xb0 xb1 xb2 fb0 fb1 fb2 xc0 xc1 xc2 fc0 fc1 fc2 xd0 xd1 xd2 fd0 fd1 fd2
  obtain ⟨xa0, xa1, xa2, fa0, fa1, fa2⟩ := three_cells H0; obtain ⟨xb0, xb1, xb2, fb0, fb1, fb2⟩ := three_cells H1; obtain ⟨xc0, xc1, xc2, fc0, fc1, fc2⟩ := three_cells H2; obtain ⟨xd0, xd1, xd2, fd0, fd1, fd2⟩ := three_cells H3
  clear xa0 xa1 xa2 fa0 fa1 fa2 xb0 xb1 xb2 fb0 fb1 fb2 xc0 xc1 xc2 fc0 fc1 fc2 xd0 xd1 xd2 fd0 fd1 fd2 h1 h2 e1
  by_cases hm : d2 < d1 - 1
  · refine regN_start (N := 4) (S := (fun W' => W'.heap[w.heap.size]? = some (.cells #[.int .i64 (d1), .int .u8 b1, .string s1] 41) ∧ W'.heap[w.heap.size + 1]? = some (.cells #[.int .i64 (d2), .int .u8 76, .string s2] 41) ∧ W'.heap[w.heap.size + 1 + 1]? = some (.cells #[.int .i64 (0), .int .u8 0, .string ⟨#[]⟩] 41) ∧ W'.heap[B7]? = some (.cells #[.int .i64 (d1 - 1), .int .u8 76, .string rootS] 41) ∧ Below w.heap.size w W')) (by kernel_rfl) ?_
    change wpAnyN _ _ _ _ _ _ _ #[false, false, false, false, false] _ (World.drew _)
    have hS0 := (show (fun W' => W'.heap[w.heap.size]? = some (.cells #[.int .i64 (d1), .int .u8 b1, .string s1] 41) ∧ W'.heap[w.heap.size + 1]? = some (.cells #[.int .i64 (d2), .int .u8 76, .string s2] 41) ∧ W'.heap[w.heap.size + 1 + 1]? = some (.cells #[.int .i64 (0), .int .u8 0, .string ⟨#[]⟩] 41) ∧ W'.heap[B7]? = some (.cells #[.int .i64 (d1 - 1), .int .u8 76, .string rootS] 41) ∧ Below w.heap.size w W') W7.drew from ⟨H0, H1, H2, H3, hB.drew⟩)
    refine regN_takeC [1] (i := 0) (d := (some 55)) (v := ?v13x1) (l2 := #[true, false, false, false, false]) rfl rfl rfl (by kernel_rfl) (by kernel_rfl) (by kernel_rfl) (by kernel_rfl) (fun _ _ _ h => h) (by rfl) ?hv13x1 hS0 ?h13x1
    case hv13x1 => rintro u ⟨H0, H1, H2, H3, hB⟩; obtain ⟨xa0, xa1, xa2, fa0, fa1, fa2⟩ := three_cells H0; obtain ⟨xb0, xb1, xb2, fb0, fb1, fb2⟩ := three_cells H1; obtain ⟨xc0, xc1, xc2, fc0, fc1, fc2⟩ := three_cells H2; obtain ⟨xd0, xd1, xd2, fd0, fd1, fd2⟩ := three_cells H3; go_simp; (try with_reducible rfl)
    (try simp only [Act.put, List.setIfInBounds_toArray, List.set_cons_zero, List.set_cons_succ])
    refine regN_takeC [3] (i := 2) (d := (some 57)) (v := ?v13x2) (l2 := #[true, false, true, false, false]) rfl rfl rfl (by kernel_rfl) (by kernel_rfl) (by kernel_rfl) (by kernel_rfl) (fun _ _ _ h => h) (by rfl) ?hv13x2 hS0 ?h13x2
    case hv13x2 => intro u hSu; clear hSu; go_simp; (try with_reducible rfl)
    (try simp only [Act.put, List.setIfInBounds_toArray, List.set_cons_zero, List.set_cons_succ])
    refine regN_take (i := 3) (d := (some 58)) (v := ?v13x3) (l2 := #[true, false, true, true, false]) rfl rfl rfl (by kernel_rfl) (by kernel_rfl) (by kernel_rfl) (by kernel_rfl) (fun _ _ _ h => h) (by rfl) ?hv13x3 hS0 ?h13x3
    case hv13x3 => rintro u ⟨H0, H1, H2, H3, hB⟩; obtain ⟨xa0, xa1, xa2, fa0, fa1, fa2⟩ := three_cells H0; obtain ⟨xb0, xb1, xb2, fb0, fb1, fb2⟩ := three_cells H1; obtain ⟨xc0, xc1, xc2, fc0, fc1, fc2⟩ := three_cells H2; obtain ⟨xd0, xd1, xd2, fd0, fd1, fd2⟩ := three_cells H3; go_simp; (try with_reducible rfl)
    (try simp only [Act.put, List.setIfInBounds_toArray, List.set_cons_zero, List.set_cons_succ])
    refine regN_ready (rs := [1]) (by kernel_rfl) (by simp) ?_
    refine (AllN.cons (i := 1) (l2 := #[true, true, true, true, false]) rfl rfl (fun K hK => ?_) AllN.nil)
    go_simp
    obtain ⟨H0, H1, H2, H3, hB⟩ := hS0
    go_at_call 79
    (with_reducible refine (far76 d2 _ _).mono ?_)
    rintro e w8 ⟨rfl, hb1⟩
    have hSn := (show (fun W' => W'.heap[w.heap.size]? = some (.cells #[.int .i64 (d1), .int .u8 b1, .string s1] 41) ∧ W'.heap[w.heap.size + 1]? = some (.cells #[.int .i64 (d2), .int .u8 76, .string s2] 41) ∧ W'.heap[w.heap.size + 1 + 1]? = some (.cells #[.int .i64 (0), .int .u8 0, .string ⟨#[]⟩] 41) ∧ W'.heap[B7]? = some (.cells #[.int .i64 (d1 - 1), .int .u8 76, .string rootS] 41) ∧ Below w.heap.size w W') w8 from ⟨(hb1.block _ (lt_heap H0)).trans H0, (hb1.block _ (lt_heap H1)).trans H1, (hb1.block _ (lt_heap H2)).trans H2, (hb1.block _ (lt_heap H3)).trans H3, below_on hB hb1⟩)
    clear hb1 H0 H1 H2 H3 hB
    go_simp
    have hS1 : ((fun W' => W'.heap[w.heap.size]? = some (.cells #[.int .i64 (d1), .int .u8 b1, .string s1] 41) ∧ W'.heap[w.heap.size + 1]? = some (.cells #[.int .i64 (d2), .int .u8 76, .string s2] 41) ∧ W'.heap[w.heap.size + 1 + 1]? = some (.cells #[.int .i64 (0), .int .u8 0, .string ⟨#[]⟩] 41) ∧ W'.heap[B7]? = some (.cells #[.int .i64 (d1 - 1), .int .u8 76, .string rootS] 41) ∧ Below w.heap.size w W') : World → Prop) _ := hSn
    refine hK _ _ (fun _ => hS1) ?_
    clear hK K
    (try simp only [Act.put, List.setIfInBounds_toArray, List.set_cons_zero, List.set_cons_succ])
    refine regN_ready (rs := [4]) (by kernel_rfl) (by simp) ?_
    refine (AllN.cons (i := 4) (l2 := #[true, true, true, true, true]) rfl rfl (fun K hK => ?_) AllN.nil)
    go_simp
    refine hK _ _ (fun h => absurd rfl h) ?_
    clear hK K
    (try simp only [Act.put, List.setIfInBounds_toArray, List.set_cons_zero, List.set_cons_succ])
    refine regN_done (by kernel_rfl) ?_ _
    obtain ⟨H0, H1, H2, H3, hB⟩ := hS1
    obtain ⟨xa0, xa1, xa2, fa0, fa1, fa2⟩ := three_cells H0; obtain ⟨xb0, xb1, xb2, fb0, fb1, fb2⟩ := three_cells H1; obtain ⟨xc0, xc1, xc2, fc0, fc1, fc2⟩ := three_cells H2; obtain ⟨xd0, xd1, xd2, fd0, fd1, fd2⟩ := three_cells H3
    go_upto_region 15 with (go_at_call 79; (with_reducible refine (far76 d2 _ _).mono ?_); rintro e w9 ⟨rfl, hb1⟩; replace H0 := (hb1.block _ (lt_heap H0)).trans H0; replace H1 := (hb1.block _ (lt_heap H1)).trans H1; replace H2 := (hb1.block _ (lt_heap H2)).trans H2; replace H3 := (hb1.block _ (lt_heap H3)).trans H3; replace hB := below_on hB hb1; clear hb1 xa0 xa1 xa2 fa0 fa1 fa2 xb0 xb1 xb2 fb0 fb1 fb2 xc0 xc1 xc2 fc0 fc1 fc2 xd0 xd1 xd2 fd0 fd1 fd2; obtain ⟨xa0, xa1, xa2, fa0, fa1, fa2⟩ := three_cells H0; obtain ⟨xb0, xb1, xb2, fb0, fb1, fb2⟩ := three_cells H1; obtain ⟨xc0, xc1, xc2, fc0, fc1, fc2⟩ := three_cells H2; obtain ⟨xd0, xd1, xd2, fd0, fd1, fd2⟩ := three_cells H3)
    replace H0 := (heap_setCell_other w9 ⟨B7, 0, none⟩ _ (Value.int IntKind.i64 (d2)) (show (_ : Nat) ≠ B7 by omega)).trans H0
    replace H1 := (heap_setCell_other w9 ⟨B7, 0, none⟩ _ (Value.int IntKind.i64 (d2)) (show (_ : Nat) ≠ B7 by omega)).trans H1
    replace H2 := (heap_setCell_other w9 ⟨B7, 0, none⟩ _ (Value.int IntKind.i64 (d2)) (show (_ : Nat) ≠ B7 by omega)).trans H2
    replace H3 : (w9.setCell ⟨B7, 0, none⟩ (Value.int IntKind.i64 (d2))).heap[B7]? = some (.cells #[.int .i64 (d2), .int .u8 76, .string rootS] 41) := heap_setCell_same w9 B7 0 _ _ (Value.int IntKind.i64 (d2)) H3
    replace hB := below_st hB (p := ⟨B7, 0, none⟩) (by show w.heap.size ≤ B7; omega) (Value.int IntKind.i64 (d2))
    generalize w9.setCell ⟨B7, 0, none⟩ (Value.int IntKind.i64 (d2)) = W10 at H0 H1 H2 H3 hB ⊢
    clear xa0 xa1 xa2 fa0 fa1 fa2 xb0 xb1 xb2 fb0 fb1 fb2 xc0 xc1 xc2 fc0 fc1 fc2 xd0 xd1 xd2 fd0 fd1 fd2
    obtain ⟨xa0, xa1, xa2, fa0, fa1, fa2⟩ := three_cells H0; obtain ⟨xb0, xb1, xb2, fb0, fb1, fb2⟩ := three_cells H1; obtain ⟨xc0, xc1, xc2, fc0, fc1, fc2⟩ := three_cells H2; obtain ⟨xd0, xd1, xd2, fd0, fd1, fd2⟩ := three_cells H3
    go_wp2
    refine bodyPost_ret (ty_ret rfl rfl (set_three H2)) rfl ⟨rfl, ?_⟩
    exact below_st (below_st (below_st hB (by simp; omega) _) (by simp; omega) _) (by simp; omega) _
  · refine regN_start (N := 4) (S := (fun W' => W'.heap[w.heap.size]? = some (.cells #[.int .i64 (d1), .int .u8 b1, .string s1] 41) ∧ W'.heap[w.heap.size + 1]? = some (.cells #[.int .i64 (d2), .int .u8 76, .string s2] 41) ∧ W'.heap[w.heap.size + 1 + 1]? = some (.cells #[.int .i64 (0), .int .u8 0, .string ⟨#[]⟩] 41) ∧ W'.heap[B7]? = some (.cells #[.int .i64 (d1 - 1), .int .u8 76, .string rootS] 41) ∧ Below w.heap.size w W')) (by kernel_rfl) ?_
    change wpAnyN _ _ _ _ _ _ _ #[false, false, false, false, false] _ (World.drew _)
    have hS0 := (show (fun W' => W'.heap[w.heap.size]? = some (.cells #[.int .i64 (d1), .int .u8 b1, .string s1] 41) ∧ W'.heap[w.heap.size + 1]? = some (.cells #[.int .i64 (d2), .int .u8 76, .string s2] 41) ∧ W'.heap[w.heap.size + 1 + 1]? = some (.cells #[.int .i64 (0), .int .u8 0, .string ⟨#[]⟩] 41) ∧ W'.heap[B7]? = some (.cells #[.int .i64 (d1 - 1), .int .u8 76, .string rootS] 41) ∧ Below w.heap.size w W') W7.drew from ⟨H0, H1, H2, H3, hB.drew⟩)
    refine regN_takeC [1] (i := 0) (d := (some 55)) (v := ?v23x1) (l2 := #[true, false, false, false, false]) rfl rfl rfl (by kernel_rfl) (by kernel_rfl) (by kernel_rfl) (by kernel_rfl) (fun _ _ _ h => h) (by rfl) ?hv23x1 hS0 ?h23x1
    case hv23x1 => rintro u ⟨H0, H1, H2, H3, hB⟩; obtain ⟨xa0, xa1, xa2, fa0, fa1, fa2⟩ := three_cells H0; obtain ⟨xb0, xb1, xb2, fb0, fb1, fb2⟩ := three_cells H1; obtain ⟨xc0, xc1, xc2, fc0, fc1, fc2⟩ := three_cells H2; obtain ⟨xd0, xd1, xd2, fd0, fd1, fd2⟩ := three_cells H3; go_simp; (try with_reducible rfl)
    (try simp only [Act.put, List.setIfInBounds_toArray, List.set_cons_zero, List.set_cons_succ])
    refine regN_takeC [3] (i := 2) (d := (some 57)) (v := ?v23x2) (l2 := #[true, false, true, false, false]) rfl rfl rfl (by kernel_rfl) (by kernel_rfl) (by kernel_rfl) (by kernel_rfl) (fun _ _ _ h => h) (by rfl) ?hv23x2 hS0 ?h23x2
    case hv23x2 => intro u hSu; clear hSu; go_simp; (try with_reducible rfl)
    (try simp only [Act.put, List.setIfInBounds_toArray, List.set_cons_zero, List.set_cons_succ])
    refine regN_take (i := 3) (d := (some 58)) (v := ?v23x3) (l2 := #[true, false, true, true, false]) rfl rfl rfl (by kernel_rfl) (by kernel_rfl) (by kernel_rfl) (by kernel_rfl) (fun _ _ _ h => h) (by rfl) ?hv23x3 hS0 ?h23x3
    case hv23x3 => rintro u ⟨H0, H1, H2, H3, hB⟩; obtain ⟨xa0, xa1, xa2, fa0, fa1, fa2⟩ := three_cells H0; obtain ⟨xb0, xb1, xb2, fb0, fb1, fb2⟩ := three_cells H1; obtain ⟨xc0, xc1, xc2, fc0, fc1, fc2⟩ := three_cells H2; obtain ⟨xd0, xd1, xd2, fd0, fd1, fd2⟩ := three_cells H3; go_simp; (try with_reducible rfl)
    (try simp only [Act.put, List.setIfInBounds_toArray, List.set_cons_zero, List.set_cons_succ])
    refine regN_ready (rs := [1]) (by kernel_rfl) (by simp) ?_
    refine (AllN.cons (i := 1) (l2 := #[true, true, true, true, false]) rfl rfl (fun K hK => ?_) AllN.nil)
    go_simp
    obtain ⟨H0, H1, H2, H3, hB⟩ := hS0
    go_at_call 79
    (with_reducible refine (far76 d2 _ _).mono ?_)
    rintro e w8 ⟨rfl, hb1⟩
    have hSn := (show (fun W' => W'.heap[w.heap.size]? = some (.cells #[.int .i64 (d1), .int .u8 b1, .string s1] 41) ∧ W'.heap[w.heap.size + 1]? = some (.cells #[.int .i64 (d2), .int .u8 76, .string s2] 41) ∧ W'.heap[w.heap.size + 1 + 1]? = some (.cells #[.int .i64 (0), .int .u8 0, .string ⟨#[]⟩] 41) ∧ W'.heap[B7]? = some (.cells #[.int .i64 (d1 - 1), .int .u8 76, .string rootS] 41) ∧ Below w.heap.size w W') w8 from ⟨(hb1.block _ (lt_heap H0)).trans H0, (hb1.block _ (lt_heap H1)).trans H1, (hb1.block _ (lt_heap H2)).trans H2, (hb1.block _ (lt_heap H3)).trans H3, below_on hB hb1⟩)
    clear hb1 H0 H1 H2 H3 hB
    go_simp
    have hS1 : ((fun W' => W'.heap[w.heap.size]? = some (.cells #[.int .i64 (d1), .int .u8 b1, .string s1] 41) ∧ W'.heap[w.heap.size + 1]? = some (.cells #[.int .i64 (d2), .int .u8 76, .string s2] 41) ∧ W'.heap[w.heap.size + 1 + 1]? = some (.cells #[.int .i64 (0), .int .u8 0, .string ⟨#[]⟩] 41) ∧ W'.heap[B7]? = some (.cells #[.int .i64 (d1 - 1), .int .u8 76, .string rootS] 41) ∧ Below w.heap.size w W') : World → Prop) _ := hSn
    refine hK _ _ (fun _ => hS1) ?_
    clear hK K
    (try simp only [Act.put, List.setIfInBounds_toArray, List.set_cons_zero, List.set_cons_succ])
    refine regN_ready (rs := [4]) (by kernel_rfl) (by simp) ?_
    refine (AllN.cons (i := 4) (l2 := #[true, true, true, true, true]) rfl rfl (fun K hK => ?_) AllN.nil)
    go_simp
    refine hK _ _ (fun h => absurd rfl h) ?_
    clear hK K
    (try simp only [Act.put, List.setIfInBounds_toArray, List.set_cons_zero, List.set_cons_succ])
    refine regN_done (by kernel_rfl) ?_ _
    obtain ⟨H0, H1, H2, H3, hB⟩ := hS1
    obtain ⟨xa0, xa1, xa2, fa0, fa1, fa2⟩ := three_cells H0; obtain ⟨xb0, xb1, xb2, fb0, fb1, fb2⟩ := three_cells H1; obtain ⟨xc0, xc1, xc2, fc0, fc1, fc2⟩ := three_cells H2; obtain ⟨xd0, xd1, xd2, fd0, fd1, fd2⟩ := three_cells H3
    go_wp2
    refine bodyPost_ret (ty_ret rfl rfl (set_three H2)) rfl ⟨rfl, ?_⟩
    exact below_st (below_st (below_st hB (by simp; omega) _) (by simp; omega) _) (by simp; omega) _
set_option maxRecDepth 100000 in
set_option maxHeartbeats 4000000 in
theorem rty_53 (V : Value) (b1 b2 d1 d2 : Int) (s1 s2 : ByteArray) (w : World) (hz1 : s1.size ≤ 9223372036854775807) (hz2 : s2.size ≤ 9223372036854775807) (h1 : (TY.mk d1 b1 s1).ref = true) (h2 : (TY.mk d2 b2 s2).ref = true) (hE : tyE (TY.mk d1 b1 s1) (TY.mk d2 b2 s2) = false)  (hb1 : ¬ b1 = 76) (hb2 : ¬ b2 = 76) (hd1 : 0 ≤ d1 ∧ d1 ≤ 8) (hd2 : 0 ≤ d2 ∧ d2 ≤ 8) :
    Calls Tryd.prog 43 #[V, .agg #[.int .i64 d1, .int .u8 b1, .string s1], .agg #[.int .i64 d2, .int .u8 b2, .string s2]] w (RtyRet w ⟨if d2 - 1 < d1 - 1 then d2 - 1 else d1 - 1, 76, rootS⟩) := by
  have e1 := fun w => ty_eqP hE w
  go_enter Tryd.func43, Tryd.ntmps43
  go_upto_region 1 with fail
  obtain ⟨H0, H1, H2, hB, hz⟩ := three_laid w (.cells #[.int .i64 (d1), .int .u8 b1, .string s1] 41) (.cells #[.int .i64 (d2), .int .u8 b2, .string s2] 41) (.cells #[.int .i64 (0), .int .u8 0, .string ⟨#[]⟩] 41)
  generalize ((w.alloc (.cells #[.int .i64 (d1), .int .u8 b1, .string s1] 41)).alloc (.cells #[.int .i64 (d2), .int .u8 b2, .string s2] 41)).alloc (.cells #[.int .i64 (0), .int .u8 0, .string ⟨#[]⟩] 41) = W at H0 H1 H2 hB hz ⊢
  obtain ⟨xa0, xa1, xa2, fa0, fa1, fa2⟩ := three_cells H0; obtain ⟨xb0, xb1, xb2, fb0, fb1, fb2⟩ := three_cells H1; obtain ⟨xc0, xc1, xc2, fc0, fc1, fc2⟩ := three_cells H2
  go_upto_region 6 with (first | (go_at_call 78; (with_reducible refine (robP d1 b1 s1 _ h1 hz1 _).mono ?_); rintro e w1 ⟨rfl, hb1⟩; replace H0 := (hb1.block _ (lt_heap H0)).trans H0; replace H1 := (hb1.block _ (lt_heap H1)).trans H1; replace H2 := (hb1.block _ (lt_heap H2)).trans H2; replace hB := below_on hB hb1; clear hb1 xa0 xa1 xa2 fa0 fa1 fa2 xb0 xb1 xb2 fb0 fb1 fb2 xc0 xc1 xc2 fc0 fc1 fc2; obtain ⟨xa0, xa1, xa2, fa0, fa1, fa2⟩ := three_cells H0; obtain ⟨xb0, xb1, xb2, fb0, fb1, fb2⟩ := three_cells H1; obtain ⟨xc0, xc1, xc2, fc0, fc1, fc2⟩ := three_cells H2) | (go_at_call 78; (with_reducible refine (robP d2 b2 s2 _ h2 hz2 _).mono ?_); rintro e w1 ⟨rfl, hb1⟩; replace H0 := (hb1.block _ (lt_heap H0)).trans H0; replace H1 := (hb1.block _ (lt_heap H1)).trans H1; replace H2 := (hb1.block _ (lt_heap H2)).trans H2; replace hB := below_on hB hb1; clear hb1 xa0 xa1 xa2 fa0 fa1 fa2 xb0 xb1 xb2 fb0 fb1 fb2 xc0 xc1 xc2 fc0 fc1 fc2; obtain ⟨xa0, xa1, xa2, fa0, fa1, fa2⟩ := three_cells H0; obtain ⟨xb0, xb1, xb2, fb0, fb1, fb2⟩ := three_cells H1; obtain ⟨xc0, xc1, xc2, fc0, fc1, fc2⟩ := three_cells H2))
  have hg : w.heap.size + 3 ≤ w1.heap.size := lt_heap H2
  have H3 := World.alloc_heap_new w1 (.cells #[.int .i64 (0), .int .u8 76, .string rootS] 41)
  replace H0 := laid_old (o' := (.cells #[.int .i64 (0), .int .u8 76, .string rootS] 41)) H0
  replace H1 := laid_old (o' := (.cells #[.int .i64 (0), .int .u8 76, .string rootS] 41)) H1
  replace H2 := laid_old (o' := (.cells #[.int .i64 (0), .int .u8 76, .string rootS] 41)) H2
  replace hB := below_al hB (.cells #[.int .i64 (0), .int .u8 76, .string rootS] 41)
  generalize w1.alloc (.cells #[.int .i64 (0), .int .u8 76, .string rootS] 41) = W2 at H0 H1 H2 H3 hB ⊢
  generalize w1.heap.size = B7 at H3 hg ⊢
  clear xa0 xa1 xa2 fa0 fa1 fa2 xb0 xb1 xb2 fb0 fb1 fb2 xc0 xc1 xc2 fc0 fc1 fc2
  obtain ⟨xa0, xa1, xa2, fa0, fa1, fa2⟩ := three_cells H0; obtain ⟨xb0, xb1, xb2, fb0, fb1, fb2⟩ := three_cells H1; obtain ⟨xc0, xc1, xc2, fc0, fc1, fc2⟩ := three_cells H2; obtain ⟨xd0, xd1, xd2, fd0, fd1, fd2⟩ := three_cells H3
  go_upto_region 13 with (go_at_call 79; (with_reducible refine (farN d1 b1 _ hb1 hd1 _).mono ?_); rintro e w6 ⟨rfl, hb1⟩; replace H0 := (hb1.block _ (lt_heap H0)).trans H0; replace H1 := (hb1.block _ (lt_heap H1)).trans H1; replace H2 := (hb1.block _ (lt_heap H2)).trans H2; replace H3 := (hb1.block _ (lt_heap H3)).trans H3; replace hB := below_on hB hb1; clear hb1 xa0 xa1 xa2 fa0 fa1 fa2 xb0 xb1 xb2 fb0 fb1 fb2 xc0 xc1 xc2 fc0 fc1 fc2 xd0 xd1 xd2 fd0 fd1 fd2; obtain ⟨xa0, xa1, xa2, fa0, fa1, fa2⟩ := three_cells H0; obtain ⟨xb0, xb1, xb2, fb0, fb1, fb2⟩ := three_cells H1; obtain ⟨xc0, xc1, xc2, fc0, fc1, fc2⟩ := three_cells H2; obtain ⟨xd0, xd1, xd2, fd0, fd1, fd2⟩ := three_cells H3)
  replace H0 := (heap_setCell_other w6 ⟨B7, 0, none⟩ _ (Value.int IntKind.i64 (d1 - 1)) (show (_ : Nat) ≠ B7 by omega)).trans H0
  replace H1 := (heap_setCell_other w6 ⟨B7, 0, none⟩ _ (Value.int IntKind.i64 (d1 - 1)) (show (_ : Nat) ≠ B7 by omega)).trans H1
  replace H2 := (heap_setCell_other w6 ⟨B7, 0, none⟩ _ (Value.int IntKind.i64 (d1 - 1)) (show (_ : Nat) ≠ B7 by omega)).trans H2
  replace H3 : (w6.setCell ⟨B7, 0, none⟩ (Value.int IntKind.i64 (d1 - 1))).heap[B7]? = some (.cells #[.int .i64 (d1 - 1), .int .u8 76, .string rootS] 41) := heap_setCell_same w6 B7 0 _ _ (Value.int IntKind.i64 (d1 - 1)) H3
  replace hB := below_st hB (p := ⟨B7, 0, none⟩) (by show w.heap.size ≤ B7; omega) (Value.int IntKind.i64 (d1 - 1))
  generalize w6.setCell ⟨B7, 0, none⟩ (Value.int IntKind.i64 (d1 - 1)) = W7 at H0 H1 H2 H3 hB ⊢
  clear xa0 xa1 xa2 fa0 fa1 fa2 xb0 xb1 xb2 fb0 fb1 fb2 xc0 xc1 xc2 fc0 fc1 fc2 xd0 xd1 xd2 fd0 fd1 fd2
  obtain ⟨xa0, xa1, xa2, fa0, fa1, fa2⟩ := three_cells H0; obtain ⟨xb0, xb1, xb2, fb0, fb1, fb2⟩ := three_cells H1; obtain ⟨xc0, xc1, xc2, fc0, fc1, fc2⟩ := three_cells H2; obtain ⟨xd0, xd1, xd2, fd0, fd1, fd2⟩ := three_cells H3
  clear xa0 xa1 xa2 fa0 fa1 fa2 xb0 xb1 xb2 fb0 fb1 fb2 xc0 xc1 xc2 fc0 fc1 fc2 xd0 xd1 xd2 fd0 fd1 fd2 h1 h2 e1
  by_cases hm : d2 - 1 < d1 - 1
  · refine regN_start (N := 4) (S := (fun W' => W'.heap[w.heap.size]? = some (.cells #[.int .i64 (d1), .int .u8 b1, .string s1] 41) ∧ W'.heap[w.heap.size + 1]? = some (.cells #[.int .i64 (d2), .int .u8 b2, .string s2] 41) ∧ W'.heap[w.heap.size + 1 + 1]? = some (.cells #[.int .i64 (0), .int .u8 0, .string ⟨#[]⟩] 41) ∧ W'.heap[B7]? = some (.cells #[.int .i64 (d1 - 1), .int .u8 76, .string rootS] 41) ∧ Below w.heap.size w W')) (by kernel_rfl) ?_
    change wpAnyN _ _ _ _ _ _ _ #[false, false, false, false, false] _ (World.drew _)
    have hS0 := (show (fun W' => W'.heap[w.heap.size]? = some (.cells #[.int .i64 (d1), .int .u8 b1, .string s1] 41) ∧ W'.heap[w.heap.size + 1]? = some (.cells #[.int .i64 (d2), .int .u8 b2, .string s2] 41) ∧ W'.heap[w.heap.size + 1 + 1]? = some (.cells #[.int .i64 (0), .int .u8 0, .string ⟨#[]⟩] 41) ∧ W'.heap[B7]? = some (.cells #[.int .i64 (d1 - 1), .int .u8 76, .string rootS] 41) ∧ Below w.heap.size w W') W7.drew from ⟨H0, H1, H2, H3, hB.drew⟩)
    refine regN_takeC [1] (i := 0) (d := (some 55)) (v := ?v13x1) (l2 := #[true, false, false, false, false]) rfl rfl rfl (by kernel_rfl) (by kernel_rfl) (by kernel_rfl) (by kernel_rfl) (fun _ _ _ h => h) (by rfl) ?hv13x1 hS0 ?h13x1
    case hv13x1 => rintro u ⟨H0, H1, H2, H3, hB⟩; obtain ⟨xa0, xa1, xa2, fa0, fa1, fa2⟩ := three_cells H0; obtain ⟨xb0, xb1, xb2, fb0, fb1, fb2⟩ := three_cells H1; obtain ⟨xc0, xc1, xc2, fc0, fc1, fc2⟩ := three_cells H2; obtain ⟨xd0, xd1, xd2, fd0, fd1, fd2⟩ := three_cells H3; go_simp; (try with_reducible rfl)
    (try simp only [Act.put, List.setIfInBounds_toArray, List.set_cons_zero, List.set_cons_succ])
    refine regN_takeC [3] (i := 2) (d := (some 57)) (v := ?v13x2) (l2 := #[true, false, true, false, false]) rfl rfl rfl (by kernel_rfl) (by kernel_rfl) (by kernel_rfl) (by kernel_rfl) (fun _ _ _ h => h) (by rfl) ?hv13x2 hS0 ?h13x2
    case hv13x2 => intro u hSu; clear hSu; go_simp; (try with_reducible rfl)
    (try simp only [Act.put, List.setIfInBounds_toArray, List.set_cons_zero, List.set_cons_succ])
    refine regN_take (i := 3) (d := (some 58)) (v := ?v13x3) (l2 := #[true, false, true, true, false]) rfl rfl rfl (by kernel_rfl) (by kernel_rfl) (by kernel_rfl) (by kernel_rfl) (fun _ _ _ h => h) (by rfl) ?hv13x3 hS0 ?h13x3
    case hv13x3 => rintro u ⟨H0, H1, H2, H3, hB⟩; obtain ⟨xa0, xa1, xa2, fa0, fa1, fa2⟩ := three_cells H0; obtain ⟨xb0, xb1, xb2, fb0, fb1, fb2⟩ := three_cells H1; obtain ⟨xc0, xc1, xc2, fc0, fc1, fc2⟩ := three_cells H2; obtain ⟨xd0, xd1, xd2, fd0, fd1, fd2⟩ := three_cells H3; go_simp; (try with_reducible rfl)
    (try simp only [Act.put, List.setIfInBounds_toArray, List.set_cons_zero, List.set_cons_succ])
    refine regN_ready (rs := [1]) (by kernel_rfl) (by simp) ?_
    refine (AllN.cons (i := 1) (l2 := #[true, true, true, true, false]) rfl rfl (fun K hK => ?_) AllN.nil)
    go_simp
    obtain ⟨H0, H1, H2, H3, hB⟩ := hS0
    go_at_call 79
    (with_reducible refine (farN d2 b2 _ hb2 hd2 _).mono ?_)
    rintro e w8 ⟨rfl, hb1⟩
    have hSn := (show (fun W' => W'.heap[w.heap.size]? = some (.cells #[.int .i64 (d1), .int .u8 b1, .string s1] 41) ∧ W'.heap[w.heap.size + 1]? = some (.cells #[.int .i64 (d2), .int .u8 b2, .string s2] 41) ∧ W'.heap[w.heap.size + 1 + 1]? = some (.cells #[.int .i64 (0), .int .u8 0, .string ⟨#[]⟩] 41) ∧ W'.heap[B7]? = some (.cells #[.int .i64 (d1 - 1), .int .u8 76, .string rootS] 41) ∧ Below w.heap.size w W') w8 from ⟨(hb1.block _ (lt_heap H0)).trans H0, (hb1.block _ (lt_heap H1)).trans H1, (hb1.block _ (lt_heap H2)).trans H2, (hb1.block _ (lt_heap H3)).trans H3, below_on hB hb1⟩)
    clear hb1 H0 H1 H2 H3 hB
    go_simp
    have hS1 : ((fun W' => W'.heap[w.heap.size]? = some (.cells #[.int .i64 (d1), .int .u8 b1, .string s1] 41) ∧ W'.heap[w.heap.size + 1]? = some (.cells #[.int .i64 (d2), .int .u8 b2, .string s2] 41) ∧ W'.heap[w.heap.size + 1 + 1]? = some (.cells #[.int .i64 (0), .int .u8 0, .string ⟨#[]⟩] 41) ∧ W'.heap[B7]? = some (.cells #[.int .i64 (d1 - 1), .int .u8 76, .string rootS] 41) ∧ Below w.heap.size w W') : World → Prop) _ := hSn
    refine hK _ _ (fun _ => hS1) ?_
    clear hK K
    (try simp only [Act.put, List.setIfInBounds_toArray, List.set_cons_zero, List.set_cons_succ])
    refine regN_ready (rs := [4]) (by kernel_rfl) (by simp) ?_
    refine (AllN.cons (i := 4) (l2 := #[true, true, true, true, true]) rfl rfl (fun K hK => ?_) AllN.nil)
    go_simp
    refine hK _ _ (fun h => absurd rfl h) ?_
    clear hK K
    (try simp only [Act.put, List.setIfInBounds_toArray, List.set_cons_zero, List.set_cons_succ])
    refine regN_done (by kernel_rfl) ?_ _
    obtain ⟨H0, H1, H2, H3, hB⟩ := hS1
    obtain ⟨xa0, xa1, xa2, fa0, fa1, fa2⟩ := three_cells H0; obtain ⟨xb0, xb1, xb2, fb0, fb1, fb2⟩ := three_cells H1; obtain ⟨xc0, xc1, xc2, fc0, fc1, fc2⟩ := three_cells H2; obtain ⟨xd0, xd1, xd2, fd0, fd1, fd2⟩ := three_cells H3
    go_upto_region 15 with (go_at_call 79; (with_reducible refine (farN d2 b2 _ hb2 hd2 _).mono ?_); rintro e w9 ⟨rfl, hb1⟩; replace H0 := (hb1.block _ (lt_heap H0)).trans H0; replace H1 := (hb1.block _ (lt_heap H1)).trans H1; replace H2 := (hb1.block _ (lt_heap H2)).trans H2; replace H3 := (hb1.block _ (lt_heap H3)).trans H3; replace hB := below_on hB hb1; clear hb1 xa0 xa1 xa2 fa0 fa1 fa2 xb0 xb1 xb2 fb0 fb1 fb2 xc0 xc1 xc2 fc0 fc1 fc2 xd0 xd1 xd2 fd0 fd1 fd2; obtain ⟨xa0, xa1, xa2, fa0, fa1, fa2⟩ := three_cells H0; obtain ⟨xb0, xb1, xb2, fb0, fb1, fb2⟩ := three_cells H1; obtain ⟨xc0, xc1, xc2, fc0, fc1, fc2⟩ := three_cells H2; obtain ⟨xd0, xd1, xd2, fd0, fd1, fd2⟩ := three_cells H3)
    replace H0 := (heap_setCell_other w9 ⟨B7, 0, none⟩ _ (Value.int IntKind.i64 (d2 - 1)) (show (_ : Nat) ≠ B7 by omega)).trans H0
    replace H1 := (heap_setCell_other w9 ⟨B7, 0, none⟩ _ (Value.int IntKind.i64 (d2 - 1)) (show (_ : Nat) ≠ B7 by omega)).trans H1
    replace H2 := (heap_setCell_other w9 ⟨B7, 0, none⟩ _ (Value.int IntKind.i64 (d2 - 1)) (show (_ : Nat) ≠ B7 by omega)).trans H2
    replace H3 : (w9.setCell ⟨B7, 0, none⟩ (Value.int IntKind.i64 (d2 - 1))).heap[B7]? = some (.cells #[.int .i64 (d2 - 1), .int .u8 76, .string rootS] 41) := heap_setCell_same w9 B7 0 _ _ (Value.int IntKind.i64 (d2 - 1)) H3
    replace hB := below_st hB (p := ⟨B7, 0, none⟩) (by show w.heap.size ≤ B7; omega) (Value.int IntKind.i64 (d2 - 1))
    generalize w9.setCell ⟨B7, 0, none⟩ (Value.int IntKind.i64 (d2 - 1)) = W10 at H0 H1 H2 H3 hB ⊢
    clear xa0 xa1 xa2 fa0 fa1 fa2 xb0 xb1 xb2 fb0 fb1 fb2 xc0 xc1 xc2 fc0 fc1 fc2 xd0 xd1 xd2 fd0 fd1 fd2
    obtain ⟨xa0, xa1, xa2, fa0, fa1, fa2⟩ := three_cells H0; obtain ⟨xb0, xb1, xb2, fb0, fb1, fb2⟩ := three_cells H1; obtain ⟨xc0, xc1, xc2, fc0, fc1, fc2⟩ := three_cells H2; obtain ⟨xd0, xd1, xd2, fd0, fd1, fd2⟩ := three_cells H3
    go_wp2
    refine bodyPost_ret (ty_ret rfl rfl (set_three H2)) rfl ⟨rfl, ?_⟩
    exact below_st (below_st (below_st hB (by simp; omega) _) (by simp; omega) _) (by simp; omega) _
  · refine regN_start (N := 4) (S := (fun W' => W'.heap[w.heap.size]? = some (.cells #[.int .i64 (d1), .int .u8 b1, .string s1] 41) ∧ W'.heap[w.heap.size + 1]? = some (.cells #[.int .i64 (d2), .int .u8 b2, .string s2] 41) ∧ W'.heap[w.heap.size + 1 + 1]? = some (.cells #[.int .i64 (0), .int .u8 0, .string ⟨#[]⟩] 41) ∧ W'.heap[B7]? = some (.cells #[.int .i64 (d1 - 1), .int .u8 76, .string rootS] 41) ∧ Below w.heap.size w W')) (by kernel_rfl) ?_
    change wpAnyN _ _ _ _ _ _ _ #[false, false, false, false, false] _ (World.drew _)
    have hS0 := (show (fun W' => W'.heap[w.heap.size]? = some (.cells #[.int .i64 (d1), .int .u8 b1, .string s1] 41) ∧ W'.heap[w.heap.size + 1]? = some (.cells #[.int .i64 (d2), .int .u8 b2, .string s2] 41) ∧ W'.heap[w.heap.size + 1 + 1]? = some (.cells #[.int .i64 (0), .int .u8 0, .string ⟨#[]⟩] 41) ∧ W'.heap[B7]? = some (.cells #[.int .i64 (d1 - 1), .int .u8 76, .string rootS] 41) ∧ Below w.heap.size w W') W7.drew from ⟨H0, H1, H2, H3, hB.drew⟩)
    refine regN_takeC [1] (i := 0) (d := (some 55)) (v := ?v23x1) (l2 := #[true, false, false, false, false]) rfl rfl rfl (by kernel_rfl) (by kernel_rfl) (by kernel_rfl) (by kernel_rfl) (fun _ _ _ h => h) (by rfl) ?hv23x1 hS0 ?h23x1
    case hv23x1 => rintro u ⟨H0, H1, H2, H3, hB⟩; obtain ⟨xa0, xa1, xa2, fa0, fa1, fa2⟩ := three_cells H0; obtain ⟨xb0, xb1, xb2, fb0, fb1, fb2⟩ := three_cells H1; obtain ⟨xc0, xc1, xc2, fc0, fc1, fc2⟩ := three_cells H2; obtain ⟨xd0, xd1, xd2, fd0, fd1, fd2⟩ := three_cells H3; go_simp; (try with_reducible rfl)
    (try simp only [Act.put, List.setIfInBounds_toArray, List.set_cons_zero, List.set_cons_succ])
    refine regN_takeC [3] (i := 2) (d := (some 57)) (v := ?v23x2) (l2 := #[true, false, true, false, false]) rfl rfl rfl (by kernel_rfl) (by kernel_rfl) (by kernel_rfl) (by kernel_rfl) (fun _ _ _ h => h) (by rfl) ?hv23x2 hS0 ?h23x2
    case hv23x2 => intro u hSu; clear hSu; go_simp; (try with_reducible rfl)
    (try simp only [Act.put, List.setIfInBounds_toArray, List.set_cons_zero, List.set_cons_succ])
    refine regN_take (i := 3) (d := (some 58)) (v := ?v23x3) (l2 := #[true, false, true, true, false]) rfl rfl rfl (by kernel_rfl) (by kernel_rfl) (by kernel_rfl) (by kernel_rfl) (fun _ _ _ h => h) (by rfl) ?hv23x3 hS0 ?h23x3
    case hv23x3 => rintro u ⟨H0, H1, H2, H3, hB⟩; obtain ⟨xa0, xa1, xa2, fa0, fa1, fa2⟩ := three_cells H0; obtain ⟨xb0, xb1, xb2, fb0, fb1, fb2⟩ := three_cells H1; obtain ⟨xc0, xc1, xc2, fc0, fc1, fc2⟩ := three_cells H2; obtain ⟨xd0, xd1, xd2, fd0, fd1, fd2⟩ := three_cells H3; go_simp; (try with_reducible rfl)
    (try simp only [Act.put, List.setIfInBounds_toArray, List.set_cons_zero, List.set_cons_succ])
    refine regN_ready (rs := [1]) (by kernel_rfl) (by simp) ?_
    refine (AllN.cons (i := 1) (l2 := #[true, true, true, true, false]) rfl rfl (fun K hK => ?_) AllN.nil)
    go_simp
    obtain ⟨H0, H1, H2, H3, hB⟩ := hS0
    go_at_call 79
    (with_reducible refine (farN d2 b2 _ hb2 hd2 _).mono ?_)
    rintro e w8 ⟨rfl, hb1⟩
    have hSn := (show (fun W' => W'.heap[w.heap.size]? = some (.cells #[.int .i64 (d1), .int .u8 b1, .string s1] 41) ∧ W'.heap[w.heap.size + 1]? = some (.cells #[.int .i64 (d2), .int .u8 b2, .string s2] 41) ∧ W'.heap[w.heap.size + 1 + 1]? = some (.cells #[.int .i64 (0), .int .u8 0, .string ⟨#[]⟩] 41) ∧ W'.heap[B7]? = some (.cells #[.int .i64 (d1 - 1), .int .u8 76, .string rootS] 41) ∧ Below w.heap.size w W') w8 from ⟨(hb1.block _ (lt_heap H0)).trans H0, (hb1.block _ (lt_heap H1)).trans H1, (hb1.block _ (lt_heap H2)).trans H2, (hb1.block _ (lt_heap H3)).trans H3, below_on hB hb1⟩)
    clear hb1 H0 H1 H2 H3 hB
    go_simp
    have hS1 : ((fun W' => W'.heap[w.heap.size]? = some (.cells #[.int .i64 (d1), .int .u8 b1, .string s1] 41) ∧ W'.heap[w.heap.size + 1]? = some (.cells #[.int .i64 (d2), .int .u8 b2, .string s2] 41) ∧ W'.heap[w.heap.size + 1 + 1]? = some (.cells #[.int .i64 (0), .int .u8 0, .string ⟨#[]⟩] 41) ∧ W'.heap[B7]? = some (.cells #[.int .i64 (d1 - 1), .int .u8 76, .string rootS] 41) ∧ Below w.heap.size w W') : World → Prop) _ := hSn
    refine hK _ _ (fun _ => hS1) ?_
    clear hK K
    (try simp only [Act.put, List.setIfInBounds_toArray, List.set_cons_zero, List.set_cons_succ])
    refine regN_ready (rs := [4]) (by kernel_rfl) (by simp) ?_
    refine (AllN.cons (i := 4) (l2 := #[true, true, true, true, true]) rfl rfl (fun K hK => ?_) AllN.nil)
    go_simp
    refine hK _ _ (fun h => absurd rfl h) ?_
    clear hK K
    (try simp only [Act.put, List.setIfInBounds_toArray, List.set_cons_zero, List.set_cons_succ])
    refine regN_done (by kernel_rfl) ?_ _
    obtain ⟨H0, H1, H2, H3, hB⟩ := hS1
    obtain ⟨xa0, xa1, xa2, fa0, fa1, fa2⟩ := three_cells H0; obtain ⟨xb0, xb1, xb2, fb0, fb1, fb2⟩ := three_cells H1; obtain ⟨xc0, xc1, xc2, fc0, fc1, fc2⟩ := three_cells H2; obtain ⟨xd0, xd1, xd2, fd0, fd1, fd2⟩ := three_cells H3
    go_wp2
    refine bodyPost_ret (ty_ret rfl rfl (set_three H2)) rfl ⟨rfl, ?_⟩
    exact below_st (below_st (below_st hB (by simp; omega) _) (by simp; omega) _) (by simp; omega) _
end Go.Proofs.YthifmcnemeiphaaDoor
