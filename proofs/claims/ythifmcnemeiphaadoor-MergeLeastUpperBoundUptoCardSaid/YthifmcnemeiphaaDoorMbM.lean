import Derived.Test.YthifmcnemeiphaaDoorMaM

/- Mb -/
/- Layer 18: Types, in the package (written by gen/mb.py). -/
namespace Go.Proofs.YthifmcnemeiphaaDoor
open Go.ChangeShapes Go.WideShapes Go.ChangeAt Go.RowKit Go.PlainAid Go.Maps
set_option linter.unusedSimpArgs false
set_option linter.unusedVariables false

def TyRet (w : World) (t : TY) (e : Ending) (w' : World) : Prop := e = .returned (Value.agg #[Value.int IntKind.i64 (TY.d t), Value.int IntKind.u8 (TY.b t), Value.string (TY.s t)]) ∧ Below w.heap.size w w'
theorem by_eq {n m : Nat} (h : n = m) : n ≤ m := Nat.le_of_eq h
theorem dp76 (d : Int) (s : ByteArray) (w : World) :
    Calls Tryd.prog 77 #[.agg #[.int .i64 d, .int .u8 76, .string s]] w fun e w' => e = .returned (.int .i64 d) ∧ Below w.heap.size w w' := by
  have hB : Below w.heap.size w w := Below.refl _ _
  go_enter Tryd.func77, Tryd.ntmps77
  go_wp2
  go_ret
  exact ⟨rfl, (by repeat (first | with_reducible exact hB | with_reducible exact Below.refl _ _ | with_reducible refine below_al ?_ _ | with_reducible refine below_st ?_ (by first | exact Nat.le_refl _ | exact Nat.le_add_right _ _ | (simp; omega)) _))⟩
theorem dpN (d b : Int) (s : ByteArray) (hb : ¬ b = 76) (h : 0 ≤ d ∧ d ≤ 8) (w : World) :
    Calls Tryd.prog 77 #[.agg #[.int .i64 d, .int .u8 b, .string s]] w fun e w' => e = .returned (.int .i64 (d - 1)) ∧ Below w.heap.size w w' := by
  have hB : Below w.heap.size w w := Below.refl _ _
  obtain ⟨h0, h1⟩ := h
  go_enter Tryd.func77, Tryd.ntmps77
  go_wp2
  go_ret
  exact ⟨rfl, (by repeat (first | with_reducible exact hB | with_reducible exact Below.refl _ _ | with_reducible refine below_al ?_ _ | with_reducible refine below_st ?_ (by first | exact Nat.le_refl _ | exact Nat.le_add_right _ _ | (simp; omega)) _))⟩
set_option maxRecDepth 100000 in
set_option maxHeartbeats 4000000 in
theorem mty_z1 (V : Value) (a b : TY) (w : World) (h1 : a.ref = false) :
    Calls Tryd.prog 42 #[V, (Value.agg #[Value.int IntKind.i64 (TY.d a), Value.int IntKind.u8 (TY.b a), Value.string (TY.s a)]), (Value.agg #[Value.int IntKind.i64 (TY.d b), Value.int IntKind.u8 (TY.b b), Value.string (TY.s b)])] w (TyRet w tyZ) := by
  go_enter Tryd.func42, Tryd.ntmps42
  go_upto_region 1 with fail
  obtain ⟨H0, H1, H2, hB, hz⟩ := three_laid w (.cells #[.int .i64 a.d, .int .u8 a.b, .string a.s] 41) (.cells #[.int .i64 b.d, .int .u8 b.b, .string b.s] 41) (.cells #[.int .i64 0, .int .u8 0, .string ⟨#[]⟩] 41)
  generalize ((w.alloc (.cells #[.int .i64 a.d, .int .u8 a.b, .string a.s] 41)).alloc (.cells #[.int .i64 b.d, .int .u8 b.b, .string b.s] 41)).alloc (.cells #[.int .i64 0, .int .u8 0, .string ⟨#[]⟩] 41) = W at H0 H1 H2 hB hz ⊢
  obtain ⟨xa0, xa1, xa2, fa0, fa1, fa2⟩ := three_cells H0; obtain ⟨xb0, xb1, xb2, fb0, fb1, fb2⟩ := three_cells H1; obtain ⟨xc0, xc1, xc2, fc0, fc1, fc2⟩ := three_cells H2
  go_wp2_with (go_at_call 76; (with_reducible refine (isrefM_any a _).mono ?_); rintro e w1 ⟨rfl, hb1⟩; rw [h1]; replace H0 := (hb1.block _ (lt_heap H0)).trans H0; replace H1 := (hb1.block _ (lt_heap H1)).trans H1; replace H2 := (hb1.block _ (lt_heap H2)).trans H2; replace hB := below_on hB hb1; clear hb1 xa0 xa1 xa2 fa0 fa1 fa2 xb0 xb1 xb2 fb0 fb1 fb2 xc0 xc1 xc2 fc0 fc1 fc2; obtain ⟨xa0, xa1, xa2, fa0, fa1, fa2⟩ := three_cells H0; obtain ⟨xb0, xb1, xb2, fb0, fb1, fb2⟩ := three_cells H1; obtain ⟨xc0, xc1, xc2, fc0, fc1, fc2⟩ := three_cells H2)
  refine bodyPost_ret (ty_ret rfl rfl (set_three H2)) rfl ⟨?_, ?_⟩
  · rfl
  · exact below_st (below_st (below_st hB (by simp; omega) _) (by simp; omega) _) (by simp; omega) _
set_option maxRecDepth 100000 in
set_option maxHeartbeats 4000000 in
theorem mty_z2 (V : Value) (a b : TY) (w : World) (h1 : a.ref = true) (h2 : b.ref = false) :
    Calls Tryd.prog 42 #[V, (Value.agg #[Value.int IntKind.i64 (TY.d a), Value.int IntKind.u8 (TY.b a), Value.string (TY.s a)]), (Value.agg #[Value.int IntKind.i64 (TY.d b), Value.int IntKind.u8 (TY.b b), Value.string (TY.s b)])] w (TyRet w tyZ) := by
  go_enter Tryd.func42, Tryd.ntmps42
  go_upto_region 1 with fail
  obtain ⟨H0, H1, H2, hB, hz⟩ := three_laid w (.cells #[.int .i64 a.d, .int .u8 a.b, .string a.s] 41) (.cells #[.int .i64 b.d, .int .u8 b.b, .string b.s] 41) (.cells #[.int .i64 0, .int .u8 0, .string ⟨#[]⟩] 41)
  generalize ((w.alloc (.cells #[.int .i64 a.d, .int .u8 a.b, .string a.s] 41)).alloc (.cells #[.int .i64 b.d, .int .u8 b.b, .string b.s] 41)).alloc (.cells #[.int .i64 0, .int .u8 0, .string ⟨#[]⟩] 41) = W at H0 H1 H2 hB hz ⊢
  obtain ⟨xa0, xa1, xa2, fa0, fa1, fa2⟩ := three_cells H0; obtain ⟨xb0, xb1, xb2, fb0, fb1, fb2⟩ := three_cells H1; obtain ⟨xc0, xc1, xc2, fc0, fc1, fc2⟩ := three_cells H2
  go_wp2_with (first | (go_at_call 76; (with_reducible refine (isrefM_any a _).mono ?_); rintro e w1 ⟨rfl, hb1⟩; rw [h1]; replace H0 := (hb1.block _ (lt_heap H0)).trans H0; replace H1 := (hb1.block _ (lt_heap H1)).trans H1; replace H2 := (hb1.block _ (lt_heap H2)).trans H2; replace hB := below_on hB hb1; clear hb1 xa0 xa1 xa2 fa0 fa1 fa2 xb0 xb1 xb2 fb0 fb1 fb2 xc0 xc1 xc2 fc0 fc1 fc2; obtain ⟨xa0, xa1, xa2, fa0, fa1, fa2⟩ := three_cells H0; obtain ⟨xb0, xb1, xb2, fb0, fb1, fb2⟩ := three_cells H1; obtain ⟨xc0, xc1, xc2, fc0, fc1, fc2⟩ := three_cells H2) | (go_at_call 76; (with_reducible refine (isrefM_any b _).mono ?_); rintro e w1 ⟨rfl, hb1⟩; rw [h2]; replace H0 := (hb1.block _ (lt_heap H0)).trans H0; replace H1 := (hb1.block _ (lt_heap H1)).trans H1; replace H2 := (hb1.block _ (lt_heap H2)).trans H2; replace hB := below_on hB hb1; clear hb1 xa0 xa1 xa2 fa0 fa1 fa2 xb0 xb1 xb2 fb0 fb1 fb2 xc0 xc1 xc2 fc0 fc1 fc2; obtain ⟨xa0, xa1, xa2, fa0, fa1, fa2⟩ := three_cells H0; obtain ⟨xb0, xb1, xb2, fb0, fb1, fb2⟩ := three_cells H1; obtain ⟨xc0, xc1, xc2, fc0, fc1, fc2⟩ := three_cells H2))
  refine bodyPost_ret (ty_ret rfl rfl (set_three H2)) rfl ⟨?_, ?_⟩
  · rfl
  · exact below_st (below_st (below_st hB (by simp; omega) _) (by simp; omega) _) (by simp; omega) _
set_option maxRecDepth 100000 in
set_option maxHeartbeats 4000000 in
theorem mty_e (V : Value) (a b : TY) (w : World) (h1 : a.ref = true) (h3 : tyE a b = true) :
    Calls Tryd.prog 42 #[V, (Value.agg #[Value.int IntKind.i64 (TY.d a), Value.int IntKind.u8 (TY.b a), Value.string (TY.s a)]), (Value.agg #[Value.int IntKind.i64 (TY.d b), Value.int IntKind.u8 (TY.b b), Value.string (TY.s b)])] w (TyRet w a) := by
  obtain rfl := tyE_eq h3
  go_enter Tryd.func42, Tryd.ntmps42
  go_upto_region 1 with fail
  obtain ⟨H0, H1, H2, hB, hz⟩ := three_laid w (.cells #[.int .i64 a.d, .int .u8 a.b, .string a.s] 41) (.cells #[.int .i64 a.d, .int .u8 a.b, .string a.s] 41) (.cells #[.int .i64 0, .int .u8 0, .string ⟨#[]⟩] 41)
  generalize ((w.alloc (.cells #[.int .i64 a.d, .int .u8 a.b, .string a.s] 41)).alloc (.cells #[.int .i64 a.d, .int .u8 a.b, .string a.s] 41)).alloc (.cells #[.int .i64 0, .int .u8 0, .string ⟨#[]⟩] 41) = W at H0 H1 H2 hB hz ⊢
  obtain ⟨xa0, xa1, xa2, fa0, fa1, fa2⟩ := three_cells H0; obtain ⟨xb0, xb1, xb2, fb0, fb1, fb2⟩ := three_cells H1; obtain ⟨xc0, xc1, xc2, fc0, fc1, fc2⟩ := three_cells H2
  go_wp2_with (go_at_call 76; (with_reducible refine (isrefM_any a _).mono ?_); rintro e w1 ⟨rfl, hb1⟩; rw [h1]; replace H0 := (hb1.block _ (lt_heap H0)).trans H0; replace H1 := (hb1.block _ (lt_heap H1)).trans H1; replace H2 := (hb1.block _ (lt_heap H2)).trans H2; replace hB := below_on hB hb1; clear hb1 xa0 xa1 xa2 fa0 fa1 fa2 xb0 xb1 xb2 fb0 fb1 fb2 xc0 xc1 xc2 fc0 fc1 fc2; obtain ⟨xa0, xa1, xa2, fa0, fa1, fa2⟩ := three_cells H0; obtain ⟨xb0, xb1, xb2, fb0, fb1, fb2⟩ := three_cells H1; obtain ⟨xc0, xc1, xc2, fc0, fc1, fc2⟩ := three_cells H2)
  refine bodyPost_ret (ty_ret rfl rfl (set_three H2)) rfl ⟨?_, ?_⟩
  · rfl
  · exact below_st (below_st (below_st hB (by simp; omega) _) (by simp; omega) _) (by simp; omega) _
set_option maxRecDepth 100000 in
set_option maxHeartbeats 4000000 in
theorem mty_50 (V : Value) (d1 d2 : Int) (s1 s2 : ByteArray) (w : World) (h1 : (TY.mk d1 76 s1).ref = true) (h2 : (TY.mk d2 76 s2).ref = true)  (hd1 : 0 ≤ d1 ∧ d1 ≤ 8) (hd2 : 0 ≤ d2 ∧ d2 ≤ 8) (h3 : ¬ d1 = d2) (hE : tyE (TY.mk d1 76 s1) (TY.mk d2 76 s2) = false) :
    Calls Tryd.prog 42 #[V, .agg #[.int .i64 d1, .int .u8 76, .string s1], .agg #[.int .i64 d2, .int .u8 76, .string s2]] w (TyRet w ⟨if d2 < d1 then d2 else d1, 76, rootS⟩) := by
  have e1 := fun w => ty_eqP hE w
  go_enter Tryd.func42, Tryd.ntmps42
  go_upto_region 1 with fail
  obtain ⟨H0, H1, H2, hB, hz⟩ := three_laid w (.cells #[.int .i64 d1, .int .u8 76, .string s1] 41) (.cells #[.int .i64 d2, .int .u8 76, .string s2] 41) (.cells #[.int .i64 0, .int .u8 0, .string ⟨#[]⟩] 41)
  generalize ((w.alloc (.cells #[.int .i64 d1, .int .u8 76, .string s1] 41)).alloc (.cells #[.int .i64 d2, .int .u8 76, .string s2] 41)).alloc (.cells #[.int .i64 0, .int .u8 0, .string ⟨#[]⟩] 41) = W at H0 H1 H2 hB hz ⊢
  obtain ⟨xa0, xa1, xa2, fa0, fa1, fa2⟩ := three_cells H0; obtain ⟨xb0, xb1, xb2, fb0, fb1, fb2⟩ := three_cells H1; obtain ⟨xc0, xc1, xc2, fc0, fc1, fc2⟩ := three_cells H2
  go_upto_region 7 with (first | (go_at_call 76; (with_reducible refine (isrP d1 76 s1 _ h1 _).mono ?_); rintro e w1 ⟨rfl, hb1⟩; replace H0 := (hb1.block _ (lt_heap H0)).trans H0; replace H1 := (hb1.block _ (lt_heap H1)).trans H1; replace H2 := (hb1.block _ (lt_heap H2)).trans H2; replace hB := below_on hB hb1; clear hb1 xa0 xa1 xa2 fa0 fa1 fa2 xb0 xb1 xb2 fb0 fb1 fb2 xc0 xc1 xc2 fc0 fc1 fc2; obtain ⟨xa0, xa1, xa2, fa0, fa1, fa2⟩ := three_cells H0; obtain ⟨xb0, xb1, xb2, fb0, fb1, fb2⟩ := three_cells H1; obtain ⟨xc0, xc1, xc2, fc0, fc1, fc2⟩ := three_cells H2) | (go_at_call 76; (with_reducible refine (isrP d2 76 s2 _ h2 _).mono ?_); rintro e w1 ⟨rfl, hb1⟩; replace H0 := (hb1.block _ (lt_heap H0)).trans H0; replace H1 := (hb1.block _ (lt_heap H1)).trans H1; replace H2 := (hb1.block _ (lt_heap H2)).trans H2; replace hB := below_on hB hb1; clear hb1 xa0 xa1 xa2 fa0 fa1 fa2 xb0 xb1 xb2 fb0 fb1 fb2 xc0 xc1 xc2 fc0 fc1 fc2; obtain ⟨xa0, xa1, xa2, fa0, fa1, fa2⟩ := three_cells H0; obtain ⟨xb0, xb1, xb2, fb0, fb1, fb2⟩ := three_cells H1; obtain ⟨xc0, xc1, xc2, fc0, fc1, fc2⟩ := three_cells H2))
  clear xa0 xa1 xa2 fa0 fa1 fa2 xb0 xb1 xb2 fb0 fb1 fb2 xc0 xc1 xc2 fc0 fc1 fc2 hz h1 h2 e1
  by_cases hm : d2 < d1
  · refine regN_start (N := 6) (S := (fun W' => W'.heap[w.heap.size]? = some (.cells #[.int .i64 d1, .int .u8 76, .string s1] 41) ∧ W'.heap[w.heap.size + 1]? = some (.cells #[.int .i64 d2, .int .u8 76, .string s2] 41) ∧ W'.heap[w.heap.size + 1 + 1]? = some (.cells #[.int .i64 0, .int .u8 0, .string ⟨#[]⟩] 41) ∧ Below w.heap.size w W')) (by kernel_rfl) ?_
    change wpAnyN _ _ _ _ _ _ _ #[false, false, false, false, false, false, false] _ (World.drew _)
    have hS0 := (show (fun W' => W'.heap[w.heap.size]? = some (.cells #[.int .i64 d1, .int .u8 76, .string s1] 41) ∧ W'.heap[w.heap.size + 1]? = some (.cells #[.int .i64 d2, .int .u8 76, .string s2] 41) ∧ W'.heap[w.heap.size + 1 + 1]? = some (.cells #[.int .i64 0, .int .u8 0, .string ⟨#[]⟩] 41) ∧ Below w.heap.size w W') w1.drew from ⟨H0, H1, H2, hB.drew⟩)
    refine regN_take (i := 0) (d := (some 47)) (v := ?v7x1) (l2 := #[true, false, false, false, false, false, false]) rfl rfl rfl (by kernel_rfl) (by kernel_rfl) (by kernel_rfl) (by kernel_rfl) (fun _ _ _ h => h) (by rfl) ?hv7x1 hS0 ?h7x1
    case hv7x1 => rintro u ⟨q0, q1, q2, q3⟩; obtain ⟨xa0, xa1, xa2, fa0, fa1, fa2⟩ := three_cells q0; obtain ⟨xb0, xb1, xb2, fb0, fb1, fb2⟩ := three_cells q1; obtain ⟨xc0, xc1, xc2, fc0, fc1, fc2⟩ := three_cells q2; go_simp; (try with_reducible rfl)
    (try simp only [Act.put, List.setIfInBounds_toArray, List.set_cons_zero, List.set_cons_succ])
    refine regN_take (i := 2) (d := (some 49)) (v := ?v7x2) (l2 := #[true, false, true, false, false, false, false]) rfl rfl rfl (by kernel_rfl) (by kernel_rfl) (by kernel_rfl) (by kernel_rfl) (fun _ _ _ h => h) (by rfl) ?hv7x2 hS0 ?h7x2
    case hv7x2 => rintro u ⟨q0, q1, q2, q3⟩; obtain ⟨xa0, xa1, xa2, fa0, fa1, fa2⟩ := three_cells q0; obtain ⟨xb0, xb1, xb2, fb0, fb1, fb2⟩ := three_cells q1; obtain ⟨xc0, xc1, xc2, fc0, fc1, fc2⟩ := three_cells q2; go_simp; (try with_reducible rfl)
    (try simp only [Act.put, List.setIfInBounds_toArray, List.set_cons_zero, List.set_cons_succ])
    refine regN_ready (rs := [1]) (by kernel_rfl) (by simp) ?_
    refine (AllN.cons (i := 1) (l2 := #[true, true, true, false, false, false, false]) rfl rfl (fun K hK => ?_) AllN.nil)
    go_simp
    obtain ⟨q0, q1, q2, q3⟩ := hS0
    go_at_call 77
    (with_reducible refine (dp76 d1 _ _).mono ?_)
    rintro e w2 ⟨rfl, hb1⟩
    have hSn := (show (fun W' => W'.heap[w.heap.size]? = some (.cells #[.int .i64 d1, .int .u8 76, .string s1] 41) ∧ W'.heap[w.heap.size + 1]? = some (.cells #[.int .i64 d2, .int .u8 76, .string s2] 41) ∧ W'.heap[w.heap.size + 1 + 1]? = some (.cells #[.int .i64 0, .int .u8 0, .string ⟨#[]⟩] 41) ∧ Below w.heap.size w W') w2 from ⟨(hb1.block _ (lt_heap q0)).trans q0, (hb1.block _ (lt_heap q1)).trans q1, (hb1.block _ (lt_heap q2)).trans q2, below_on q3 hb1⟩)
    clear hb1
    go_simp
    have hS1 : ((fun W' => W'.heap[w.heap.size]? = some (.cells #[.int .i64 d1, .int .u8 76, .string s1] 41) ∧ W'.heap[w.heap.size + 1]? = some (.cells #[.int .i64 d2, .int .u8 76, .string s2] 41) ∧ W'.heap[w.heap.size + 1 + 1]? = some (.cells #[.int .i64 0, .int .u8 0, .string ⟨#[]⟩] 41) ∧ Below w.heap.size w W') : World → Prop) _ := hSn
    refine hK _ _ (fun _ => hS1) ?_
    clear hK K
    (try simp only [Act.put, List.setIfInBounds_toArray, List.set_cons_zero, List.set_cons_succ])
    refine regN_ready (rs := [3]) (by kernel_rfl) (by simp) ?_
    refine (AllN.cons (i := 3) (l2 := #[true, true, true, true, false, false, false]) rfl rfl (fun K hK => ?_) AllN.nil)
    go_simp
    obtain ⟨q0, q1, q2, q3⟩ := hS1
    go_at_call 77
    (with_reducible refine (dp76 d2 _ _).mono ?_)
    rintro e w2 ⟨rfl, hb1⟩
    have hSn := (show (fun W' => W'.heap[w.heap.size]? = some (.cells #[.int .i64 d1, .int .u8 76, .string s1] 41) ∧ W'.heap[w.heap.size + 1]? = some (.cells #[.int .i64 d2, .int .u8 76, .string s2] 41) ∧ W'.heap[w.heap.size + 1 + 1]? = some (.cells #[.int .i64 0, .int .u8 0, .string ⟨#[]⟩] 41) ∧ Below w.heap.size w W') w2 from ⟨(hb1.block _ (lt_heap q0)).trans q0, (hb1.block _ (lt_heap q1)).trans q1, (hb1.block _ (lt_heap q2)).trans q2, below_on q3 hb1⟩)
    clear hb1
    go_simp
    have hS2 : ((fun W' => W'.heap[w.heap.size]? = some (.cells #[.int .i64 d1, .int .u8 76, .string s1] 41) ∧ W'.heap[w.heap.size + 1]? = some (.cells #[.int .i64 d2, .int .u8 76, .string s2] 41) ∧ W'.heap[w.heap.size + 1 + 1]? = some (.cells #[.int .i64 0, .int .u8 0, .string ⟨#[]⟩] 41) ∧ Below w.heap.size w W') : World → Prop) _ := hSn
    refine hK _ _ (fun _ => hS2) ?_
    clear hK K
    (try simp only [Act.put, List.setIfInBounds_toArray, List.set_cons_zero, List.set_cons_succ])
    refine regN_ready (rs := [4]) (by kernel_rfl) (by simp) ?_
    refine (AllN.cons (i := 4) (l2 := #[true, true, true, true, true, false, false]) rfl rfl (fun K hK => ?_) AllN.nil)
    go_simp
    have hS3 : ((fun W' => W'.heap[w.heap.size]? = some (.cells #[.int .i64 d1, .int .u8 76, .string s1] 41) ∧ W'.heap[w.heap.size + 1]? = some (.cells #[.int .i64 d2, .int .u8 76, .string s2] 41) ∧ W'.heap[w.heap.size + 1 + 1]? = some (.cells #[.int .i64 0, .int .u8 0, .string ⟨#[]⟩] 41) ∧ Below w.heap.size w W') : World → Prop) _ := hS2
    refine hK _ _ (fun _ => hS3) ?_
    clear hK K
    (try simp only [Act.put, List.setIfInBounds_toArray, List.set_cons_zero, List.set_cons_succ])
    refine regN_take (i := 5) (d := (some 52)) (v := ?v7x3) (l2 := #[true, true, true, true, true, true, false]) rfl rfl rfl (by kernel_rfl) (by kernel_rfl) (by kernel_rfl) (by kernel_rfl) (fun _ _ _ h => h) (by rfl) ?hv7x3 hS3 ?h7x3
    case hv7x3 => intro u hSu; clear hSu; go_simp; (try with_reducible rfl)
    (try simp only [Act.put, List.setIfInBounds_toArray, List.set_cons_zero, List.set_cons_succ])
    refine regN_ready (rs := [6]) (by kernel_rfl) (by simp) ?_
    refine (AllN.cons (i := 6) (l2 := #[true, true, true, true, true, true, true]) rfl rfl (fun K hK => ?_) AllN.nil)
    obtain ⟨q0, q1, q2, q3⟩ := hS3
    obtain ⟨xa0, xa1, xa2, fa0, fa1, fa2⟩ := three_cells q0; obtain ⟨xb0, xb1, xb2, fb0, fb1, fb2⟩ := three_cells q1; obtain ⟨xc0, xc1, xc2, fc0, fc1, fc2⟩ := three_cells q2
    go_simp
    refine hK _ _ (fun h => absurd rfl h) ?_
    clear hK K
    (try simp only [Act.put, List.setIfInBounds_toArray, List.set_cons_zero, List.set_cons_succ])
    refine regN_done (by kernel_rfl) ?_ _
    go_wp2
    refine bodyPost_ret (ty_ret rfl rfl (set_three q2)) rfl ⟨by first | rfl | (simp [hm]; done) | (simp [hm]; omega), ?_⟩
    exact below_st (below_st (below_st q3 (by simp; omega) _) (by simp; omega) _) (by simp; omega) _
  · refine regN_start (N := 6) (S := (fun W' => W'.heap[w.heap.size]? = some (.cells #[.int .i64 d1, .int .u8 76, .string s1] 41) ∧ W'.heap[w.heap.size + 1]? = some (.cells #[.int .i64 d2, .int .u8 76, .string s2] 41) ∧ W'.heap[w.heap.size + 1 + 1]? = some (.cells #[.int .i64 0, .int .u8 0, .string ⟨#[]⟩] 41) ∧ Below w.heap.size w W')) (by kernel_rfl) ?_
    change wpAnyN _ _ _ _ _ _ _ #[false, false, false, false, false, false, false] _ (World.drew _)
    have hS0 := (show (fun W' => W'.heap[w.heap.size]? = some (.cells #[.int .i64 d1, .int .u8 76, .string s1] 41) ∧ W'.heap[w.heap.size + 1]? = some (.cells #[.int .i64 d2, .int .u8 76, .string s2] 41) ∧ W'.heap[w.heap.size + 1 + 1]? = some (.cells #[.int .i64 0, .int .u8 0, .string ⟨#[]⟩] 41) ∧ Below w.heap.size w W') w1.drew from ⟨H0, H1, H2, hB.drew⟩)
    refine regN_take (i := 0) (d := (some 47)) (v := ?v8x1) (l2 := #[true, false, false, false, false, false, false]) rfl rfl rfl (by kernel_rfl) (by kernel_rfl) (by kernel_rfl) (by kernel_rfl) (fun _ _ _ h => h) (by rfl) ?hv8x1 hS0 ?h8x1
    case hv8x1 => rintro u ⟨q0, q1, q2, q3⟩; obtain ⟨xa0, xa1, xa2, fa0, fa1, fa2⟩ := three_cells q0; obtain ⟨xb0, xb1, xb2, fb0, fb1, fb2⟩ := three_cells q1; obtain ⟨xc0, xc1, xc2, fc0, fc1, fc2⟩ := three_cells q2; go_simp; (try with_reducible rfl)
    (try simp only [Act.put, List.setIfInBounds_toArray, List.set_cons_zero, List.set_cons_succ])
    refine regN_take (i := 2) (d := (some 49)) (v := ?v8x2) (l2 := #[true, false, true, false, false, false, false]) rfl rfl rfl (by kernel_rfl) (by kernel_rfl) (by kernel_rfl) (by kernel_rfl) (fun _ _ _ h => h) (by rfl) ?hv8x2 hS0 ?h8x2
    case hv8x2 => rintro u ⟨q0, q1, q2, q3⟩; obtain ⟨xa0, xa1, xa2, fa0, fa1, fa2⟩ := three_cells q0; obtain ⟨xb0, xb1, xb2, fb0, fb1, fb2⟩ := three_cells q1; obtain ⟨xc0, xc1, xc2, fc0, fc1, fc2⟩ := three_cells q2; go_simp; (try with_reducible rfl)
    (try simp only [Act.put, List.setIfInBounds_toArray, List.set_cons_zero, List.set_cons_succ])
    refine regN_ready (rs := [1]) (by kernel_rfl) (by simp) ?_
    refine (AllN.cons (i := 1) (l2 := #[true, true, true, false, false, false, false]) rfl rfl (fun K hK => ?_) AllN.nil)
    go_simp
    obtain ⟨q0, q1, q2, q3⟩ := hS0
    go_at_call 77
    (with_reducible refine (dp76 d1 _ _).mono ?_)
    rintro e w2 ⟨rfl, hb1⟩
    have hSn := (show (fun W' => W'.heap[w.heap.size]? = some (.cells #[.int .i64 d1, .int .u8 76, .string s1] 41) ∧ W'.heap[w.heap.size + 1]? = some (.cells #[.int .i64 d2, .int .u8 76, .string s2] 41) ∧ W'.heap[w.heap.size + 1 + 1]? = some (.cells #[.int .i64 0, .int .u8 0, .string ⟨#[]⟩] 41) ∧ Below w.heap.size w W') w2 from ⟨(hb1.block _ (lt_heap q0)).trans q0, (hb1.block _ (lt_heap q1)).trans q1, (hb1.block _ (lt_heap q2)).trans q2, below_on q3 hb1⟩)
    clear hb1
    go_simp
    have hS1 : ((fun W' => W'.heap[w.heap.size]? = some (.cells #[.int .i64 d1, .int .u8 76, .string s1] 41) ∧ W'.heap[w.heap.size + 1]? = some (.cells #[.int .i64 d2, .int .u8 76, .string s2] 41) ∧ W'.heap[w.heap.size + 1 + 1]? = some (.cells #[.int .i64 0, .int .u8 0, .string ⟨#[]⟩] 41) ∧ Below w.heap.size w W') : World → Prop) _ := hSn
    refine hK _ _ (fun _ => hS1) ?_
    clear hK K
    (try simp only [Act.put, List.setIfInBounds_toArray, List.set_cons_zero, List.set_cons_succ])
    refine regN_ready (rs := [3]) (by kernel_rfl) (by simp) ?_
    refine (AllN.cons (i := 3) (l2 := #[true, true, true, true, false, false, false]) rfl rfl (fun K hK => ?_) AllN.nil)
    go_simp
    obtain ⟨q0, q1, q2, q3⟩ := hS1
    go_at_call 77
    (with_reducible refine (dp76 d2 _ _).mono ?_)
    rintro e w2 ⟨rfl, hb1⟩
    have hSn := (show (fun W' => W'.heap[w.heap.size]? = some (.cells #[.int .i64 d1, .int .u8 76, .string s1] 41) ∧ W'.heap[w.heap.size + 1]? = some (.cells #[.int .i64 d2, .int .u8 76, .string s2] 41) ∧ W'.heap[w.heap.size + 1 + 1]? = some (.cells #[.int .i64 0, .int .u8 0, .string ⟨#[]⟩] 41) ∧ Below w.heap.size w W') w2 from ⟨(hb1.block _ (lt_heap q0)).trans q0, (hb1.block _ (lt_heap q1)).trans q1, (hb1.block _ (lt_heap q2)).trans q2, below_on q3 hb1⟩)
    clear hb1
    go_simp
    have hS2 : ((fun W' => W'.heap[w.heap.size]? = some (.cells #[.int .i64 d1, .int .u8 76, .string s1] 41) ∧ W'.heap[w.heap.size + 1]? = some (.cells #[.int .i64 d2, .int .u8 76, .string s2] 41) ∧ W'.heap[w.heap.size + 1 + 1]? = some (.cells #[.int .i64 0, .int .u8 0, .string ⟨#[]⟩] 41) ∧ Below w.heap.size w W') : World → Prop) _ := hSn
    refine hK _ _ (fun _ => hS2) ?_
    clear hK K
    (try simp only [Act.put, List.setIfInBounds_toArray, List.set_cons_zero, List.set_cons_succ])
    refine regN_ready (rs := [4]) (by kernel_rfl) (by simp) ?_
    refine (AllN.cons (i := 4) (l2 := #[true, true, true, true, true, false, false]) rfl rfl (fun K hK => ?_) AllN.nil)
    go_simp
    have hS3 : ((fun W' => W'.heap[w.heap.size]? = some (.cells #[.int .i64 d1, .int .u8 76, .string s1] 41) ∧ W'.heap[w.heap.size + 1]? = some (.cells #[.int .i64 d2, .int .u8 76, .string s2] 41) ∧ W'.heap[w.heap.size + 1 + 1]? = some (.cells #[.int .i64 0, .int .u8 0, .string ⟨#[]⟩] 41) ∧ Below w.heap.size w W') : World → Prop) _ := hS2
    refine hK _ _ (fun _ => hS3) ?_
    clear hK K
    (try simp only [Act.put, List.setIfInBounds_toArray, List.set_cons_zero, List.set_cons_succ])
    refine regN_take (i := 5) (d := (some 52)) (v := ?v8x3) (l2 := #[true, true, true, true, true, true, false]) rfl rfl rfl (by kernel_rfl) (by kernel_rfl) (by kernel_rfl) (by kernel_rfl) (fun _ _ _ h => h) (by rfl) ?hv8x3 hS3 ?h8x3
    case hv8x3 => intro u hSu; clear hSu; go_simp; (try with_reducible rfl)
    (try simp only [Act.put, List.setIfInBounds_toArray, List.set_cons_zero, List.set_cons_succ])
    refine regN_ready (rs := [6]) (by kernel_rfl) (by simp) ?_
    refine (AllN.cons (i := 6) (l2 := #[true, true, true, true, true, true, true]) rfl rfl (fun K hK => ?_) AllN.nil)
    obtain ⟨q0, q1, q2, q3⟩ := hS3
    obtain ⟨xa0, xa1, xa2, fa0, fa1, fa2⟩ := three_cells q0; obtain ⟨xb0, xb1, xb2, fb0, fb1, fb2⟩ := three_cells q1; obtain ⟨xc0, xc1, xc2, fc0, fc1, fc2⟩ := three_cells q2
    go_simp
    refine hK _ _ (fun h => absurd rfl h) ?_
    clear hK K
    (try simp only [Act.put, List.setIfInBounds_toArray, List.set_cons_zero, List.set_cons_succ])
    refine regN_done (by kernel_rfl) ?_ _
    go_wp2
    refine bodyPost_ret (ty_ret rfl rfl (set_three q2)) rfl ⟨by first | rfl | (simp [hm]; done) | (simp [hm]; omega), ?_⟩
    exact below_st (below_st (below_st q3 (by simp; omega) _) (by simp; omega) _) (by simp; omega) _
set_option maxRecDepth 100000 in
set_option maxHeartbeats 4000000 in
theorem mty_51 (V : Value) (d1 d2 b2 : Int) (s1 s2 : ByteArray) (w : World) (h1 : (TY.mk d1 76 s1).ref = true) (h2 : (TY.mk d2 b2 s2).ref = true) (hb2 : ¬ b2 = 76) (hd1 : 0 ≤ d1 ∧ d1 ≤ 8) (hd2 : 0 ≤ d2 ∧ d2 ≤ 8) (hE : tyE (TY.mk d1 76 s1) (TY.mk d2 b2 s2) = false) :
    Calls Tryd.prog 42 #[V, .agg #[.int .i64 d1, .int .u8 76, .string s1], .agg #[.int .i64 d2, .int .u8 b2, .string s2]] w (TyRet w ⟨if d2 - 1 < d1 then d2 - 1 else d1, 76, rootS⟩) := by
  have e1 := fun w => ty_eqP hE w
  go_enter Tryd.func42, Tryd.ntmps42
  go_upto_region 1 with fail
  obtain ⟨H0, H1, H2, hB, hz⟩ := three_laid w (.cells #[.int .i64 d1, .int .u8 76, .string s1] 41) (.cells #[.int .i64 d2, .int .u8 b2, .string s2] 41) (.cells #[.int .i64 0, .int .u8 0, .string ⟨#[]⟩] 41)
  generalize ((w.alloc (.cells #[.int .i64 d1, .int .u8 76, .string s1] 41)).alloc (.cells #[.int .i64 d2, .int .u8 b2, .string s2] 41)).alloc (.cells #[.int .i64 0, .int .u8 0, .string ⟨#[]⟩] 41) = W at H0 H1 H2 hB hz ⊢
  obtain ⟨xa0, xa1, xa2, fa0, fa1, fa2⟩ := three_cells H0; obtain ⟨xb0, xb1, xb2, fb0, fb1, fb2⟩ := three_cells H1; obtain ⟨xc0, xc1, xc2, fc0, fc1, fc2⟩ := three_cells H2
  go_upto_region 7 with (first | (go_at_call 76; (with_reducible refine (isrP d1 76 s1 _ h1 _).mono ?_); rintro e w1 ⟨rfl, hb1⟩; replace H0 := (hb1.block _ (lt_heap H0)).trans H0; replace H1 := (hb1.block _ (lt_heap H1)).trans H1; replace H2 := (hb1.block _ (lt_heap H2)).trans H2; replace hB := below_on hB hb1; clear hb1 xa0 xa1 xa2 fa0 fa1 fa2 xb0 xb1 xb2 fb0 fb1 fb2 xc0 xc1 xc2 fc0 fc1 fc2; obtain ⟨xa0, xa1, xa2, fa0, fa1, fa2⟩ := three_cells H0; obtain ⟨xb0, xb1, xb2, fb0, fb1, fb2⟩ := three_cells H1; obtain ⟨xc0, xc1, xc2, fc0, fc1, fc2⟩ := three_cells H2) | (go_at_call 76; (with_reducible refine (isrP d2 b2 s2 _ h2 _).mono ?_); rintro e w1 ⟨rfl, hb1⟩; replace H0 := (hb1.block _ (lt_heap H0)).trans H0; replace H1 := (hb1.block _ (lt_heap H1)).trans H1; replace H2 := (hb1.block _ (lt_heap H2)).trans H2; replace hB := below_on hB hb1; clear hb1 xa0 xa1 xa2 fa0 fa1 fa2 xb0 xb1 xb2 fb0 fb1 fb2 xc0 xc1 xc2 fc0 fc1 fc2; obtain ⟨xa0, xa1, xa2, fa0, fa1, fa2⟩ := three_cells H0; obtain ⟨xb0, xb1, xb2, fb0, fb1, fb2⟩ := three_cells H1; obtain ⟨xc0, xc1, xc2, fc0, fc1, fc2⟩ := three_cells H2))
  clear xa0 xa1 xa2 fa0 fa1 fa2 xb0 xb1 xb2 fb0 fb1 fb2 xc0 xc1 xc2 fc0 fc1 fc2 hz h1 h2 e1
  by_cases hm : d2 - 1 < d1
  · refine regN_start (N := 6) (S := (fun W' => W'.heap[w.heap.size]? = some (.cells #[.int .i64 d1, .int .u8 76, .string s1] 41) ∧ W'.heap[w.heap.size + 1]? = some (.cells #[.int .i64 d2, .int .u8 b2, .string s2] 41) ∧ W'.heap[w.heap.size + 1 + 1]? = some (.cells #[.int .i64 0, .int .u8 0, .string ⟨#[]⟩] 41) ∧ Below w.heap.size w W')) (by kernel_rfl) ?_
    change wpAnyN _ _ _ _ _ _ _ #[false, false, false, false, false, false, false] _ (World.drew _)
    have hS0 := (show (fun W' => W'.heap[w.heap.size]? = some (.cells #[.int .i64 d1, .int .u8 76, .string s1] 41) ∧ W'.heap[w.heap.size + 1]? = some (.cells #[.int .i64 d2, .int .u8 b2, .string s2] 41) ∧ W'.heap[w.heap.size + 1 + 1]? = some (.cells #[.int .i64 0, .int .u8 0, .string ⟨#[]⟩] 41) ∧ Below w.heap.size w W') w1.drew from ⟨H0, H1, H2, hB.drew⟩)
    refine regN_take (i := 0) (d := (some 47)) (v := ?v7x1) (l2 := #[true, false, false, false, false, false, false]) rfl rfl rfl (by kernel_rfl) (by kernel_rfl) (by kernel_rfl) (by kernel_rfl) (fun _ _ _ h => h) (by rfl) ?hv7x1 hS0 ?h7x1
    case hv7x1 => rintro u ⟨q0, q1, q2, q3⟩; obtain ⟨xa0, xa1, xa2, fa0, fa1, fa2⟩ := three_cells q0; obtain ⟨xb0, xb1, xb2, fb0, fb1, fb2⟩ := three_cells q1; obtain ⟨xc0, xc1, xc2, fc0, fc1, fc2⟩ := three_cells q2; go_simp; (try with_reducible rfl)
    (try simp only [Act.put, List.setIfInBounds_toArray, List.set_cons_zero, List.set_cons_succ])
    refine regN_take (i := 2) (d := (some 49)) (v := ?v7x2) (l2 := #[true, false, true, false, false, false, false]) rfl rfl rfl (by kernel_rfl) (by kernel_rfl) (by kernel_rfl) (by kernel_rfl) (fun _ _ _ h => h) (by rfl) ?hv7x2 hS0 ?h7x2
    case hv7x2 => rintro u ⟨q0, q1, q2, q3⟩; obtain ⟨xa0, xa1, xa2, fa0, fa1, fa2⟩ := three_cells q0; obtain ⟨xb0, xb1, xb2, fb0, fb1, fb2⟩ := three_cells q1; obtain ⟨xc0, xc1, xc2, fc0, fc1, fc2⟩ := three_cells q2; go_simp; (try with_reducible rfl)
    (try simp only [Act.put, List.setIfInBounds_toArray, List.set_cons_zero, List.set_cons_succ])
    refine regN_ready (rs := [1]) (by kernel_rfl) (by simp) ?_
    refine (AllN.cons (i := 1) (l2 := #[true, true, true, false, false, false, false]) rfl rfl (fun K hK => ?_) AllN.nil)
    go_simp
    obtain ⟨q0, q1, q2, q3⟩ := hS0
    go_at_call 77
    (with_reducible refine (dp76 d1 _ _).mono ?_)
    rintro e w2 ⟨rfl, hb1⟩
    have hSn := (show (fun W' => W'.heap[w.heap.size]? = some (.cells #[.int .i64 d1, .int .u8 76, .string s1] 41) ∧ W'.heap[w.heap.size + 1]? = some (.cells #[.int .i64 d2, .int .u8 b2, .string s2] 41) ∧ W'.heap[w.heap.size + 1 + 1]? = some (.cells #[.int .i64 0, .int .u8 0, .string ⟨#[]⟩] 41) ∧ Below w.heap.size w W') w2 from ⟨(hb1.block _ (lt_heap q0)).trans q0, (hb1.block _ (lt_heap q1)).trans q1, (hb1.block _ (lt_heap q2)).trans q2, below_on q3 hb1⟩)
    clear hb1
    go_simp
    have hS1 : ((fun W' => W'.heap[w.heap.size]? = some (.cells #[.int .i64 d1, .int .u8 76, .string s1] 41) ∧ W'.heap[w.heap.size + 1]? = some (.cells #[.int .i64 d2, .int .u8 b2, .string s2] 41) ∧ W'.heap[w.heap.size + 1 + 1]? = some (.cells #[.int .i64 0, .int .u8 0, .string ⟨#[]⟩] 41) ∧ Below w.heap.size w W') : World → Prop) _ := hSn
    refine hK _ _ (fun _ => hS1) ?_
    clear hK K
    (try simp only [Act.put, List.setIfInBounds_toArray, List.set_cons_zero, List.set_cons_succ])
    refine regN_ready (rs := [3]) (by kernel_rfl) (by simp) ?_
    refine (AllN.cons (i := 3) (l2 := #[true, true, true, true, false, false, false]) rfl rfl (fun K hK => ?_) AllN.nil)
    go_simp
    obtain ⟨q0, q1, q2, q3⟩ := hS1
    go_at_call 77
    (with_reducible refine (dpN d2 b2 _ hb2 hd2 _).mono ?_)
    rintro e w2 ⟨rfl, hb1⟩
    have hSn := (show (fun W' => W'.heap[w.heap.size]? = some (.cells #[.int .i64 d1, .int .u8 76, .string s1] 41) ∧ W'.heap[w.heap.size + 1]? = some (.cells #[.int .i64 d2, .int .u8 b2, .string s2] 41) ∧ W'.heap[w.heap.size + 1 + 1]? = some (.cells #[.int .i64 0, .int .u8 0, .string ⟨#[]⟩] 41) ∧ Below w.heap.size w W') w2 from ⟨(hb1.block _ (lt_heap q0)).trans q0, (hb1.block _ (lt_heap q1)).trans q1, (hb1.block _ (lt_heap q2)).trans q2, below_on q3 hb1⟩)
    clear hb1
    go_simp
    have hS2 : ((fun W' => W'.heap[w.heap.size]? = some (.cells #[.int .i64 d1, .int .u8 76, .string s1] 41) ∧ W'.heap[w.heap.size + 1]? = some (.cells #[.int .i64 d2, .int .u8 b2, .string s2] 41) ∧ W'.heap[w.heap.size + 1 + 1]? = some (.cells #[.int .i64 0, .int .u8 0, .string ⟨#[]⟩] 41) ∧ Below w.heap.size w W') : World → Prop) _ := hSn
    refine hK _ _ (fun _ => hS2) ?_
    clear hK K
    (try simp only [Act.put, List.setIfInBounds_toArray, List.set_cons_zero, List.set_cons_succ])
    refine regN_ready (rs := [4]) (by kernel_rfl) (by simp) ?_
    refine (AllN.cons (i := 4) (l2 := #[true, true, true, true, true, false, false]) rfl rfl (fun K hK => ?_) AllN.nil)
    go_simp
    have hS3 : ((fun W' => W'.heap[w.heap.size]? = some (.cells #[.int .i64 d1, .int .u8 76, .string s1] 41) ∧ W'.heap[w.heap.size + 1]? = some (.cells #[.int .i64 d2, .int .u8 b2, .string s2] 41) ∧ W'.heap[w.heap.size + 1 + 1]? = some (.cells #[.int .i64 0, .int .u8 0, .string ⟨#[]⟩] 41) ∧ Below w.heap.size w W') : World → Prop) _ := hS2
    refine hK _ _ (fun _ => hS3) ?_
    clear hK K
    (try simp only [Act.put, List.setIfInBounds_toArray, List.set_cons_zero, List.set_cons_succ])
    refine regN_take (i := 5) (d := (some 52)) (v := ?v7x3) (l2 := #[true, true, true, true, true, true, false]) rfl rfl rfl (by kernel_rfl) (by kernel_rfl) (by kernel_rfl) (by kernel_rfl) (fun _ _ _ h => h) (by rfl) ?hv7x3 hS3 ?h7x3
    case hv7x3 => intro u hSu; clear hSu; go_simp; (try with_reducible rfl)
    (try simp only [Act.put, List.setIfInBounds_toArray, List.set_cons_zero, List.set_cons_succ])
    refine regN_ready (rs := [6]) (by kernel_rfl) (by simp) ?_
    refine (AllN.cons (i := 6) (l2 := #[true, true, true, true, true, true, true]) rfl rfl (fun K hK => ?_) AllN.nil)
    obtain ⟨q0, q1, q2, q3⟩ := hS3
    obtain ⟨xa0, xa1, xa2, fa0, fa1, fa2⟩ := three_cells q0; obtain ⟨xb0, xb1, xb2, fb0, fb1, fb2⟩ := three_cells q1; obtain ⟨xc0, xc1, xc2, fc0, fc1, fc2⟩ := three_cells q2
    go_simp
    refine hK _ _ (fun h => absurd rfl h) ?_
    clear hK K
    (try simp only [Act.put, List.setIfInBounds_toArray, List.set_cons_zero, List.set_cons_succ])
    refine regN_done (by kernel_rfl) ?_ _
    go_wp2
    refine bodyPost_ret (ty_ret rfl rfl (set_three q2)) rfl ⟨by first | rfl | (simp [hm]; done) | (simp [hm]; omega), ?_⟩
    exact below_st (below_st (below_st q3 (by simp; omega) _) (by simp; omega) _) (by simp; omega) _
  · refine regN_start (N := 6) (S := (fun W' => W'.heap[w.heap.size]? = some (.cells #[.int .i64 d1, .int .u8 76, .string s1] 41) ∧ W'.heap[w.heap.size + 1]? = some (.cells #[.int .i64 d2, .int .u8 b2, .string s2] 41) ∧ W'.heap[w.heap.size + 1 + 1]? = some (.cells #[.int .i64 0, .int .u8 0, .string ⟨#[]⟩] 41) ∧ Below w.heap.size w W')) (by kernel_rfl) ?_
    change wpAnyN _ _ _ _ _ _ _ #[false, false, false, false, false, false, false] _ (World.drew _)
    have hS0 := (show (fun W' => W'.heap[w.heap.size]? = some (.cells #[.int .i64 d1, .int .u8 76, .string s1] 41) ∧ W'.heap[w.heap.size + 1]? = some (.cells #[.int .i64 d2, .int .u8 b2, .string s2] 41) ∧ W'.heap[w.heap.size + 1 + 1]? = some (.cells #[.int .i64 0, .int .u8 0, .string ⟨#[]⟩] 41) ∧ Below w.heap.size w W') w1.drew from ⟨H0, H1, H2, hB.drew⟩)
    refine regN_take (i := 0) (d := (some 47)) (v := ?v8x1) (l2 := #[true, false, false, false, false, false, false]) rfl rfl rfl (by kernel_rfl) (by kernel_rfl) (by kernel_rfl) (by kernel_rfl) (fun _ _ _ h => h) (by rfl) ?hv8x1 hS0 ?h8x1
    case hv8x1 => rintro u ⟨q0, q1, q2, q3⟩; obtain ⟨xa0, xa1, xa2, fa0, fa1, fa2⟩ := three_cells q0; obtain ⟨xb0, xb1, xb2, fb0, fb1, fb2⟩ := three_cells q1; obtain ⟨xc0, xc1, xc2, fc0, fc1, fc2⟩ := three_cells q2; go_simp; (try with_reducible rfl)
    (try simp only [Act.put, List.setIfInBounds_toArray, List.set_cons_zero, List.set_cons_succ])
    refine regN_take (i := 2) (d := (some 49)) (v := ?v8x2) (l2 := #[true, false, true, false, false, false, false]) rfl rfl rfl (by kernel_rfl) (by kernel_rfl) (by kernel_rfl) (by kernel_rfl) (fun _ _ _ h => h) (by rfl) ?hv8x2 hS0 ?h8x2
    case hv8x2 => rintro u ⟨q0, q1, q2, q3⟩; obtain ⟨xa0, xa1, xa2, fa0, fa1, fa2⟩ := three_cells q0; obtain ⟨xb0, xb1, xb2, fb0, fb1, fb2⟩ := three_cells q1; obtain ⟨xc0, xc1, xc2, fc0, fc1, fc2⟩ := three_cells q2; go_simp; (try with_reducible rfl)
    (try simp only [Act.put, List.setIfInBounds_toArray, List.set_cons_zero, List.set_cons_succ])
    refine regN_ready (rs := [1]) (by kernel_rfl) (by simp) ?_
    refine (AllN.cons (i := 1) (l2 := #[true, true, true, false, false, false, false]) rfl rfl (fun K hK => ?_) AllN.nil)
    go_simp
    obtain ⟨q0, q1, q2, q3⟩ := hS0
    go_at_call 77
    (with_reducible refine (dp76 d1 _ _).mono ?_)
    rintro e w2 ⟨rfl, hb1⟩
    have hSn := (show (fun W' => W'.heap[w.heap.size]? = some (.cells #[.int .i64 d1, .int .u8 76, .string s1] 41) ∧ W'.heap[w.heap.size + 1]? = some (.cells #[.int .i64 d2, .int .u8 b2, .string s2] 41) ∧ W'.heap[w.heap.size + 1 + 1]? = some (.cells #[.int .i64 0, .int .u8 0, .string ⟨#[]⟩] 41) ∧ Below w.heap.size w W') w2 from ⟨(hb1.block _ (lt_heap q0)).trans q0, (hb1.block _ (lt_heap q1)).trans q1, (hb1.block _ (lt_heap q2)).trans q2, below_on q3 hb1⟩)
    clear hb1
    go_simp
    have hS1 : ((fun W' => W'.heap[w.heap.size]? = some (.cells #[.int .i64 d1, .int .u8 76, .string s1] 41) ∧ W'.heap[w.heap.size + 1]? = some (.cells #[.int .i64 d2, .int .u8 b2, .string s2] 41) ∧ W'.heap[w.heap.size + 1 + 1]? = some (.cells #[.int .i64 0, .int .u8 0, .string ⟨#[]⟩] 41) ∧ Below w.heap.size w W') : World → Prop) _ := hSn
    refine hK _ _ (fun _ => hS1) ?_
    clear hK K
    (try simp only [Act.put, List.setIfInBounds_toArray, List.set_cons_zero, List.set_cons_succ])
    refine regN_ready (rs := [3]) (by kernel_rfl) (by simp) ?_
    refine (AllN.cons (i := 3) (l2 := #[true, true, true, true, false, false, false]) rfl rfl (fun K hK => ?_) AllN.nil)
    go_simp
    obtain ⟨q0, q1, q2, q3⟩ := hS1
    go_at_call 77
    (with_reducible refine (dpN d2 b2 _ hb2 hd2 _).mono ?_)
    rintro e w2 ⟨rfl, hb1⟩
    have hSn := (show (fun W' => W'.heap[w.heap.size]? = some (.cells #[.int .i64 d1, .int .u8 76, .string s1] 41) ∧ W'.heap[w.heap.size + 1]? = some (.cells #[.int .i64 d2, .int .u8 b2, .string s2] 41) ∧ W'.heap[w.heap.size + 1 + 1]? = some (.cells #[.int .i64 0, .int .u8 0, .string ⟨#[]⟩] 41) ∧ Below w.heap.size w W') w2 from ⟨(hb1.block _ (lt_heap q0)).trans q0, (hb1.block _ (lt_heap q1)).trans q1, (hb1.block _ (lt_heap q2)).trans q2, below_on q3 hb1⟩)
    clear hb1
    go_simp
    have hS2 : ((fun W' => W'.heap[w.heap.size]? = some (.cells #[.int .i64 d1, .int .u8 76, .string s1] 41) ∧ W'.heap[w.heap.size + 1]? = some (.cells #[.int .i64 d2, .int .u8 b2, .string s2] 41) ∧ W'.heap[w.heap.size + 1 + 1]? = some (.cells #[.int .i64 0, .int .u8 0, .string ⟨#[]⟩] 41) ∧ Below w.heap.size w W') : World → Prop) _ := hSn
    refine hK _ _ (fun _ => hS2) ?_
    clear hK K
    (try simp only [Act.put, List.setIfInBounds_toArray, List.set_cons_zero, List.set_cons_succ])
    refine regN_ready (rs := [4]) (by kernel_rfl) (by simp) ?_
    refine (AllN.cons (i := 4) (l2 := #[true, true, true, true, true, false, false]) rfl rfl (fun K hK => ?_) AllN.nil)
    go_simp
    have hS3 : ((fun W' => W'.heap[w.heap.size]? = some (.cells #[.int .i64 d1, .int .u8 76, .string s1] 41) ∧ W'.heap[w.heap.size + 1]? = some (.cells #[.int .i64 d2, .int .u8 b2, .string s2] 41) ∧ W'.heap[w.heap.size + 1 + 1]? = some (.cells #[.int .i64 0, .int .u8 0, .string ⟨#[]⟩] 41) ∧ Below w.heap.size w W') : World → Prop) _ := hS2
    refine hK _ _ (fun _ => hS3) ?_
    clear hK K
    (try simp only [Act.put, List.setIfInBounds_toArray, List.set_cons_zero, List.set_cons_succ])
    refine regN_take (i := 5) (d := (some 52)) (v := ?v8x3) (l2 := #[true, true, true, true, true, true, false]) rfl rfl rfl (by kernel_rfl) (by kernel_rfl) (by kernel_rfl) (by kernel_rfl) (fun _ _ _ h => h) (by rfl) ?hv8x3 hS3 ?h8x3
    case hv8x3 => intro u hSu; clear hSu; go_simp; (try with_reducible rfl)
    (try simp only [Act.put, List.setIfInBounds_toArray, List.set_cons_zero, List.set_cons_succ])
    refine regN_ready (rs := [6]) (by kernel_rfl) (by simp) ?_
    refine (AllN.cons (i := 6) (l2 := #[true, true, true, true, true, true, true]) rfl rfl (fun K hK => ?_) AllN.nil)
    obtain ⟨q0, q1, q2, q3⟩ := hS3
    obtain ⟨xa0, xa1, xa2, fa0, fa1, fa2⟩ := three_cells q0; obtain ⟨xb0, xb1, xb2, fb0, fb1, fb2⟩ := three_cells q1; obtain ⟨xc0, xc1, xc2, fc0, fc1, fc2⟩ := three_cells q2
    go_simp
    refine hK _ _ (fun h => absurd rfl h) ?_
    clear hK K
    (try simp only [Act.put, List.setIfInBounds_toArray, List.set_cons_zero, List.set_cons_succ])
    refine regN_done (by kernel_rfl) ?_ _
    go_wp2
    refine bodyPost_ret (ty_ret rfl rfl (set_three q2)) rfl ⟨by first | rfl | (simp [hm]; done) | (simp [hm]; omega), ?_⟩
    exact below_st (below_st (below_st q3 (by simp; omega) _) (by simp; omega) _) (by simp; omega) _
set_option maxRecDepth 100000 in
set_option maxHeartbeats 4000000 in
theorem mty_52 (V : Value) (d1 d2 b1 : Int) (s1 s2 : ByteArray) (w : World) (h1 : (TY.mk d1 b1 s1).ref = true) (h2 : (TY.mk d2 76 s2).ref = true) (hb1 : ¬ b1 = 76) (hd1 : 0 ≤ d1 ∧ d1 ≤ 8) (hd2 : 0 ≤ d2 ∧ d2 ≤ 8) (hE : tyE (TY.mk d1 b1 s1) (TY.mk d2 76 s2) = false) :
    Calls Tryd.prog 42 #[V, .agg #[.int .i64 d1, .int .u8 b1, .string s1], .agg #[.int .i64 d2, .int .u8 76, .string s2]] w (TyRet w ⟨if d2 < d1 - 1 then d2 else d1 - 1, 76, rootS⟩) := by
  have e1 := fun w => ty_eqP hE w
  go_enter Tryd.func42, Tryd.ntmps42
  go_upto_region 1 with fail
  obtain ⟨H0, H1, H2, hB, hz⟩ := three_laid w (.cells #[.int .i64 d1, .int .u8 b1, .string s1] 41) (.cells #[.int .i64 d2, .int .u8 76, .string s2] 41) (.cells #[.int .i64 0, .int .u8 0, .string ⟨#[]⟩] 41)
  generalize ((w.alloc (.cells #[.int .i64 d1, .int .u8 b1, .string s1] 41)).alloc (.cells #[.int .i64 d2, .int .u8 76, .string s2] 41)).alloc (.cells #[.int .i64 0, .int .u8 0, .string ⟨#[]⟩] 41) = W at H0 H1 H2 hB hz ⊢
  obtain ⟨xa0, xa1, xa2, fa0, fa1, fa2⟩ := three_cells H0; obtain ⟨xb0, xb1, xb2, fb0, fb1, fb2⟩ := three_cells H1; obtain ⟨xc0, xc1, xc2, fc0, fc1, fc2⟩ := three_cells H2
  go_upto_region 7 with (first | (go_at_call 76; (with_reducible refine (isrP d1 b1 s1 _ h1 _).mono ?_); rintro e w1 ⟨rfl, hb1⟩; replace H0 := (hb1.block _ (lt_heap H0)).trans H0; replace H1 := (hb1.block _ (lt_heap H1)).trans H1; replace H2 := (hb1.block _ (lt_heap H2)).trans H2; replace hB := below_on hB hb1; clear hb1 xa0 xa1 xa2 fa0 fa1 fa2 xb0 xb1 xb2 fb0 fb1 fb2 xc0 xc1 xc2 fc0 fc1 fc2; obtain ⟨xa0, xa1, xa2, fa0, fa1, fa2⟩ := three_cells H0; obtain ⟨xb0, xb1, xb2, fb0, fb1, fb2⟩ := three_cells H1; obtain ⟨xc0, xc1, xc2, fc0, fc1, fc2⟩ := three_cells H2) | (go_at_call 76; (with_reducible refine (isrP d2 76 s2 _ h2 _).mono ?_); rintro e w1 ⟨rfl, hb1⟩; replace H0 := (hb1.block _ (lt_heap H0)).trans H0; replace H1 := (hb1.block _ (lt_heap H1)).trans H1; replace H2 := (hb1.block _ (lt_heap H2)).trans H2; replace hB := below_on hB hb1; clear hb1 xa0 xa1 xa2 fa0 fa1 fa2 xb0 xb1 xb2 fb0 fb1 fb2 xc0 xc1 xc2 fc0 fc1 fc2; obtain ⟨xa0, xa1, xa2, fa0, fa1, fa2⟩ := three_cells H0; obtain ⟨xb0, xb1, xb2, fb0, fb1, fb2⟩ := three_cells H1; obtain ⟨xc0, xc1, xc2, fc0, fc1, fc2⟩ := three_cells H2))
  clear xa0 xa1 xa2 fa0 fa1 fa2 xb0 xb1 xb2 fb0 fb1 fb2 xc0 xc1 xc2 fc0 fc1 fc2 hz h1 h2 e1
  by_cases hm : d2 < d1 - 1
  · refine regN_start (N := 6) (S := (fun W' => W'.heap[w.heap.size]? = some (.cells #[.int .i64 d1, .int .u8 b1, .string s1] 41) ∧ W'.heap[w.heap.size + 1]? = some (.cells #[.int .i64 d2, .int .u8 76, .string s2] 41) ∧ W'.heap[w.heap.size + 1 + 1]? = some (.cells #[.int .i64 0, .int .u8 0, .string ⟨#[]⟩] 41) ∧ Below w.heap.size w W')) (by kernel_rfl) ?_
    change wpAnyN _ _ _ _ _ _ _ #[false, false, false, false, false, false, false] _ (World.drew _)
    have hS0 := (show (fun W' => W'.heap[w.heap.size]? = some (.cells #[.int .i64 d1, .int .u8 b1, .string s1] 41) ∧ W'.heap[w.heap.size + 1]? = some (.cells #[.int .i64 d2, .int .u8 76, .string s2] 41) ∧ W'.heap[w.heap.size + 1 + 1]? = some (.cells #[.int .i64 0, .int .u8 0, .string ⟨#[]⟩] 41) ∧ Below w.heap.size w W') w1.drew from ⟨H0, H1, H2, hB.drew⟩)
    refine regN_take (i := 0) (d := (some 47)) (v := ?v7x1) (l2 := #[true, false, false, false, false, false, false]) rfl rfl rfl (by kernel_rfl) (by kernel_rfl) (by kernel_rfl) (by kernel_rfl) (fun _ _ _ h => h) (by rfl) ?hv7x1 hS0 ?h7x1
    case hv7x1 => rintro u ⟨q0, q1, q2, q3⟩; obtain ⟨xa0, xa1, xa2, fa0, fa1, fa2⟩ := three_cells q0; obtain ⟨xb0, xb1, xb2, fb0, fb1, fb2⟩ := three_cells q1; obtain ⟨xc0, xc1, xc2, fc0, fc1, fc2⟩ := three_cells q2; go_simp; (try with_reducible rfl)
    (try simp only [Act.put, List.setIfInBounds_toArray, List.set_cons_zero, List.set_cons_succ])
    refine regN_take (i := 2) (d := (some 49)) (v := ?v7x2) (l2 := #[true, false, true, false, false, false, false]) rfl rfl rfl (by kernel_rfl) (by kernel_rfl) (by kernel_rfl) (by kernel_rfl) (fun _ _ _ h => h) (by rfl) ?hv7x2 hS0 ?h7x2
    case hv7x2 => rintro u ⟨q0, q1, q2, q3⟩; obtain ⟨xa0, xa1, xa2, fa0, fa1, fa2⟩ := three_cells q0; obtain ⟨xb0, xb1, xb2, fb0, fb1, fb2⟩ := three_cells q1; obtain ⟨xc0, xc1, xc2, fc0, fc1, fc2⟩ := three_cells q2; go_simp; (try with_reducible rfl)
    (try simp only [Act.put, List.setIfInBounds_toArray, List.set_cons_zero, List.set_cons_succ])
    refine regN_ready (rs := [1]) (by kernel_rfl) (by simp) ?_
    refine (AllN.cons (i := 1) (l2 := #[true, true, true, false, false, false, false]) rfl rfl (fun K hK => ?_) AllN.nil)
    go_simp
    obtain ⟨q0, q1, q2, q3⟩ := hS0
    go_at_call 77
    (with_reducible refine (dpN d1 b1 _ hb1 hd1 _).mono ?_)
    rintro e w2 ⟨rfl, hb1⟩
    have hSn := (show (fun W' => W'.heap[w.heap.size]? = some (.cells #[.int .i64 d1, .int .u8 b1, .string s1] 41) ∧ W'.heap[w.heap.size + 1]? = some (.cells #[.int .i64 d2, .int .u8 76, .string s2] 41) ∧ W'.heap[w.heap.size + 1 + 1]? = some (.cells #[.int .i64 0, .int .u8 0, .string ⟨#[]⟩] 41) ∧ Below w.heap.size w W') w2 from ⟨(hb1.block _ (lt_heap q0)).trans q0, (hb1.block _ (lt_heap q1)).trans q1, (hb1.block _ (lt_heap q2)).trans q2, below_on q3 hb1⟩)
    clear hb1
    go_simp
    have hS1 : ((fun W' => W'.heap[w.heap.size]? = some (.cells #[.int .i64 d1, .int .u8 b1, .string s1] 41) ∧ W'.heap[w.heap.size + 1]? = some (.cells #[.int .i64 d2, .int .u8 76, .string s2] 41) ∧ W'.heap[w.heap.size + 1 + 1]? = some (.cells #[.int .i64 0, .int .u8 0, .string ⟨#[]⟩] 41) ∧ Below w.heap.size w W') : World → Prop) _ := hSn
    refine hK _ _ (fun _ => hS1) ?_
    clear hK K
    (try simp only [Act.put, List.setIfInBounds_toArray, List.set_cons_zero, List.set_cons_succ])
    refine regN_ready (rs := [3]) (by kernel_rfl) (by simp) ?_
    refine (AllN.cons (i := 3) (l2 := #[true, true, true, true, false, false, false]) rfl rfl (fun K hK => ?_) AllN.nil)
    go_simp
    obtain ⟨q0, q1, q2, q3⟩ := hS1
    go_at_call 77
    (with_reducible refine (dp76 d2 _ _).mono ?_)
    rintro e w2 ⟨rfl, hb1⟩
    have hSn := (show (fun W' => W'.heap[w.heap.size]? = some (.cells #[.int .i64 d1, .int .u8 b1, .string s1] 41) ∧ W'.heap[w.heap.size + 1]? = some (.cells #[.int .i64 d2, .int .u8 76, .string s2] 41) ∧ W'.heap[w.heap.size + 1 + 1]? = some (.cells #[.int .i64 0, .int .u8 0, .string ⟨#[]⟩] 41) ∧ Below w.heap.size w W') w2 from ⟨(hb1.block _ (lt_heap q0)).trans q0, (hb1.block _ (lt_heap q1)).trans q1, (hb1.block _ (lt_heap q2)).trans q2, below_on q3 hb1⟩)
    clear hb1
    go_simp
    have hS2 : ((fun W' => W'.heap[w.heap.size]? = some (.cells #[.int .i64 d1, .int .u8 b1, .string s1] 41) ∧ W'.heap[w.heap.size + 1]? = some (.cells #[.int .i64 d2, .int .u8 76, .string s2] 41) ∧ W'.heap[w.heap.size + 1 + 1]? = some (.cells #[.int .i64 0, .int .u8 0, .string ⟨#[]⟩] 41) ∧ Below w.heap.size w W') : World → Prop) _ := hSn
    refine hK _ _ (fun _ => hS2) ?_
    clear hK K
    (try simp only [Act.put, List.setIfInBounds_toArray, List.set_cons_zero, List.set_cons_succ])
    refine regN_ready (rs := [4]) (by kernel_rfl) (by simp) ?_
    refine (AllN.cons (i := 4) (l2 := #[true, true, true, true, true, false, false]) rfl rfl (fun K hK => ?_) AllN.nil)
    go_simp
    have hS3 : ((fun W' => W'.heap[w.heap.size]? = some (.cells #[.int .i64 d1, .int .u8 b1, .string s1] 41) ∧ W'.heap[w.heap.size + 1]? = some (.cells #[.int .i64 d2, .int .u8 76, .string s2] 41) ∧ W'.heap[w.heap.size + 1 + 1]? = some (.cells #[.int .i64 0, .int .u8 0, .string ⟨#[]⟩] 41) ∧ Below w.heap.size w W') : World → Prop) _ := hS2
    refine hK _ _ (fun _ => hS3) ?_
    clear hK K
    (try simp only [Act.put, List.setIfInBounds_toArray, List.set_cons_zero, List.set_cons_succ])
    refine regN_take (i := 5) (d := (some 52)) (v := ?v7x3) (l2 := #[true, true, true, true, true, true, false]) rfl rfl rfl (by kernel_rfl) (by kernel_rfl) (by kernel_rfl) (by kernel_rfl) (fun _ _ _ h => h) (by rfl) ?hv7x3 hS3 ?h7x3
    case hv7x3 => intro u hSu; clear hSu; go_simp; (try with_reducible rfl)
    (try simp only [Act.put, List.setIfInBounds_toArray, List.set_cons_zero, List.set_cons_succ])
    refine regN_ready (rs := [6]) (by kernel_rfl) (by simp) ?_
    refine (AllN.cons (i := 6) (l2 := #[true, true, true, true, true, true, true]) rfl rfl (fun K hK => ?_) AllN.nil)
    obtain ⟨q0, q1, q2, q3⟩ := hS3
    obtain ⟨xa0, xa1, xa2, fa0, fa1, fa2⟩ := three_cells q0; obtain ⟨xb0, xb1, xb2, fb0, fb1, fb2⟩ := three_cells q1; obtain ⟨xc0, xc1, xc2, fc0, fc1, fc2⟩ := three_cells q2
    go_simp
    refine hK _ _ (fun h => absurd rfl h) ?_
    clear hK K
    (try simp only [Act.put, List.setIfInBounds_toArray, List.set_cons_zero, List.set_cons_succ])
    refine regN_done (by kernel_rfl) ?_ _
    go_wp2
    refine bodyPost_ret (ty_ret rfl rfl (set_three q2)) rfl ⟨by first | rfl | (simp [hm]; done) | (simp [hm]; omega), ?_⟩
    exact below_st (below_st (below_st q3 (by simp; omega) _) (by simp; omega) _) (by simp; omega) _
  · refine regN_start (N := 6) (S := (fun W' => W'.heap[w.heap.size]? = some (.cells #[.int .i64 d1, .int .u8 b1, .string s1] 41) ∧ W'.heap[w.heap.size + 1]? = some (.cells #[.int .i64 d2, .int .u8 76, .string s2] 41) ∧ W'.heap[w.heap.size + 1 + 1]? = some (.cells #[.int .i64 0, .int .u8 0, .string ⟨#[]⟩] 41) ∧ Below w.heap.size w W')) (by kernel_rfl) ?_
    change wpAnyN _ _ _ _ _ _ _ #[false, false, false, false, false, false, false] _ (World.drew _)
    have hS0 := (show (fun W' => W'.heap[w.heap.size]? = some (.cells #[.int .i64 d1, .int .u8 b1, .string s1] 41) ∧ W'.heap[w.heap.size + 1]? = some (.cells #[.int .i64 d2, .int .u8 76, .string s2] 41) ∧ W'.heap[w.heap.size + 1 + 1]? = some (.cells #[.int .i64 0, .int .u8 0, .string ⟨#[]⟩] 41) ∧ Below w.heap.size w W') w1.drew from ⟨H0, H1, H2, hB.drew⟩)
    refine regN_take (i := 0) (d := (some 47)) (v := ?v8x1) (l2 := #[true, false, false, false, false, false, false]) rfl rfl rfl (by kernel_rfl) (by kernel_rfl) (by kernel_rfl) (by kernel_rfl) (fun _ _ _ h => h) (by rfl) ?hv8x1 hS0 ?h8x1
    case hv8x1 => rintro u ⟨q0, q1, q2, q3⟩; obtain ⟨xa0, xa1, xa2, fa0, fa1, fa2⟩ := three_cells q0; obtain ⟨xb0, xb1, xb2, fb0, fb1, fb2⟩ := three_cells q1; obtain ⟨xc0, xc1, xc2, fc0, fc1, fc2⟩ := three_cells q2; go_simp; (try with_reducible rfl)
    (try simp only [Act.put, List.setIfInBounds_toArray, List.set_cons_zero, List.set_cons_succ])
    refine regN_take (i := 2) (d := (some 49)) (v := ?v8x2) (l2 := #[true, false, true, false, false, false, false]) rfl rfl rfl (by kernel_rfl) (by kernel_rfl) (by kernel_rfl) (by kernel_rfl) (fun _ _ _ h => h) (by rfl) ?hv8x2 hS0 ?h8x2
    case hv8x2 => rintro u ⟨q0, q1, q2, q3⟩; obtain ⟨xa0, xa1, xa2, fa0, fa1, fa2⟩ := three_cells q0; obtain ⟨xb0, xb1, xb2, fb0, fb1, fb2⟩ := three_cells q1; obtain ⟨xc0, xc1, xc2, fc0, fc1, fc2⟩ := three_cells q2; go_simp; (try with_reducible rfl)
    (try simp only [Act.put, List.setIfInBounds_toArray, List.set_cons_zero, List.set_cons_succ])
    refine regN_ready (rs := [1]) (by kernel_rfl) (by simp) ?_
    refine (AllN.cons (i := 1) (l2 := #[true, true, true, false, false, false, false]) rfl rfl (fun K hK => ?_) AllN.nil)
    go_simp
    obtain ⟨q0, q1, q2, q3⟩ := hS0
    go_at_call 77
    (with_reducible refine (dpN d1 b1 _ hb1 hd1 _).mono ?_)
    rintro e w2 ⟨rfl, hb1⟩
    have hSn := (show (fun W' => W'.heap[w.heap.size]? = some (.cells #[.int .i64 d1, .int .u8 b1, .string s1] 41) ∧ W'.heap[w.heap.size + 1]? = some (.cells #[.int .i64 d2, .int .u8 76, .string s2] 41) ∧ W'.heap[w.heap.size + 1 + 1]? = some (.cells #[.int .i64 0, .int .u8 0, .string ⟨#[]⟩] 41) ∧ Below w.heap.size w W') w2 from ⟨(hb1.block _ (lt_heap q0)).trans q0, (hb1.block _ (lt_heap q1)).trans q1, (hb1.block _ (lt_heap q2)).trans q2, below_on q3 hb1⟩)
    clear hb1
    go_simp
    have hS1 : ((fun W' => W'.heap[w.heap.size]? = some (.cells #[.int .i64 d1, .int .u8 b1, .string s1] 41) ∧ W'.heap[w.heap.size + 1]? = some (.cells #[.int .i64 d2, .int .u8 76, .string s2] 41) ∧ W'.heap[w.heap.size + 1 + 1]? = some (.cells #[.int .i64 0, .int .u8 0, .string ⟨#[]⟩] 41) ∧ Below w.heap.size w W') : World → Prop) _ := hSn
    refine hK _ _ (fun _ => hS1) ?_
    clear hK K
    (try simp only [Act.put, List.setIfInBounds_toArray, List.set_cons_zero, List.set_cons_succ])
    refine regN_ready (rs := [3]) (by kernel_rfl) (by simp) ?_
    refine (AllN.cons (i := 3) (l2 := #[true, true, true, true, false, false, false]) rfl rfl (fun K hK => ?_) AllN.nil)
    go_simp
    obtain ⟨q0, q1, q2, q3⟩ := hS1
    go_at_call 77
    (with_reducible refine (dp76 d2 _ _).mono ?_)
    rintro e w2 ⟨rfl, hb1⟩
    have hSn := (show (fun W' => W'.heap[w.heap.size]? = some (.cells #[.int .i64 d1, .int .u8 b1, .string s1] 41) ∧ W'.heap[w.heap.size + 1]? = some (.cells #[.int .i64 d2, .int .u8 76, .string s2] 41) ∧ W'.heap[w.heap.size + 1 + 1]? = some (.cells #[.int .i64 0, .int .u8 0, .string ⟨#[]⟩] 41) ∧ Below w.heap.size w W') w2 from ⟨(hb1.block _ (lt_heap q0)).trans q0, (hb1.block _ (lt_heap q1)).trans q1, (hb1.block _ (lt_heap q2)).trans q2, below_on q3 hb1⟩)
    clear hb1
    go_simp
    have hS2 : ((fun W' => W'.heap[w.heap.size]? = some (.cells #[.int .i64 d1, .int .u8 b1, .string s1] 41) ∧ W'.heap[w.heap.size + 1]? = some (.cells #[.int .i64 d2, .int .u8 76, .string s2] 41) ∧ W'.heap[w.heap.size + 1 + 1]? = some (.cells #[.int .i64 0, .int .u8 0, .string ⟨#[]⟩] 41) ∧ Below w.heap.size w W') : World → Prop) _ := hSn
    refine hK _ _ (fun _ => hS2) ?_
    clear hK K
    (try simp only [Act.put, List.setIfInBounds_toArray, List.set_cons_zero, List.set_cons_succ])
    refine regN_ready (rs := [4]) (by kernel_rfl) (by simp) ?_
    refine (AllN.cons (i := 4) (l2 := #[true, true, true, true, true, false, false]) rfl rfl (fun K hK => ?_) AllN.nil)
    go_simp
    have hS3 : ((fun W' => W'.heap[w.heap.size]? = some (.cells #[.int .i64 d1, .int .u8 b1, .string s1] 41) ∧ W'.heap[w.heap.size + 1]? = some (.cells #[.int .i64 d2, .int .u8 76, .string s2] 41) ∧ W'.heap[w.heap.size + 1 + 1]? = some (.cells #[.int .i64 0, .int .u8 0, .string ⟨#[]⟩] 41) ∧ Below w.heap.size w W') : World → Prop) _ := hS2
    refine hK _ _ (fun _ => hS3) ?_
    clear hK K
    (try simp only [Act.put, List.setIfInBounds_toArray, List.set_cons_zero, List.set_cons_succ])
    refine regN_take (i := 5) (d := (some 52)) (v := ?v8x3) (l2 := #[true, true, true, true, true, true, false]) rfl rfl rfl (by kernel_rfl) (by kernel_rfl) (by kernel_rfl) (by kernel_rfl) (fun _ _ _ h => h) (by rfl) ?hv8x3 hS3 ?h8x3
    case hv8x3 => intro u hSu; clear hSu; go_simp; (try with_reducible rfl)
    (try simp only [Act.put, List.setIfInBounds_toArray, List.set_cons_zero, List.set_cons_succ])
    refine regN_ready (rs := [6]) (by kernel_rfl) (by simp) ?_
    refine (AllN.cons (i := 6) (l2 := #[true, true, true, true, true, true, true]) rfl rfl (fun K hK => ?_) AllN.nil)
    obtain ⟨q0, q1, q2, q3⟩ := hS3
    obtain ⟨xa0, xa1, xa2, fa0, fa1, fa2⟩ := three_cells q0; obtain ⟨xb0, xb1, xb2, fb0, fb1, fb2⟩ := three_cells q1; obtain ⟨xc0, xc1, xc2, fc0, fc1, fc2⟩ := three_cells q2
    go_simp
    refine hK _ _ (fun h => absurd rfl h) ?_
    clear hK K
    (try simp only [Act.put, List.setIfInBounds_toArray, List.set_cons_zero, List.set_cons_succ])
    refine regN_done (by kernel_rfl) ?_ _
    go_wp2
    refine bodyPost_ret (ty_ret rfl rfl (set_three q2)) rfl ⟨by first | rfl | (simp [hm]; done) | (simp [hm]; omega), ?_⟩
    exact below_st (below_st (below_st q3 (by simp; omega) _) (by simp; omega) _) (by simp; omega) _
set_option maxRecDepth 100000 in
set_option maxHeartbeats 4000000 in
theorem mty_53 (V : Value) (d1 d2 b1 b2 : Int) (s1 s2 : ByteArray) (w : World) (h1 : (TY.mk d1 b1 s1).ref = true) (h2 : (TY.mk d2 b2 s2).ref = true) (hb1 : ¬ b1 = 76) (hb2 : ¬ b2 = 76) (hd1 : 0 ≤ d1 ∧ d1 ≤ 8) (hd2 : 0 ≤ d2 ∧ d2 ≤ 8) (hE : tyE (TY.mk d1 b1 s1) (TY.mk d2 b2 s2) = false) :
    Calls Tryd.prog 42 #[V, .agg #[.int .i64 d1, .int .u8 b1, .string s1], .agg #[.int .i64 d2, .int .u8 b2, .string s2]] w (TyRet w ⟨if d2 - 1 < d1 - 1 then d2 - 1 else d1 - 1, 76, rootS⟩) := by
  have e1 := fun w => ty_eqP hE w
  go_enter Tryd.func42, Tryd.ntmps42
  go_upto_region 1 with fail
  obtain ⟨H0, H1, H2, hB, hz⟩ := three_laid w (.cells #[.int .i64 d1, .int .u8 b1, .string s1] 41) (.cells #[.int .i64 d2, .int .u8 b2, .string s2] 41) (.cells #[.int .i64 0, .int .u8 0, .string ⟨#[]⟩] 41)
  generalize ((w.alloc (.cells #[.int .i64 d1, .int .u8 b1, .string s1] 41)).alloc (.cells #[.int .i64 d2, .int .u8 b2, .string s2] 41)).alloc (.cells #[.int .i64 0, .int .u8 0, .string ⟨#[]⟩] 41) = W at H0 H1 H2 hB hz ⊢
  obtain ⟨xa0, xa1, xa2, fa0, fa1, fa2⟩ := three_cells H0; obtain ⟨xb0, xb1, xb2, fb0, fb1, fb2⟩ := three_cells H1; obtain ⟨xc0, xc1, xc2, fc0, fc1, fc2⟩ := three_cells H2
  go_upto_region 7 with (first | (go_at_call 76; (with_reducible refine (isrP d1 b1 s1 _ h1 _).mono ?_); rintro e w1 ⟨rfl, hb1⟩; replace H0 := (hb1.block _ (lt_heap H0)).trans H0; replace H1 := (hb1.block _ (lt_heap H1)).trans H1; replace H2 := (hb1.block _ (lt_heap H2)).trans H2; replace hB := below_on hB hb1; clear hb1 xa0 xa1 xa2 fa0 fa1 fa2 xb0 xb1 xb2 fb0 fb1 fb2 xc0 xc1 xc2 fc0 fc1 fc2; obtain ⟨xa0, xa1, xa2, fa0, fa1, fa2⟩ := three_cells H0; obtain ⟨xb0, xb1, xb2, fb0, fb1, fb2⟩ := three_cells H1; obtain ⟨xc0, xc1, xc2, fc0, fc1, fc2⟩ := three_cells H2) | (go_at_call 76; (with_reducible refine (isrP d2 b2 s2 _ h2 _).mono ?_); rintro e w1 ⟨rfl, hb1⟩; replace H0 := (hb1.block _ (lt_heap H0)).trans H0; replace H1 := (hb1.block _ (lt_heap H1)).trans H1; replace H2 := (hb1.block _ (lt_heap H2)).trans H2; replace hB := below_on hB hb1; clear hb1 xa0 xa1 xa2 fa0 fa1 fa2 xb0 xb1 xb2 fb0 fb1 fb2 xc0 xc1 xc2 fc0 fc1 fc2; obtain ⟨xa0, xa1, xa2, fa0, fa1, fa2⟩ := three_cells H0; obtain ⟨xb0, xb1, xb2, fb0, fb1, fb2⟩ := three_cells H1; obtain ⟨xc0, xc1, xc2, fc0, fc1, fc2⟩ := three_cells H2))
  clear xa0 xa1 xa2 fa0 fa1 fa2 xb0 xb1 xb2 fb0 fb1 fb2 xc0 xc1 xc2 fc0 fc1 fc2 hz h1 h2 e1
  by_cases hm : d2 - 1 < d1 - 1
  · refine regN_start (N := 6) (S := (fun W' => W'.heap[w.heap.size]? = some (.cells #[.int .i64 d1, .int .u8 b1, .string s1] 41) ∧ W'.heap[w.heap.size + 1]? = some (.cells #[.int .i64 d2, .int .u8 b2, .string s2] 41) ∧ W'.heap[w.heap.size + 1 + 1]? = some (.cells #[.int .i64 0, .int .u8 0, .string ⟨#[]⟩] 41) ∧ Below w.heap.size w W')) (by kernel_rfl) ?_
    change wpAnyN _ _ _ _ _ _ _ #[false, false, false, false, false, false, false] _ (World.drew _)
    have hS0 := (show (fun W' => W'.heap[w.heap.size]? = some (.cells #[.int .i64 d1, .int .u8 b1, .string s1] 41) ∧ W'.heap[w.heap.size + 1]? = some (.cells #[.int .i64 d2, .int .u8 b2, .string s2] 41) ∧ W'.heap[w.heap.size + 1 + 1]? = some (.cells #[.int .i64 0, .int .u8 0, .string ⟨#[]⟩] 41) ∧ Below w.heap.size w W') w1.drew from ⟨H0, H1, H2, hB.drew⟩)
    refine regN_take (i := 0) (d := (some 47)) (v := ?v7x1) (l2 := #[true, false, false, false, false, false, false]) rfl rfl rfl (by kernel_rfl) (by kernel_rfl) (by kernel_rfl) (by kernel_rfl) (fun _ _ _ h => h) (by rfl) ?hv7x1 hS0 ?h7x1
    case hv7x1 => rintro u ⟨q0, q1, q2, q3⟩; obtain ⟨xa0, xa1, xa2, fa0, fa1, fa2⟩ := three_cells q0; obtain ⟨xb0, xb1, xb2, fb0, fb1, fb2⟩ := three_cells q1; obtain ⟨xc0, xc1, xc2, fc0, fc1, fc2⟩ := three_cells q2; go_simp; (try with_reducible rfl)
    (try simp only [Act.put, List.setIfInBounds_toArray, List.set_cons_zero, List.set_cons_succ])
    refine regN_take (i := 2) (d := (some 49)) (v := ?v7x2) (l2 := #[true, false, true, false, false, false, false]) rfl rfl rfl (by kernel_rfl) (by kernel_rfl) (by kernel_rfl) (by kernel_rfl) (fun _ _ _ h => h) (by rfl) ?hv7x2 hS0 ?h7x2
    case hv7x2 => rintro u ⟨q0, q1, q2, q3⟩; obtain ⟨xa0, xa1, xa2, fa0, fa1, fa2⟩ := three_cells q0; obtain ⟨xb0, xb1, xb2, fb0, fb1, fb2⟩ := three_cells q1; obtain ⟨xc0, xc1, xc2, fc0, fc1, fc2⟩ := three_cells q2; go_simp; (try with_reducible rfl)
    (try simp only [Act.put, List.setIfInBounds_toArray, List.set_cons_zero, List.set_cons_succ])
    refine regN_ready (rs := [1]) (by kernel_rfl) (by simp) ?_
    refine (AllN.cons (i := 1) (l2 := #[true, true, true, false, false, false, false]) rfl rfl (fun K hK => ?_) AllN.nil)
    go_simp
    obtain ⟨q0, q1, q2, q3⟩ := hS0
    go_at_call 77
    (with_reducible refine (dpN d1 b1 _ hb1 hd1 _).mono ?_)
    rintro e w2 ⟨rfl, hb1⟩
    have hSn := (show (fun W' => W'.heap[w.heap.size]? = some (.cells #[.int .i64 d1, .int .u8 b1, .string s1] 41) ∧ W'.heap[w.heap.size + 1]? = some (.cells #[.int .i64 d2, .int .u8 b2, .string s2] 41) ∧ W'.heap[w.heap.size + 1 + 1]? = some (.cells #[.int .i64 0, .int .u8 0, .string ⟨#[]⟩] 41) ∧ Below w.heap.size w W') w2 from ⟨(hb1.block _ (lt_heap q0)).trans q0, (hb1.block _ (lt_heap q1)).trans q1, (hb1.block _ (lt_heap q2)).trans q2, below_on q3 hb1⟩)
    clear hb1
    go_simp
    have hS1 : ((fun W' => W'.heap[w.heap.size]? = some (.cells #[.int .i64 d1, .int .u8 b1, .string s1] 41) ∧ W'.heap[w.heap.size + 1]? = some (.cells #[.int .i64 d2, .int .u8 b2, .string s2] 41) ∧ W'.heap[w.heap.size + 1 + 1]? = some (.cells #[.int .i64 0, .int .u8 0, .string ⟨#[]⟩] 41) ∧ Below w.heap.size w W') : World → Prop) _ := hSn
    refine hK _ _ (fun _ => hS1) ?_
    clear hK K
    (try simp only [Act.put, List.setIfInBounds_toArray, List.set_cons_zero, List.set_cons_succ])
    refine regN_ready (rs := [3]) (by kernel_rfl) (by simp) ?_
    refine (AllN.cons (i := 3) (l2 := #[true, true, true, true, false, false, false]) rfl rfl (fun K hK => ?_) AllN.nil)
    go_simp
    obtain ⟨q0, q1, q2, q3⟩ := hS1
    go_at_call 77
    (with_reducible refine (dpN d2 b2 _ hb2 hd2 _).mono ?_)
    rintro e w2 ⟨rfl, hb1⟩
    have hSn := (show (fun W' => W'.heap[w.heap.size]? = some (.cells #[.int .i64 d1, .int .u8 b1, .string s1] 41) ∧ W'.heap[w.heap.size + 1]? = some (.cells #[.int .i64 d2, .int .u8 b2, .string s2] 41) ∧ W'.heap[w.heap.size + 1 + 1]? = some (.cells #[.int .i64 0, .int .u8 0, .string ⟨#[]⟩] 41) ∧ Below w.heap.size w W') w2 from ⟨(hb1.block _ (lt_heap q0)).trans q0, (hb1.block _ (lt_heap q1)).trans q1, (hb1.block _ (lt_heap q2)).trans q2, below_on q3 hb1⟩)
    clear hb1
    go_simp
    have hS2 : ((fun W' => W'.heap[w.heap.size]? = some (.cells #[.int .i64 d1, .int .u8 b1, .string s1] 41) ∧ W'.heap[w.heap.size + 1]? = some (.cells #[.int .i64 d2, .int .u8 b2, .string s2] 41) ∧ W'.heap[w.heap.size + 1 + 1]? = some (.cells #[.int .i64 0, .int .u8 0, .string ⟨#[]⟩] 41) ∧ Below w.heap.size w W') : World → Prop) _ := hSn
    refine hK _ _ (fun _ => hS2) ?_
    clear hK K
    (try simp only [Act.put, List.setIfInBounds_toArray, List.set_cons_zero, List.set_cons_succ])
    refine regN_ready (rs := [4]) (by kernel_rfl) (by simp) ?_
    refine (AllN.cons (i := 4) (l2 := #[true, true, true, true, true, false, false]) rfl rfl (fun K hK => ?_) AllN.nil)
    go_simp
    have hS3 : ((fun W' => W'.heap[w.heap.size]? = some (.cells #[.int .i64 d1, .int .u8 b1, .string s1] 41) ∧ W'.heap[w.heap.size + 1]? = some (.cells #[.int .i64 d2, .int .u8 b2, .string s2] 41) ∧ W'.heap[w.heap.size + 1 + 1]? = some (.cells #[.int .i64 0, .int .u8 0, .string ⟨#[]⟩] 41) ∧ Below w.heap.size w W') : World → Prop) _ := hS2
    refine hK _ _ (fun _ => hS3) ?_
    clear hK K
    (try simp only [Act.put, List.setIfInBounds_toArray, List.set_cons_zero, List.set_cons_succ])
    refine regN_take (i := 5) (d := (some 52)) (v := ?v7x3) (l2 := #[true, true, true, true, true, true, false]) rfl rfl rfl (by kernel_rfl) (by kernel_rfl) (by kernel_rfl) (by kernel_rfl) (fun _ _ _ h => h) (by rfl) ?hv7x3 hS3 ?h7x3
    case hv7x3 => intro u hSu; clear hSu; go_simp; (try with_reducible rfl)
    (try simp only [Act.put, List.setIfInBounds_toArray, List.set_cons_zero, List.set_cons_succ])
    refine regN_ready (rs := [6]) (by kernel_rfl) (by simp) ?_
    refine (AllN.cons (i := 6) (l2 := #[true, true, true, true, true, true, true]) rfl rfl (fun K hK => ?_) AllN.nil)
    obtain ⟨q0, q1, q2, q3⟩ := hS3
    obtain ⟨xa0, xa1, xa2, fa0, fa1, fa2⟩ := three_cells q0; obtain ⟨xb0, xb1, xb2, fb0, fb1, fb2⟩ := three_cells q1; obtain ⟨xc0, xc1, xc2, fc0, fc1, fc2⟩ := three_cells q2
    go_simp
    refine hK _ _ (fun h => absurd rfl h) ?_
    clear hK K
    (try simp only [Act.put, List.setIfInBounds_toArray, List.set_cons_zero, List.set_cons_succ])
    refine regN_done (by kernel_rfl) ?_ _
    go_wp2
    refine bodyPost_ret (ty_ret rfl rfl (set_three q2)) rfl ⟨by first | rfl | (simp [hm]; done) | (simp [hm]; omega), ?_⟩
    exact below_st (below_st (below_st q3 (by simp; omega) _) (by simp; omega) _) (by simp; omega) _
  · refine regN_start (N := 6) (S := (fun W' => W'.heap[w.heap.size]? = some (.cells #[.int .i64 d1, .int .u8 b1, .string s1] 41) ∧ W'.heap[w.heap.size + 1]? = some (.cells #[.int .i64 d2, .int .u8 b2, .string s2] 41) ∧ W'.heap[w.heap.size + 1 + 1]? = some (.cells #[.int .i64 0, .int .u8 0, .string ⟨#[]⟩] 41) ∧ Below w.heap.size w W')) (by kernel_rfl) ?_
    change wpAnyN _ _ _ _ _ _ _ #[false, false, false, false, false, false, false] _ (World.drew _)
    have hS0 := (show (fun W' => W'.heap[w.heap.size]? = some (.cells #[.int .i64 d1, .int .u8 b1, .string s1] 41) ∧ W'.heap[w.heap.size + 1]? = some (.cells #[.int .i64 d2, .int .u8 b2, .string s2] 41) ∧ W'.heap[w.heap.size + 1 + 1]? = some (.cells #[.int .i64 0, .int .u8 0, .string ⟨#[]⟩] 41) ∧ Below w.heap.size w W') w1.drew from ⟨H0, H1, H2, hB.drew⟩)
    refine regN_take (i := 0) (d := (some 47)) (v := ?v8x1) (l2 := #[true, false, false, false, false, false, false]) rfl rfl rfl (by kernel_rfl) (by kernel_rfl) (by kernel_rfl) (by kernel_rfl) (fun _ _ _ h => h) (by rfl) ?hv8x1 hS0 ?h8x1
    case hv8x1 => rintro u ⟨q0, q1, q2, q3⟩; obtain ⟨xa0, xa1, xa2, fa0, fa1, fa2⟩ := three_cells q0; obtain ⟨xb0, xb1, xb2, fb0, fb1, fb2⟩ := three_cells q1; obtain ⟨xc0, xc1, xc2, fc0, fc1, fc2⟩ := three_cells q2; go_simp; (try with_reducible rfl)
    (try simp only [Act.put, List.setIfInBounds_toArray, List.set_cons_zero, List.set_cons_succ])
    refine regN_take (i := 2) (d := (some 49)) (v := ?v8x2) (l2 := #[true, false, true, false, false, false, false]) rfl rfl rfl (by kernel_rfl) (by kernel_rfl) (by kernel_rfl) (by kernel_rfl) (fun _ _ _ h => h) (by rfl) ?hv8x2 hS0 ?h8x2
    case hv8x2 => rintro u ⟨q0, q1, q2, q3⟩; obtain ⟨xa0, xa1, xa2, fa0, fa1, fa2⟩ := three_cells q0; obtain ⟨xb0, xb1, xb2, fb0, fb1, fb2⟩ := three_cells q1; obtain ⟨xc0, xc1, xc2, fc0, fc1, fc2⟩ := three_cells q2; go_simp; (try with_reducible rfl)
    (try simp only [Act.put, List.setIfInBounds_toArray, List.set_cons_zero, List.set_cons_succ])
    refine regN_ready (rs := [1]) (by kernel_rfl) (by simp) ?_
    refine (AllN.cons (i := 1) (l2 := #[true, true, true, false, false, false, false]) rfl rfl (fun K hK => ?_) AllN.nil)
    go_simp
    obtain ⟨q0, q1, q2, q3⟩ := hS0
    go_at_call 77
    (with_reducible refine (dpN d1 b1 _ hb1 hd1 _).mono ?_)
    rintro e w2 ⟨rfl, hb1⟩
    have hSn := (show (fun W' => W'.heap[w.heap.size]? = some (.cells #[.int .i64 d1, .int .u8 b1, .string s1] 41) ∧ W'.heap[w.heap.size + 1]? = some (.cells #[.int .i64 d2, .int .u8 b2, .string s2] 41) ∧ W'.heap[w.heap.size + 1 + 1]? = some (.cells #[.int .i64 0, .int .u8 0, .string ⟨#[]⟩] 41) ∧ Below w.heap.size w W') w2 from ⟨(hb1.block _ (lt_heap q0)).trans q0, (hb1.block _ (lt_heap q1)).trans q1, (hb1.block _ (lt_heap q2)).trans q2, below_on q3 hb1⟩)
    clear hb1
    go_simp
    have hS1 : ((fun W' => W'.heap[w.heap.size]? = some (.cells #[.int .i64 d1, .int .u8 b1, .string s1] 41) ∧ W'.heap[w.heap.size + 1]? = some (.cells #[.int .i64 d2, .int .u8 b2, .string s2] 41) ∧ W'.heap[w.heap.size + 1 + 1]? = some (.cells #[.int .i64 0, .int .u8 0, .string ⟨#[]⟩] 41) ∧ Below w.heap.size w W') : World → Prop) _ := hSn
    refine hK _ _ (fun _ => hS1) ?_
    clear hK K
    (try simp only [Act.put, List.setIfInBounds_toArray, List.set_cons_zero, List.set_cons_succ])
    refine regN_ready (rs := [3]) (by kernel_rfl) (by simp) ?_
    refine (AllN.cons (i := 3) (l2 := #[true, true, true, true, false, false, false]) rfl rfl (fun K hK => ?_) AllN.nil)
    go_simp
    obtain ⟨q0, q1, q2, q3⟩ := hS1
    go_at_call 77
    (with_reducible refine (dpN d2 b2 _ hb2 hd2 _).mono ?_)
    rintro e w2 ⟨rfl, hb1⟩
    have hSn := (show (fun W' => W'.heap[w.heap.size]? = some (.cells #[.int .i64 d1, .int .u8 b1, .string s1] 41) ∧ W'.heap[w.heap.size + 1]? = some (.cells #[.int .i64 d2, .int .u8 b2, .string s2] 41) ∧ W'.heap[w.heap.size + 1 + 1]? = some (.cells #[.int .i64 0, .int .u8 0, .string ⟨#[]⟩] 41) ∧ Below w.heap.size w W') w2 from ⟨(hb1.block _ (lt_heap q0)).trans q0, (hb1.block _ (lt_heap q1)).trans q1, (hb1.block _ (lt_heap q2)).trans q2, below_on q3 hb1⟩)
    clear hb1
    go_simp
    have hS2 : ((fun W' => W'.heap[w.heap.size]? = some (.cells #[.int .i64 d1, .int .u8 b1, .string s1] 41) ∧ W'.heap[w.heap.size + 1]? = some (.cells #[.int .i64 d2, .int .u8 b2, .string s2] 41) ∧ W'.heap[w.heap.size + 1 + 1]? = some (.cells #[.int .i64 0, .int .u8 0, .string ⟨#[]⟩] 41) ∧ Below w.heap.size w W') : World → Prop) _ := hSn
    refine hK _ _ (fun _ => hS2) ?_
    clear hK K
    (try simp only [Act.put, List.setIfInBounds_toArray, List.set_cons_zero, List.set_cons_succ])
    refine regN_ready (rs := [4]) (by kernel_rfl) (by simp) ?_
    refine (AllN.cons (i := 4) (l2 := #[true, true, true, true, true, false, false]) rfl rfl (fun K hK => ?_) AllN.nil)
    go_simp
    have hS3 : ((fun W' => W'.heap[w.heap.size]? = some (.cells #[.int .i64 d1, .int .u8 b1, .string s1] 41) ∧ W'.heap[w.heap.size + 1]? = some (.cells #[.int .i64 d2, .int .u8 b2, .string s2] 41) ∧ W'.heap[w.heap.size + 1 + 1]? = some (.cells #[.int .i64 0, .int .u8 0, .string ⟨#[]⟩] 41) ∧ Below w.heap.size w W') : World → Prop) _ := hS2
    refine hK _ _ (fun _ => hS3) ?_
    clear hK K
    (try simp only [Act.put, List.setIfInBounds_toArray, List.set_cons_zero, List.set_cons_succ])
    refine regN_take (i := 5) (d := (some 52)) (v := ?v8x3) (l2 := #[true, true, true, true, true, true, false]) rfl rfl rfl (by kernel_rfl) (by kernel_rfl) (by kernel_rfl) (by kernel_rfl) (fun _ _ _ h => h) (by rfl) ?hv8x3 hS3 ?h8x3
    case hv8x3 => intro u hSu; clear hSu; go_simp; (try with_reducible rfl)
    (try simp only [Act.put, List.setIfInBounds_toArray, List.set_cons_zero, List.set_cons_succ])
    refine regN_ready (rs := [6]) (by kernel_rfl) (by simp) ?_
    refine (AllN.cons (i := 6) (l2 := #[true, true, true, true, true, true, true]) rfl rfl (fun K hK => ?_) AllN.nil)
    obtain ⟨q0, q1, q2, q3⟩ := hS3
    obtain ⟨xa0, xa1, xa2, fa0, fa1, fa2⟩ := three_cells q0; obtain ⟨xb0, xb1, xb2, fb0, fb1, fb2⟩ := three_cells q1; obtain ⟨xc0, xc1, xc2, fc0, fc1, fc2⟩ := three_cells q2
    go_simp
    refine hK _ _ (fun h => absurd rfl h) ?_
    clear hK K
    (try simp only [Act.put, List.setIfInBounds_toArray, List.set_cons_zero, List.set_cons_succ])
    refine regN_done (by kernel_rfl) ?_ _
    go_wp2
    refine bodyPost_ret (ty_ret rfl rfl (set_three q2)) rfl ⟨by first | rfl | (simp [hm]; done) | (simp [hm]; omega), ?_⟩
    exact below_st (below_st (below_st q3 (by simp; omega) _) (by simp; omega) _) (by simp; omega) _
set_option maxRecDepth 100000 in
set_option maxHeartbeats 4000000 in
theorem mty_4 (V : Value) (d : Int) (s1 s2 r : ByteArray) (w : World) (h1 : (TY.mk d 76 s1).ref = true) (h2 : (TY.mk d 76 s2).ref = true) (hE : tyE (TY.mk d 76 s1) (TY.mk d 76 s2) = false) (KC : ∀ W, Below w.heap.size w W → Calls Tryd.prog 25 #[V, .string s1, .string s2] W fun e w' => e = .returned (.string r) ∧ Below W.heap.size W w') :
    Calls Tryd.prog 42 #[V, .agg #[.int .i64 d, .int .u8 76, .string s1], .agg #[.int .i64 d, .int .u8 76, .string s2]] w (TyRet w ⟨d, 76, r⟩) := by
  have e1 := fun w => ty_eqP hE w
  go_enter Tryd.func42, Tryd.ntmps42
  go_upto_region 1 with fail
  obtain ⟨H0, H1, H2, hB, hz⟩ := three_laid w (.cells #[.int .i64 d, .int .u8 76, .string s1] 41) (.cells #[.int .i64 d, .int .u8 76, .string s2] 41) (.cells #[.int .i64 0, .int .u8 0, .string ⟨#[]⟩] 41)
  generalize ((w.alloc (.cells #[.int .i64 d, .int .u8 76, .string s1] 41)).alloc (.cells #[.int .i64 d, .int .u8 76, .string s2] 41)).alloc (.cells #[.int .i64 0, .int .u8 0, .string ⟨#[]⟩] 41) = W at H0 H1 H2 hB hz ⊢
  obtain ⟨xa0, xa1, xa2, fa0, fa1, fa2⟩ := three_cells H0; obtain ⟨xb0, xb1, xb2, fb0, fb1, fb2⟩ := three_cells H1; obtain ⟨xc0, xc1, xc2, fc0, fc1, fc2⟩ := three_cells H2
  go_upto_region 6 with (first | (go_at_call 76; (with_reducible refine (isrP d 76 s1 _ h1 _).mono ?_); rintro e w1 ⟨rfl, hb1⟩; replace H0 := (hb1.block _ (lt_heap H0)).trans H0; replace H1 := (hb1.block _ (lt_heap H1)).trans H1; replace H2 := (hb1.block _ (lt_heap H2)).trans H2; replace hB := below_on hB hb1; clear hb1 xa0 xa1 xa2 fa0 fa1 fa2 xb0 xb1 xb2 fb0 fb1 fb2 xc0 xc1 xc2 fc0 fc1 fc2; obtain ⟨xa0, xa1, xa2, fa0, fa1, fa2⟩ := three_cells H0; obtain ⟨xb0, xb1, xb2, fb0, fb1, fb2⟩ := three_cells H1; obtain ⟨xc0, xc1, xc2, fc0, fc1, fc2⟩ := three_cells H2) | (go_at_call 76; (with_reducible refine (isrP d 76 s2 _ h2 _).mono ?_); rintro e w1 ⟨rfl, hb1⟩; replace H0 := (hb1.block _ (lt_heap H0)).trans H0; replace H1 := (hb1.block _ (lt_heap H1)).trans H1; replace H2 := (hb1.block _ (lt_heap H2)).trans H2; replace hB := below_on hB hb1; clear hb1 xa0 xa1 xa2 fa0 fa1 fa2 xb0 xb1 xb2 fb0 fb1 fb2 xc0 xc1 xc2 fc0 fc1 fc2; obtain ⟨xa0, xa1, xa2, fa0, fa1, fa2⟩ := three_cells H0; obtain ⟨xb0, xb1, xb2, fb0, fb1, fb2⟩ := three_cells H1; obtain ⟨xc0, xc1, xc2, fc0, fc1, fc2⟩ := three_cells H2))
  clear xa0 xa1 xa2 fa0 fa1 fa2 xb0 xb1 xb2 fb0 fb1 fb2 xc0 xc1 xc2 fc0 fc1 fc2 hz h1 h2 e1
  refine regN_start (N := 9) (S := (fun W' => W'.heap[w.heap.size]? = some (.cells #[.int .i64 d, .int .u8 76, .string s1] 41) ∧ W'.heap[w.heap.size + 1]? = some (.cells #[.int .i64 d, .int .u8 76, .string s2] 41) ∧ W'.heap[w.heap.size + 1 + 1]? = some (.cells #[.int .i64 0, .int .u8 0, .string ⟨#[]⟩] 41) ∧ Below w.heap.size w W')) (by kernel_rfl) ?_
  change wpAnyN _ _ _ _ _ _ _ #[false, false, false, false, false, false, false, false, false, false] _ (World.drew _)
  have hS0 := (show (fun W' => W'.heap[w.heap.size]? = some (.cells #[.int .i64 d, .int .u8 76, .string s1] 41) ∧ W'.heap[w.heap.size + 1]? = some (.cells #[.int .i64 d, .int .u8 76, .string s2] 41) ∧ W'.heap[w.heap.size + 1 + 1]? = some (.cells #[.int .i64 0, .int .u8 0, .string ⟨#[]⟩] 41) ∧ Below w.heap.size w W') w1.drew from ⟨H0, H1, H2, hB.drew⟩)
  refine regN_take (i := 0) (d := (some 38)) (v := ?v6x1) (l2 := #[true, false, false, false, false, false, false, false, false, false]) rfl rfl rfl (by kernel_rfl) (by kernel_rfl) (by kernel_rfl) (by kernel_rfl) (fun _ _ _ h => h) (by rfl) ?hv6x1 hS0 ?h6x1
  case hv6x1 => intro u hSu; clear hSu; go_simp; (try with_reducible rfl)
  (try simp only [Act.put, List.setIfInBounds_toArray, List.set_cons_zero, List.set_cons_succ])
  refine regN_take (i := 1) (d := (some 39)) (v := ?v6x2) (l2 := #[true, true, false, false, false, false, false, false, false, false]) rfl rfl rfl (by kernel_rfl) (by kernel_rfl) (by kernel_rfl) (by kernel_rfl) (fun _ _ _ h => h) (by rfl) ?hv6x2 hS0 ?h6x2
  case hv6x2 => rintro u ⟨q0, q1, q2, q3⟩; obtain ⟨xa0, xa1, xa2, fa0, fa1, fa2⟩ := three_cells q0; obtain ⟨xb0, xb1, xb2, fb0, fb1, fb2⟩ := three_cells q1; obtain ⟨xc0, xc1, xc2, fc0, fc1, fc2⟩ := three_cells q2; go_simp; (try with_reducible rfl)
  (try simp only [Act.put, List.setIfInBounds_toArray, List.set_cons_zero, List.set_cons_succ])
  refine regN_take (i := 2) (d := (some 40)) (v := ?v6x3) (l2 := #[true, true, true, false, false, false, false, false, false, false]) rfl rfl rfl (by kernel_rfl) (by kernel_rfl) (by kernel_rfl) (by kernel_rfl) (fun _ _ _ h => h) (by rfl) ?hv6x3 hS0 ?h6x3
  case hv6x3 => intro u hSu; clear hSu; go_simp; (try with_reducible rfl)
  (try simp only [Act.put, List.setIfInBounds_toArray, List.set_cons_zero, List.set_cons_succ])
  refine regN_take (i := 3) (d := (some 41)) (v := ?v6x4) (l2 := #[true, true, true, true, false, false, false, false, false, false]) rfl rfl rfl (by kernel_rfl) (by kernel_rfl) (by kernel_rfl) (by kernel_rfl) (fun _ _ _ h => h) (by rfl) ?hv6x4 hS0 ?h6x4
  case hv6x4 => intro u hSu; clear hSu; go_simp; (try with_reducible rfl)
  (try simp only [Act.put, List.setIfInBounds_toArray, List.set_cons_zero, List.set_cons_succ])
  refine regN_take (i := 4) (d := (some 42)) (v := ?v6x5) (l2 := #[true, true, true, true, true, false, false, false, false, false]) rfl rfl rfl (by kernel_rfl) (by kernel_rfl) (by kernel_rfl) (by kernel_rfl) (fun _ _ _ h => h) (by rfl) ?hv6x5 hS0 ?h6x5
  case hv6x5 => rintro u ⟨q0, q1, q2, q3⟩; obtain ⟨xa0, xa1, xa2, fa0, fa1, fa2⟩ := three_cells q0; obtain ⟨xb0, xb1, xb2, fb0, fb1, fb2⟩ := three_cells q1; obtain ⟨xc0, xc1, xc2, fc0, fc1, fc2⟩ := three_cells q2; go_simp; (try with_reducible rfl)
  (try simp only [Act.put, List.setIfInBounds_toArray, List.set_cons_zero, List.set_cons_succ])
  refine regN_take (i := 5) (d := (some 43)) (v := ?v6x6) (l2 := #[true, true, true, true, true, true, false, false, false, false]) rfl rfl rfl (by kernel_rfl) (by kernel_rfl) (by kernel_rfl) (by kernel_rfl) (fun _ _ _ h => h) (by rfl) ?hv6x6 hS0 ?h6x6
  case hv6x6 => intro u hSu; clear hSu; go_simp; (try with_reducible rfl)
  (try simp only [Act.put, List.setIfInBounds_toArray, List.set_cons_zero, List.set_cons_succ])
  refine regN_take (i := 6) (d := (some 44)) (v := ?v6x7) (l2 := #[true, true, true, true, true, true, true, false, false, false]) rfl rfl rfl (by kernel_rfl) (by kernel_rfl) (by kernel_rfl) (by kernel_rfl) (fun _ _ _ h => h) (by rfl) ?hv6x7 hS0 ?h6x7
  case hv6x7 => rintro u ⟨q0, q1, q2, q3⟩; obtain ⟨xa0, xa1, xa2, fa0, fa1, fa2⟩ := three_cells q0; obtain ⟨xb0, xb1, xb2, fb0, fb1, fb2⟩ := three_cells q1; obtain ⟨xc0, xc1, xc2, fc0, fc1, fc2⟩ := three_cells q2; go_simp; (try with_reducible rfl)
  (try simp only [Act.put, List.setIfInBounds_toArray, List.set_cons_zero, List.set_cons_succ])
  refine regN_ready (rs := [7]) (by kernel_rfl) (by simp) ?_
  refine (AllN.cons (i := 7) (l2 := #[true, true, true, true, true, true, true, true, false, false]) rfl rfl (fun K hK => ?_) AllN.nil)
  go_simp
  obtain ⟨q0, q1, q2, q3⟩ := hS0
  go_at_call 25
  (with_reducible refine (KC _ q3).mono ?_)
  rintro e w2 ⟨rfl, hb1⟩
  have hSn := (show (fun W' => W'.heap[w.heap.size]? = some (.cells #[.int .i64 d, .int .u8 76, .string s1] 41) ∧ W'.heap[w.heap.size + 1]? = some (.cells #[.int .i64 d, .int .u8 76, .string s2] 41) ∧ W'.heap[w.heap.size + 1 + 1]? = some (.cells #[.int .i64 0, .int .u8 0, .string ⟨#[]⟩] 41) ∧ Below w.heap.size w W') w2 from ⟨(hb1.block _ (lt_heap q0)).trans q0, (hb1.block _ (lt_heap q1)).trans q1, (hb1.block _ (lt_heap q2)).trans q2, below_on q3 hb1⟩)
  clear hb1
  go_simp
  have hS1 : ((fun W' => W'.heap[w.heap.size]? = some (.cells #[.int .i64 d, .int .u8 76, .string s1] 41) ∧ W'.heap[w.heap.size + 1]? = some (.cells #[.int .i64 d, .int .u8 76, .string s2] 41) ∧ W'.heap[w.heap.size + 1 + 1]? = some (.cells #[.int .i64 0, .int .u8 0, .string ⟨#[]⟩] 41) ∧ Below w.heap.size w W') : World → Prop) _ := hSn
  refine hK _ _ (fun _ => hS1) ?_
  clear hK K
  (try simp only [Act.put, List.setIfInBounds_toArray, List.set_cons_zero, List.set_cons_succ])
  refine regN_take (i := 8) (d := (some 46)) (v := ?v6x8) (l2 := #[true, true, true, true, true, true, true, true, true, false]) rfl rfl rfl (by kernel_rfl) (by kernel_rfl) (by kernel_rfl) (by kernel_rfl) (fun _ _ _ h => h) (by rfl) ?hv6x8 hS1 ?h6x8
  case hv6x8 => intro u hSu; clear hSu; go_simp; (try with_reducible rfl)
  (try simp only [Act.put, List.setIfInBounds_toArray, List.set_cons_zero, List.set_cons_succ])
  refine regN_ready (rs := [9]) (by kernel_rfl) (by simp) ?_
  refine (AllN.cons (i := 9) (l2 := #[true, true, true, true, true, true, true, true, true, true]) rfl rfl (fun K hK => ?_) AllN.nil)
  obtain ⟨q0, q1, q2, q3⟩ := hS1
  obtain ⟨xa0, xa1, xa2, fa0, fa1, fa2⟩ := three_cells q0; obtain ⟨xb0, xb1, xb2, fb0, fb1, fb2⟩ := three_cells q1; obtain ⟨xc0, xc1, xc2, fc0, fc1, fc2⟩ := three_cells q2
  go_simp
  refine hK _ _ (fun h => absurd rfl h) ?_
  clear hK K
  (try simp only [Act.put, List.setIfInBounds_toArray, List.set_cons_zero, List.set_cons_succ])
  refine regN_done (by kernel_rfl) ?_ _
  go_wp2
  refine bodyPost_ret (ty_ret rfl rfl (set_three q2)) rfl ⟨by first | rfl, ?_⟩
  exact below_st (below_st (below_st q3 (by simp; omega) _) (by simp; omega) _) (by simp; omega) _
end Go.Proofs.YthifmcnemeiphaaDoor
