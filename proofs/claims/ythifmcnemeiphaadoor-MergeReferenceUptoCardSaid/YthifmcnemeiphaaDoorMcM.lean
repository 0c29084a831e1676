import Derived.Test.YthifmcnemeiphaaDoorMaM
import Derived.Laws.ResultCell

/- Mc -/
/- Layer 18: verification types as values; the join of two, pure. -/
namespace Go.Proofs.YthifmcnemeiphaaDoor
open Go.ChangeShapes Go.WideShapes Go.ChangeAt Go.RowKit Go.PlainAid Go.Maps
set_option linter.unusedSimpArgs false
set_option linter.unusedVariables false

structure VT where
  k : Int
  n : Int
  d : Int
  b : Int
  s : ByteArray
  p : Int
def vtZ : VT := ⟨0, 0, 0, 0, ⟨#[]⟩, 0⟩
def VT.ty (x : VT) : TY := ⟨x.d, x.b, x.s⟩
def vtE (a b : VT) : Bool := decide (a.k = b.k) && decide (a.n = b.n) && tyE a.ty b.ty && decide (a.p = b.p)
/-- the join of two verification types -/
def vtJ (L : List CI) (a b : VT) : VT :=
  if vtE a b = true then a
  else if a.k = 3 ∧ b.k = 4 then b
  else if a.k = 4 ∧ b.k = 3 then a
  else if a.k = 4 ∧ b.k = 4 ∧ tyE (tyJ L a.ty b.ty) tyZ = false then ⟨4, 0, (tyJ L a.ty b.ty).d, (tyJ L a.ty b.ty).b, (tyJ L a.ty b.ty).s, 0⟩
  else vtZ
theorem vtE_eq {a b : VT} (h : vtE a b = true) : a = b := by
  unfold vtE at h
  rw [Bool.and_eq_true, Bool.and_eq_true, Bool.and_eq_true, decide_eq_true_iff, decide_eq_true_iff, decide_eq_true_iff] at h
  obtain ⟨⟨⟨h1, h2⟩, h3⟩, h4⟩ := h
  have h5 := tyE_eq h3
  cases a; cases b
  unfold VT.ty at h5
  simp only [TY.mk.injEq] at h1 h2 h4 h5
  obtain ⟨h6, h7, h8⟩ := h5
  rw [h1, h2, h4, h6, h7, h8]
theorem tyE_self (a : TY) : tyE a a = true := by unfold tyE; simp
theorem vtE_self (a : VT) : vtE a a = true := by unfold vtE; rw [tyE_self]; simp
theorem vt_eqIn (a b : VT) (w : World) : (Op.equalIn 10000 43 (Value.agg #[Value.int IntKind.i64 (VT.k a), Value.int IntKind.i64 (VT.n a), Value.int IntKind.i64 (VT.d a), Value.int IntKind.u8 (VT.b a), Value.string (VT.s a), Value.int IntKind.i64 (VT.p a)]) (Value.agg #[Value.int IntKind.i64 (VT.k b), Value.int IntKind.i64 (VT.n b), Value.int IntKind.i64 (VT.d b), Value.int IntKind.u8 (VT.b b), Value.string (VT.s b), Value.int IntKind.i64 (VT.p b)])).run Tryd.prog w = .ok (vtE a b) w := by
  by_cases h1 : a.k = b.k
  · by_cases h2 : a.n = b.n
    · by_cases h3 : a.d = b.d
      · by_cases h4 : a.b = b.b
        · by_cases h5 : a.s.toList = b.s.toList
          · by_cases h6 : a.p = b.p <;> simp [go_sem, vtE, tyE, VT.ty, *]
          · simp [go_sem, vtE, tyE, VT.ty, *]
        · simp [go_sem, vtE, tyE, VT.ty, *]
      · simp [go_sem, vtE, tyE, VT.ty, *]
    · simp [go_sem, vtE, tyE, VT.ty, *]
  · simp [go_sem, vtE, tyE, VT.ty, *]
theorem vt_eqP {a b : VT} {v : Bool} (h : vtE a b = v) (w : World) : (binOp .eql 43 (Value.agg #[Value.int IntKind.i64 (VT.k a), Value.int IntKind.i64 (VT.n a), Value.int IntKind.i64 (VT.d a), Value.int IntKind.u8 (VT.b a), Value.string (VT.s a), Value.int IntKind.i64 (VT.p a)]) (Value.agg #[Value.int IntKind.i64 (VT.k b), Value.int IntKind.i64 (VT.n b), Value.int IntKind.i64 (VT.d b), Value.int IntKind.u8 (VT.b b), Value.string (VT.s b), Value.int IntKind.i64 (VT.p b)])).run Tryd.prog w = .ok (.bool v) w := by
  rw [run_eql_struct, vt_eqIn, h]; rfl
theorem vt_neP {a b : VT} {v : Bool} (h : vtE a b = v) (w : World) : (binOp .neq 43 (Value.agg #[Value.int IntKind.i64 (VT.k a), Value.int IntKind.i64 (VT.n a), Value.int IntKind.i64 (VT.d a), Value.int IntKind.u8 (VT.b a), Value.string (VT.s a), Value.int IntKind.i64 (VT.p a)]) (Value.agg #[Value.int IntKind.i64 (VT.k b), Value.int IntKind.i64 (VT.n b), Value.int IntKind.i64 (VT.d b), Value.int IntKind.u8 (VT.b b), Value.string (VT.s b), Value.int IntKind.i64 (VT.p b)])).run Tryd.prog w = .ok (.bool (!v)) w := by
  rw [run_neq_struct, vt_eqIn, h]; rfl
theorem vt_eqF {k n d b p k' n' d' b' p' : Int} {s s' : ByteArray} {v : Bool} (h : vtE ⟨k, n, d, b, s, p⟩ ⟨k', n', d', b', s', p'⟩ = v) (w : World) : (binOp .eql 43 (.agg #[.int .i64 k, .int .i64 n, .int .i64 d, .int .u8 b, .string s, .int .i64 p]) (.agg #[.int .i64 k', .int .i64 n', .int .i64 d', .int .u8 b', .string s', .int .i64 p'])).run Tryd.prog w = .ok (.bool v) w :=
  vt_eqP (a := ⟨k, n, d, b, s, p⟩) (b := ⟨k', n', d', b', s', p'⟩) h w
theorem vtr_ret {fn : Func} {k : Nat} (hf : fn.results = #[.cell k 43]) {a : Act} {w : World} {B : Nat} {x0 x1 x2 x3 x4 x5 : Value} (ht : a.tmps.getD k undef = .pointer (some ⟨B, 0, none⟩)) (hg : w.heap[B]? = some (.cells #[x0, x1, x2, x3, x4, x5] 43)) :
    (results fn a.tmps).run Tryd.prog w = .ok (.agg #[x0, x1, x2, x3, x4, x5]) w := by
  obtain ⟨fs, hu⟩ := vt_under
  exact results_cell_row hf a.tmps w B _ _ (0, 0) _ ht hg hu rfl vt_size
def VtRet (w : World) (t : VT) (e : Ending) (w' : World) : Prop := e = .returned (Value.agg #[Value.int IntKind.i64 (VT.k t), Value.int IntKind.i64 (VT.n t), Value.int IntKind.i64 (VT.d t), Value.int IntKind.u8 (VT.b t), Value.string (VT.s t), Value.int IntKind.i64 (VT.p t)]) ∧ Below w.heap.size w w'
theorem below6 {w W : World} {B : Nat} (h : Below w.heap.size w W) (hB : w.heap.size ≤ B) (a b c d e f : Value) : Below w.heap.size w ((((((W.setCell ⟨B, 0, none⟩ a).setCell ⟨B, 1, none⟩ b).setCell ⟨B, 2, none⟩ c).setCell ⟨B, 3, none⟩ d).setCell ⟨B, 4, none⟩ e).setCell ⟨B, 5, none⟩ f) :=
  below_st (below_st (below_st (below_st (below_st (below_st h hB _) hB _) hB _) hB _) hB _) hB _
end Go.Proofs.YthifmcnemeiphaaDoor

/- Md -/
/- Layer 18: VTypes, in the package (written by gen/md.py). -/
namespace Go.Proofs.YthifmcnemeiphaaDoor
open Go.ChangeShapes Go.WideShapes Go.ChangeAt Go.RowKit Go.PlainAid Go.Maps
set_option linter.unusedSimpArgs false
set_option linter.unusedVariables false

set_option maxHeartbeats 4000000 in
theorem mvt_e (V : Value) (a : VT) (w : World) :
    Calls Tryd.prog 44 #[V, (Value.agg #[Value.int IntKind.i64 (VT.k a), Value.int IntKind.i64 (VT.n a), Value.int IntKind.i64 (VT.d a), Value.int IntKind.u8 (VT.b a), Value.string (VT.s a), Value.int IntKind.i64 (VT.p a)]), (Value.agg #[Value.int IntKind.i64 (VT.k a), Value.int IntKind.i64 (VT.n a), Value.int IntKind.i64 (VT.d a), Value.int IntKind.u8 (VT.b a), Value.string (VT.s a), Value.int IntKind.i64 (VT.p a)])] w (VtRet w a) := by
  go_enter Tryd.func44, Tryd.ntmps44
  go_upto_region 1 with fail
  obtain ⟨H0, H1, H2, hB, hz⟩ := three_laid w (.cells #[.int .i64 a.k, .int .i64 a.n, .int .i64 a.d, .int .u8 a.b, .string a.s, .int .i64 a.p] 43) (.cells #[.int .i64 a.k, .int .i64 a.n, .int .i64 a.d, .int .u8 a.b, .string a.s, .int .i64 a.p] 43) (.cells #[.int .i64 0, .int .i64 0, .int .i64 0, .int .u8 0, .string ⟨#[]⟩, .int .i64 0] 43)
  generalize ((w.alloc (.cells #[.int .i64 a.k, .int .i64 a.n, .int .i64 a.d, .int .u8 a.b, .string a.s, .int .i64 a.p] 43)).alloc (.cells #[.int .i64 a.k, .int .i64 a.n, .int .i64 a.d, .int .u8 a.b, .string a.s, .int .i64 a.p] 43)).alloc (.cells #[.int .i64 0, .int .i64 0, .int .i64 0, .int .u8 0, .string ⟨#[]⟩, .int .i64 0] 43) = W at H0 H1 H2 hB hz ⊢
  obtain ⟨xa0, xa1, xa2, xa3, xa4, xa5, fa⟩ := six_cells H0; obtain ⟨xb0, xb1, xb2, xb3, xb4, xb5, fb⟩ := six_cells H1; obtain ⟨xc0, xc1, xc2, xc3, xc4, xc5, fc⟩ := six_cells H2
  go_wp2
  refine bodyPost_ret (vtr_ret rfl rfl (set_six H2)) rfl ⟨rfl, ?_⟩
  exact below6 hB (by omega) _ _ _ _ _ _
set_option maxRecDepth 100000 in
set_option maxHeartbeats 4000000 in
theorem mvt_34 (V : Value) (n1 d1 b1 p1 n2 d2 b2 p2 : Int) (s1 s2 : ByteArray) (w : World) (hE : vtE (VT.mk 3 n1 d1 b1 s1 p1) (VT.mk 4 n2 d2 b2 s2 p2) = false)  :
    Calls Tryd.prog 44 #[V, .agg #[.int .i64 3, .int .i64 n1, .int .i64 d1, .int .u8 b1, .string s1, .int .i64 p1], .agg #[.int .i64 4, .int .i64 n2, .int .i64 d2, .int .u8 b2, .string s2, .int .i64 p2]] w (VtRet w (VT.mk 4 n2 d2 b2 s2 p2)) := by
  have e1 := fun w => vt_eqF hE w
  go_enter Tryd.func44, Tryd.ntmps44
  go_upto_region 1 with fail
  obtain ⟨H0, H1, H2, hB, hz⟩ := three_laid w (.cells #[.int .i64 3, .int .i64 n1, .int .i64 d1, .int .u8 b1, .string s1, .int .i64 p1] 43) (.cells #[.int .i64 4, .int .i64 n2, .int .i64 d2, .int .u8 b2, .string s2, .int .i64 p2] 43) (.cells #[.int .i64 0, .int .i64 0, .int .i64 0, .int .u8 0, .string ⟨#[]⟩, .int .i64 0] 43)
  generalize ((w.alloc (.cells #[.int .i64 3, .int .i64 n1, .int .i64 d1, .int .u8 b1, .string s1, .int .i64 p1] 43)).alloc (.cells #[.int .i64 4, .int .i64 n2, .int .i64 d2, .int .u8 b2, .string s2, .int .i64 p2] 43)).alloc (.cells #[.int .i64 0, .int .i64 0, .int .i64 0, .int .u8 0, .string ⟨#[]⟩, .int .i64 0] 43) = W at H0 H1 H2 hB hz ⊢
  obtain ⟨xa0, xa1, xa2, xa3, xa4, xa5, fa⟩ := six_cells H0; obtain ⟨xb0, xb1, xb2, xb3, xb4, xb5, fb⟩ := six_cells H1; obtain ⟨xc0, xc1, xc2, xc3, xc4, xc5, fc⟩ := six_cells H2
  go_wp2
  refine bodyPost_ret (vtr_ret rfl rfl (set_six H2)) rfl ⟨rfl, ?_⟩
  exact below6 hB (by omega) _ _ _ _ _ _
set_option maxRecDepth 100000 in
set_option maxHeartbeats 4000000 in
theorem mvt_43 (V : Value) (n1 d1 b1 p1 n2 d2 b2 p2 : Int) (s1 s2 : ByteArray) (w : World) (hE : vtE (VT.mk 4 n1 d1 b1 s1 p1) (VT.mk 3 n2 d2 b2 s2 p2) = false)  :
    Calls Tryd.prog 44 #[V, .agg #[.int .i64 4, .int .i64 n1, .int .i64 d1, .int .u8 b1, .string s1, .int .i64 p1], .agg #[.int .i64 3, .int .i64 n2, .int .i64 d2, .int .u8 b2, .string s2, .int .i64 p2]] w (VtRet w (VT.mk 4 n1 d1 b1 s1 p1)) := by
  have e1 := fun w => vt_eqF hE w
  go_enter Tryd.func44, Tryd.ntmps44
  go_upto_region 1 with fail
  obtain ⟨H0, H1, H2, hB, hz⟩ := three_laid w (.cells #[.int .i64 4, .int .i64 n1, .int .i64 d1, .int .u8 b1, .string s1, .int .i64 p1] 43) (.cells #[.int .i64 3, .int .i64 n2, .int .i64 d2, .int .u8 b2, .string s2, .int .i64 p2] 43) (.cells #[.int .i64 0, .int .i64 0, .int .i64 0, .int .u8 0, .string ⟨#[]⟩, .int .i64 0] 43)
  generalize ((w.alloc (.cells #[.int .i64 4, .int .i64 n1, .int .i64 d1, .int .u8 b1, .string s1, .int .i64 p1] 43)).alloc (.cells #[.int .i64 3, .int .i64 n2, .int .i64 d2, .int .u8 b2, .string s2, .int .i64 p2] 43)).alloc (.cells #[.int .i64 0, .int .i64 0, .int .i64 0, .int .u8 0, .string ⟨#[]⟩, .int .i64 0] 43) = W at H0 H1 H2 hB hz ⊢
  obtain ⟨xa0, xa1, xa2, xa3, xa4, xa5, fa⟩ := six_cells H0; obtain ⟨xb0, xb1, xb2, xb3, xb4, xb5, fb⟩ := six_cells H1; obtain ⟨xc0, xc1, xc2, xc3, xc4, xc5, fc⟩ := six_cells H2
  go_wp2
  refine bodyPost_ret (vtr_ret rfl rfl (set_six H2)) rfl ⟨rfl, ?_⟩
  exact below6 hB (by omega) _ _ _ _ _ _
set_option maxRecDepth 100000 in
set_option maxHeartbeats 4000000 in
theorem mvt_3x (V : Value) (n1 d1 b1 p1 k2 n2 d2 b2 p2 : Int) (s1 s2 : ByteArray) (w : World) (hE : vtE (VT.mk 3 n1 d1 b1 s1 p1) (VT.mk k2 n2 d2 b2 s2 p2) = false) (h2 : ¬ k2 = 4) :
    Calls Tryd.prog 44 #[V, .agg #[.int .i64 3, .int .i64 n1, .int .i64 d1, .int .u8 b1, .string s1, .int .i64 p1], .agg #[.int .i64 k2, .int .i64 n2, .int .i64 d2, .int .u8 b2, .string s2, .int .i64 p2]] w (VtRet w vtZ) := by
  have e1 := fun w => vt_eqF hE w
  go_enter Tryd.func44, Tryd.ntmps44
  go_upto_region 1 with fail
  obtain ⟨H0, H1, H2, hB, hz⟩ := three_laid w (.cells #[.int .i64 3, .int .i64 n1, .int .i64 d1, .int .u8 b1, .string s1, .int .i64 p1] 43) (.cells #[.int .i64 k2, .int .i64 n2, .int .i64 d2, .int .u8 b2, .string s2, .int .i64 p2] 43) (.cells #[.int .i64 0, .int .i64 0, .int .i64 0, .int .u8 0, .string ⟨#[]⟩, .int .i64 0] 43)
  generalize ((w.alloc (.cells #[.int .i64 3, .int .i64 n1, .int .i64 d1, .int .u8 b1, .string s1, .int .i64 p1] 43)).alloc (.cells #[.int .i64 k2, .int .i64 n2, .int .i64 d2, .int .u8 b2, .string s2, .int .i64 p2] 43)).alloc (.cells #[.int .i64 0, .int .i64 0, .int .i64 0, .int .u8 0, .string ⟨#[]⟩, .int .i64 0] 43) = W at H0 H1 H2 hB hz ⊢
  obtain ⟨xa0, xa1, xa2, xa3, xa4, xa5, fa⟩ := six_cells H0; obtain ⟨xb0, xb1, xb2, xb3, xb4, xb5, fb⟩ := six_cells H1; obtain ⟨xc0, xc1, xc2, xc3, xc4, xc5, fc⟩ := six_cells H2
  go_wp2
  refine bodyPost_ret (vtr_ret rfl rfl (set_six H2)) rfl ⟨rfl, ?_⟩
  exact below6 hB (by omega) _ _ _ _ _ _
set_option maxRecDepth 100000 in
set_option maxHeartbeats 4000000 in
theorem mvt_4x (V : Value) (n1 d1 b1 p1 k2 n2 d2 b2 p2 : Int) (s1 s2 : ByteArray) (w : World) (hE : vtE (VT.mk 4 n1 d1 b1 s1 p1) (VT.mk k2 n2 d2 b2 s2 p2) = false) (h2 : ¬ k2 = 3) (h3 : ¬ k2 = 4) :
    Calls Tryd.prog 44 #[V, .agg #[.int .i64 4, .int .i64 n1, .int .i64 d1, .int .u8 b1, .string s1, .int .i64 p1], .agg #[.int .i64 k2, .int .i64 n2, .int .i64 d2, .int .u8 b2, .string s2, .int .i64 p2]] w (VtRet w vtZ) := by
  have e1 := fun w => vt_eqF hE w
  go_enter Tryd.func44, Tryd.ntmps44
  go_upto_region 1 with fail
  obtain ⟨H0, H1, H2, hB, hz⟩ := three_laid w (.cells #[.int .i64 4, .int .i64 n1, .int .i64 d1, .int .u8 b1, .string s1, .int .i64 p1] 43) (.cells #[.int .i64 k2, .int .i64 n2, .int .i64 d2, .int .u8 b2, .string s2, .int .i64 p2] 43) (.cells #[.int .i64 0, .int .i64 0, .int .i64 0, .int .u8 0, .string ⟨#[]⟩, .int .i64 0] 43)
  generalize ((w.alloc (.cells #[.int .i64 4, .int .i64 n1, .int .i64 d1, .int .u8 b1, .string s1, .int .i64 p1] 43)).alloc (.cells #[.int .i64 k2, .int .i64 n2, .int .i64 d2, .int .u8 b2, .string s2, .int .i64 p2] 43)).alloc (.cells #[.int .i64 0, .int .i64 0, .int .i64 0, .int .u8 0, .string ⟨#[]⟩, .int .i64 0] 43) = W at H0 H1 H2 hB hz ⊢
  obtain ⟨xa0, xa1, xa2, xa3, xa4, xa5, fa⟩ := six_cells H0; obtain ⟨xb0, xb1, xb2, xb3, xb4, xb5, fb⟩ := six_cells H1; obtain ⟨xc0, xc1, xc2, xc3, xc4, xc5, fc⟩ := six_cells H2
  go_wp2
  refine bodyPost_ret (vtr_ret rfl rfl (set_six H2)) rfl ⟨rfl, ?_⟩
  exact below6 hB (by omega) _ _ _ _ _ _
set_option maxRecDepth 100000 in
set_option maxHeartbeats 4000000 in
theorem mvt_xx (V : Value) (k1 n1 d1 b1 p1 k2 n2 d2 b2 p2 : Int) (s1 s2 : ByteArray) (w : World) (hE : vtE (VT.mk k1 n1 d1 b1 s1 p1) (VT.mk k2 n2 d2 b2 s2 p2) = false) (h2 : ¬ k1 = 3) (h3 : ¬ k1 = 4) :
    Calls Tryd.prog 44 #[V, .agg #[.int .i64 k1, .int .i64 n1, .int .i64 d1, .int .u8 b1, .string s1, .int .i64 p1], .agg #[.int .i64 k2, .int .i64 n2, .int .i64 d2, .int .u8 b2, .string s2, .int .i64 p2]] w (VtRet w vtZ) := by
  have e1 := fun w => vt_eqF hE w
  go_enter Tryd.func44, Tryd.ntmps44
  go_upto_region 1 with fail
  obtain ⟨H0, H1, H2, hB, hz⟩ := three_laid w (.cells #[.int .i64 k1, .int .i64 n1, .int .i64 d1, .int .u8 b1, .string s1, .int .i64 p1] 43) (.cells #[.int .i64 k2, .int .i64 n2, .int .i64 d2, .int .u8 b2, .string s2, .int .i64 p2] 43) (.cells #[.int .i64 0, .int .i64 0, .int .i64 0, .int .u8 0, .string ⟨#[]⟩, .int .i64 0] 43)
  generalize ((w.alloc (.cells #[.int .i64 k1, .int .i64 n1, .int .i64 d1, .int .u8 b1, .string s1, .int .i64 p1] 43)).alloc (.cells #[.int .i64 k2, .int .i64 n2, .int .i64 d2, .int .u8 b2, .string s2, .int .i64 p2] 43)).alloc (.cells #[.int .i64 0, .int .i64 0, .int .i64 0, .int .u8 0, .string ⟨#[]⟩, .int .i64 0] 43) = W at H0 H1 H2 hB hz ⊢
  obtain ⟨xa0, xa1, xa2, xa3, xa4, xa5, fa⟩ := six_cells H0; obtain ⟨xb0, xb1, xb2, xb3, xb4, xb5, fb⟩ := six_cells H1; obtain ⟨xc0, xc1, xc2, xc3, xc4, xc5, fc⟩ := six_cells H2
  go_wp2
  refine bodyPost_ret (vtr_ret rfl rfl (set_six H2)) rfl ⟨rfl, ?_⟩
  exact below6 hB (by omega) _ _ _ _ _ _
set_option maxRecDepth 100000 in
set_option maxHeartbeats 4000000 in
theorem mvt_44 (V : Value) (n1 d1 b1 p1 n2 d2 b2 p2 : Int) (s1 s2 : ByteArray) (w : World) (hE : vtE (VT.mk 4 n1 d1 b1 s1 p1) (VT.mk 4 n2 d2 b2 s2 p2) = false) (t : TY) (KT : ∀ W, Below w.heap.size w W → Calls Tryd.prog 42 #[V, .agg #[.int .i64 d1, .int .u8 b1, .string s1], .agg #[.int .i64 d2, .int .u8 b2, .string s2]] W fun e w' => e = .returned (.agg #[.int .i64 t.d, .int .u8 t.b, .string t.s]) ∧ Below W.heap.size W w') (hT : tyE ⟨t.d, t.b, t.s⟩ ⟨0, 0, ⟨#[]⟩⟩ = false) :
    Calls Tryd.prog 44 #[V, .agg #[.int .i64 4, .int .i64 n1, .int .i64 d1, .int .u8 b1, .string s1, .int .i64 p1], .agg #[.int .i64 4, .int .i64 n2, .int .i64 d2, .int .u8 b2, .string s2, .int .i64 p2]] w (VtRet w ⟨4, 0, t.d, t.b, t.s, 0⟩) := by
  have e1 := fun w => vt_eqF hE w
  go_enter Tryd.func44, Tryd.ntmps44
  go_upto_region 1 with fail
  obtain ⟨H0, H1, H2, hB, hz⟩ := three_laid w (.cells #[.int .i64 4, .int .i64 n1, .int .i64 d1, .int .u8 b1, .string s1, .int .i64 p1] 43) (.cells #[.int .i64 4, .int .i64 n2, .int .i64 d2, .int .u8 b2, .string s2, .int .i64 p2] 43) (.cells #[.int .i64 0, .int .i64 0, .int .i64 0, .int .u8 0, .string ⟨#[]⟩, .int .i64 0] 43)
  generalize ((w.alloc (.cells #[.int .i64 4, .int .i64 n1, .int .i64 d1, .int .u8 b1, .string s1, .int .i64 p1] 43)).alloc (.cells #[.int .i64 4, .int .i64 n2, .int .i64 d2, .int .u8 b2, .string s2, .int .i64 p2] 43)).alloc (.cells #[.int .i64 0, .int .i64 0, .int .i64 0, .int .u8 0, .string ⟨#[]⟩, .int .i64 0] 43) = W at H0 H1 H2 hB hz ⊢
  obtain ⟨xa0, xa1, xa2, xa3, xa4, xa5, fa⟩ := six_cells H0; obtain ⟨xb0, xb1, xb2, xb3, xb4, xb5, fb⟩ := six_cells H1; obtain ⟨xc0, xc1, xc2, xc3, xc4, xc5, fc⟩ := six_cells H2
  go_upto_region 9 with (go_at_call 42; (with_reducible refine (KT _ hB).mono ?_); rintro e w1 ⟨rfl, hb1⟩; replace H0 := (hb1.block _ (lt_heap H0)).trans H0; replace H1 := (hb1.block _ (lt_heap H1)).trans H1; replace H2 := (hb1.block _ (lt_heap H2)).trans H2; replace hB := below_on hB hb1; clear hb1)
  have H7 := World.alloc_heap_new w1 (.cells #[.int .i64 t.d, .int .u8 t.b, .string t.s] 41)
  replace H2 := laid_old (o' := (.cells #[.int .i64 t.d, .int .u8 t.b, .string t.s] 41)) H2
  replace hB := below_al hB (.cells #[.int .i64 t.d, .int .u8 t.b, .string t.s] 41)
  generalize w1.alloc (.cells #[.int .i64 t.d, .int .u8 t.b, .string t.s] 41) = W2 at H7 H2 hB ⊢
  generalize w1.heap.size = B7 at H7 ⊢
  clear xa0 xa1 xa2 xa3 xa4 xa5 xb0 xb1 xb2 xb3 xb4 xb5 xc0 xc1 xc2 xc3 xc4 xc5 fa fb fc
  obtain ⟨y0, y1, y2, g0, g1, g2⟩ := three_cells H7
  obtain ⟨xc0, xc1, xc2, xc3, xc4, xc5, fc⟩ := six_cells H2
  have e2 := fun w => ty_neP hT w
  go_wp2
  refine bodyPost_ret (vtr_ret rfl rfl (set_six H2)) rfl ⟨rfl, ?_⟩
  exact below6 hB (by omega) _ _ _ _ _ _
set_option maxRecDepth 100000 in
set_option maxHeartbeats 4000000 in
theorem mvt_44z (V : Value) (n1 d1 b1 p1 n2 d2 b2 p2 : Int) (s1 s2 : ByteArray) (w : World) (hE : vtE (VT.mk 4 n1 d1 b1 s1 p1) (VT.mk 4 n2 d2 b2 s2 p2) = false) (t : TY) (KT : ∀ W, Below w.heap.size w W → Calls Tryd.prog 42 #[V, .agg #[.int .i64 d1, .int .u8 b1, .string s1], .agg #[.int .i64 d2, .int .u8 b2, .string s2]] W fun e w' => e = .returned (.agg #[.int .i64 t.d, .int .u8 t.b, .string t.s]) ∧ Below W.heap.size W w') (hT : tyE ⟨t.d, t.b, t.s⟩ ⟨0, 0, ⟨#[]⟩⟩ = true) :
    Calls Tryd.prog 44 #[V, .agg #[.int .i64 4, .int .i64 n1, .int .i64 d1, .int .u8 b1, .string s1, .int .i64 p1], .agg #[.int .i64 4, .int .i64 n2, .int .i64 d2, .int .u8 b2, .string s2, .int .i64 p2]] w (VtRet w vtZ) := by
  have e1 := fun w => vt_eqF hE w
  go_enter Tryd.func44, Tryd.ntmps44
  go_upto_region 1 with fail
  obtain ⟨H0, H1, H2, hB, hz⟩ := three_laid w (.cells #[.int .i64 4, .int .i64 n1, .int .i64 d1, .int .u8 b1, .string s1, .int .i64 p1] 43) (.cells #[.int .i64 4, .int .i64 n2, .int .i64 d2, .int .u8 b2, .string s2, .int .i64 p2] 43) (.cells #[.int .i64 0, .int .i64 0, .int .i64 0, .int .u8 0, .string ⟨#[]⟩, .int .i64 0] 43)
  generalize ((w.alloc (.cells #[.int .i64 4, .int .i64 n1, .int .i64 d1, .int .u8 b1, .string s1, .int .i64 p1] 43)).alloc (.cells #[.int .i64 4, .int .i64 n2, .int .i64 d2, .int .u8 b2, .string s2, .int .i64 p2] 43)).alloc (.cells #[.int .i64 0, .int .i64 0, .int .i64 0, .int .u8 0, .string ⟨#[]⟩, .int .i64 0] 43) = W at H0 H1 H2 hB hz ⊢
  obtain ⟨xa0, xa1, xa2, xa3, xa4, xa5, fa⟩ := six_cells H0; obtain ⟨xb0, xb1, xb2, xb3, xb4, xb5, fb⟩ := six_cells H1; obtain ⟨xc0, xc1, xc2, xc3, xc4, xc5, fc⟩ := six_cells H2
  go_upto_region 9 with (go_at_call 42; (with_reducible refine (KT _ hB).mono ?_); rintro e w1 ⟨rfl, hb1⟩; replace H0 := (hb1.block _ (lt_heap H0)).trans H0; replace H1 := (hb1.block _ (lt_heap H1)).trans H1; replace H2 := (hb1.block _ (lt_heap H2)).trans H2; replace hB := below_on hB hb1; clear hb1)
  have H7 := World.alloc_heap_new w1 (.cells #[.int .i64 t.d, .int .u8 t.b, .string t.s] 41)
  replace H2 := laid_old (o' := (.cells #[.int .i64 t.d, .int .u8 t.b, .string t.s] 41)) H2
  replace hB := below_al hB (.cells #[.int .i64 t.d, .int .u8 t.b, .string t.s] 41)
  generalize w1.alloc (.cells #[.int .i64 t.d, .int .u8 t.b, .string t.s] 41) = W2 at H7 H2 hB ⊢
  generalize w1.heap.size = B7 at H7 ⊢
  clear xa0 xa1 xa2 xa3 xa4 xa5 xb0 xb1 xb2 xb3 xb4 xb5 xc0 xc1 xc2 xc3 xc4 xc5 fa fb fc
  obtain ⟨y0, y1, y2, g0, g1, g2⟩ := three_cells H7
  obtain ⟨xc0, xc1, xc2, xc3, xc4, xc5, fc⟩ := six_cells H2
  have e2 := fun w => ty_neP hT w
  go_wp2
  refine bodyPost_ret (vtr_ret rfl rfl (set_six H2)) rfl ⟨rfl, ?_⟩
  exact below6 hB (by omega) _ _ _ _ _ _
end Go.Proofs.YthifmcnemeiphaaDoor

/- Me -/
/- Layer 18: VTypes, in the reference (written by gen/md.py). -/
namespace Go.Proofs.YthifmcnemeiphaaDoor
open Go.ChangeShapes Go.WideShapes Go.ChangeAt Go.RowKit Go.PlainAid Go.Maps
set_option linter.unusedSimpArgs false
set_option linter.unusedVariables false

set_option maxHeartbeats 4000000 in
theorem rvt_e (V : Value) (a : VT) (w : World) :
    Calls Tryd.prog 45 #[V, (Value.agg #[Value.int IntKind.i64 (VT.k a), Value.int IntKind.i64 (VT.n a), Value.int IntKind.i64 (VT.d a), Value.int IntKind.u8 (VT.b a), Value.string (VT.s a), Value.int IntKind.i64 (VT.p a)]), (Value.agg #[Value.int IntKind.i64 (VT.k a), Value.int IntKind.i64 (VT.n a), Value.int IntKind.i64 (VT.d a), Value.int IntKind.u8 (VT.b a), Value.string (VT.s a), Value.int IntKind.i64 (VT.p a)])] w (VtRet w a) := by
  go_enter Tryd.func45, Tryd.ntmps45
  go_upto_region 1 with fail
  obtain ⟨H0, H1, H2, hB, hz⟩ := three_laid w (.cells #[.int .i64 a.k, .int .i64 a.n, .int .i64 a.d, .int .u8 a.b, .string a.s, .int .i64 a.p] 43) (.cells #[.int .i64 a.k, .int .i64 a.n, .int .i64 a.d, .int .u8 a.b, .string a.s, .int .i64 a.p] 43) (.cells #[.int .i64 0, .int .i64 0, .int .i64 0, .int .u8 0, .string ⟨#[]⟩, .int .i64 0] 43)
  generalize ((w.alloc (.cells #[.int .i64 a.k, .int .i64 a.n, .int .i64 a.d, .int .u8 a.b, .string a.s, .int .i64 a.p] 43)).alloc (.cells #[.int .i64 a.k, .int .i64 a.n, .int .i64 a.d, .int .u8 a.b, .string a.s, .int .i64 a.p] 43)).alloc (.cells #[.int .i64 0, .int .i64 0, .int .i64 0, .int .u8 0, .string ⟨#[]⟩, .int .i64 0] 43) = W at H0 H1 H2 hB hz ⊢
  obtain ⟨xa0, xa1, xa2, xa3, xa4, xa5, fa⟩ := six_cells H0; obtain ⟨xb0, xb1, xb2, xb3, xb4, xb5, fb⟩ := six_cells H1; obtain ⟨xc0, xc1, xc2, xc3, xc4, xc5, fc⟩ := six_cells H2
  go_wp2
  refine bodyPost_ret (vtr_ret rfl rfl (set_six H2)) rfl ⟨rfl, ?_⟩
  exact below6 hB (by omega) _ _ _ _ _ _
set_option maxRecDepth 100000 in
set_option maxHeartbeats 4000000 in
theorem rvt_34 (V : Value) (n1 d1 b1 p1 n2 d2 b2 p2 : Int) (s1 s2 : ByteArray) (w : World) (hE : vtE (VT.mk 3 n1 d1 b1 s1 p1) (VT.mk 4 n2 d2 b2 s2 p2) = false)  :
    Calls Tryd.prog 45 #[V, .agg #[.int .i64 3, .int .i64 n1, .int .i64 d1, .int .u8 b1, .string s1, .int .i64 p1], .agg #[.int .i64 4, .int .i64 n2, .int .i64 d2, .int .u8 b2, .string s2, .int .i64 p2]] w (VtRet w (VT.mk 4 n2 d2 b2 s2 p2)) := by
  have e1 := fun w => vt_eqF hE w
  go_enter Tryd.func45, Tryd.ntmps45
  go_upto_region 1 with fail
  obtain ⟨H0, H1, H2, hB, hz⟩ := three_laid w (.cells #[.int .i64 3, .int .i64 n1, .int .i64 d1, .int .u8 b1, .string s1, .int .i64 p1] 43) (.cells #[.int .i64 4, .int .i64 n2, .int .i64 d2, .int .u8 b2, .string s2, .int .i64 p2] 43) (.cells #[.int .i64 0, .int .i64 0, .int .i64 0, .int .u8 0, .string ⟨#[]⟩, .int .i64 0] 43)
  generalize ((w.alloc (.cells #[.int .i64 3, .int .i64 n1, .int .i64 d1, .int .u8 b1, .string s1, .int .i64 p1] 43)).alloc (.cells #[.int .i64 4, .int .i64 n2, .int .i64 d2, .int .u8 b2, .string s2, .int .i64 p2] 43)).alloc (.cells #[.int .i64 0, .int .i64 0, .int .i64 0, .int .u8 0, .string ⟨#[]⟩, .int .i64 0] 43) = W at H0 H1 H2 hB hz ⊢
  obtain ⟨xa0, xa1, xa2, xa3, xa4, xa5, fa⟩ := six_cells H0; obtain ⟨xb0, xb1, xb2, xb3, xb4, xb5, fb⟩ := six_cells H1; obtain ⟨xc0, xc1, xc2, xc3, xc4, xc5, fc⟩ := six_cells H2
  go_wp2
  refine bodyPost_ret (vtr_ret rfl rfl (set_six H2)) rfl ⟨rfl, ?_⟩
  exact below6 hB (by omega) _ _ _ _ _ _
set_option maxRecDepth 100000 in
set_option maxHeartbeats 4000000 in
theorem rvt_43 (V : Value) (n1 d1 b1 p1 n2 d2 b2 p2 : Int) (s1 s2 : ByteArray) (w : World) (hE : vtE (VT.mk 4 n1 d1 b1 s1 p1) (VT.mk 3 n2 d2 b2 s2 p2) = false)  :
    Calls Tryd.prog 45 #[V, .agg #[.int .i64 4, .int .i64 n1, .int .i64 d1, .int .u8 b1, .string s1, .int .i64 p1], .agg #[.int .i64 3, .int .i64 n2, .int .i64 d2, .int .u8 b2, .string s2, .int .i64 p2]] w (VtRet w (VT.mk 4 n1 d1 b1 s1 p1)) := by
  have e1 := fun w => vt_eqF hE w
  go_enter Tryd.func45, Tryd.ntmps45
  go_upto_region 1 with fail
  obtain ⟨H0, H1, H2, hB, hz⟩ := three_laid w (.cells #[.int .i64 4, .int .i64 n1, .int .i64 d1, .int .u8 b1, .string s1, .int .i64 p1] 43) (.cells #[.int .i64 3, .int .i64 n2, .int .i64 d2, .int .u8 b2, .string s2, .int .i64 p2] 43) (.cells #[.int .i64 0, .int .i64 0, .int .i64 0, .int .u8 0, .string ⟨#[]⟩, .int .i64 0] 43)
  generalize ((w.alloc (.cells #[.int .i64 4, .int .i64 n1, .int .i64 d1, .int .u8 b1, .string s1, .int .i64 p1] 43)).alloc (.cells #[.int .i64 3, .int .i64 n2, .int .i64 d2, .int .u8 b2, .string s2, .int .i64 p2] 43)).alloc (.cells #[.int .i64 0, .int .i64 0, .int .i64 0, .int .u8 0, .string ⟨#[]⟩, .int .i64 0] 43) = W at H0 H1 H2 hB hz ⊢
  obtain ⟨xa0, xa1, xa2, xa3, xa4, xa5, fa⟩ := six_cells H0; obtain ⟨xb0, xb1, xb2, xb3, xb4, xb5, fb⟩ := six_cells H1; obtain ⟨xc0, xc1, xc2, xc3, xc4, xc5, fc⟩ := six_cells H2
  go_wp2
  refine bodyPost_ret (vtr_ret rfl rfl (set_six H2)) rfl ⟨rfl, ?_⟩
  exact below6 hB (by omega) _ _ _ _ _ _
set_option maxRecDepth 100000 in
set_option maxHeartbeats 4000000 in
theorem rvt_3x (V : Value) (n1 d1 b1 p1 k2 n2 d2 b2 p2 : Int) (s1 s2 : ByteArray) (w : World) (hE : vtE (VT.mk 3 n1 d1 b1 s1 p1) (VT.mk k2 n2 d2 b2 s2 p2) = false) (h2 : ¬ k2 = 4) :
    Calls Tryd.prog 45 #[V, .agg #[.int .i64 3, .int .i64 n1, .int .i64 d1, .int .u8 b1, .string s1, .int .i64 p1], .agg #[.int .i64 k2, .int .i64 n2, .int .i64 d2, .int .u8 b2, .string s2, .int .i64 p2]] w (VtRet w vtZ) := by
  have e1 := fun w => vt_eqF hE w
  go_enter Tryd.func45, Tryd.ntmps45
  go_upto_region 1 with fail
  obtain ⟨H0, H1, H2, hB, hz⟩ := three_laid w (.cells #[.int .i64 3, .int .i64 n1, .int .i64 d1, .int .u8 b1, .string s1, .int .i64 p1] 43) (.cells #[.int .i64 k2, .int .i64 n2, .int .i64 d2, .int .u8 b2, .string s2, .int .i64 p2] 43) (.cells #[.int .i64 0, .int .i64 0, .int .i64 0, .int .u8 0, .string ⟨#[]⟩, .int .i64 0] 43)
  generalize ((w.alloc (.cells #[.int .i64 3, .int .i64 n1, .int .i64 d1, .int .u8 b1, .string s1, .int .i64 p1] 43)).alloc (.cells #[.int .i64 k2, .int .i64 n2, .int .i64 d2, .int .u8 b2, .string s2, .int .i64 p2] 43)).alloc (.cells #[.int .i64 0, .int .i64 0, .int .i64 0, .int .u8 0, .string ⟨#[]⟩, .int .i64 0] 43) = W at H0 H1 H2 hB hz ⊢
  obtain ⟨xa0, xa1, xa2, xa3, xa4, xa5, fa⟩ := six_cells H0; obtain ⟨xb0, xb1, xb2, xb3, xb4, xb5, fb⟩ := six_cells H1; obtain ⟨xc0, xc1, xc2, xc3, xc4, xc5, fc⟩ := six_cells H2
  go_wp2
  refine bodyPost_ret (vtr_ret rfl rfl (set_six H2)) rfl ⟨rfl, ?_⟩
  exact below6 hB (by omega) _ _ _ _ _ _
set_option maxRecDepth 100000 in
set_option maxHeartbeats 4000000 in
theorem rvt_4x (V : Value) (n1 d1 b1 p1 k2 n2 d2 b2 p2 : Int) (s1 s2 : ByteArray) (w : World) (hE : vtE (VT.mk 4 n1 d1 b1 s1 p1) (VT.mk k2 n2 d2 b2 s2 p2) = false) (h2 : ¬ k2 = 3) (h3 : ¬ k2 = 4) :
    Calls Tryd.prog 45 #[V, .agg #[.int .i64 4, .int .i64 n1, .int .i64 d1, .int .u8 b1, .string s1, .int .i64 p1], .agg #[.int .i64 k2, .int .i64 n2, .int .i64 d2, .int .u8 b2, .string s2, .int .i64 p2]] w (VtRet w vtZ) := by
  have e1 := fun w => vt_eqF hE w
  go_enter Tryd.func45, Tryd.ntmps45
  go_upto_region 1 with fail
  obtain ⟨H0, H1, H2, hB, hz⟩ := three_laid w (.cells #[.int .i64 4, .int .i64 n1, .int .i64 d1, .int .u8 b1, .string s1, .int .i64 p1] 43) (.cells #[.int .i64 k2, .int .i64 n2, .int .i64 d2, .int .u8 b2, .string s2, .int .i64 p2] 43) (.cells #[.int .i64 0, .int .i64 0, .int .i64 0, .int .u8 0, .string ⟨#[]⟩, .int .i64 0] 43)
  generalize ((w.alloc (.cells #[.int .i64 4, .int .i64 n1, .int .i64 d1, .int .u8 b1, .string s1, .int .i64 p1] 43)).alloc (.cells #[.int .i64 k2, .int .i64 n2, .int .i64 d2, .int .u8 b2, .string s2, .int .i64 p2] 43)).alloc (.cells #[.int .i64 0, .int .i64 0, .int .i64 0, .int .u8 0, .string ⟨#[]⟩, .int .i64 0] 43) = W at H0 H1 H2 hB hz ⊢
  obtain ⟨xa0, xa1, xa2, xa3, xa4, xa5, fa⟩ := six_cells H0; obtain ⟨xb0, xb1, xb2, xb3, xb4, xb5, fb⟩ := six_cells H1; obtain ⟨xc0, xc1, xc2, xc3, xc4, xc5, fc⟩ := six_cells H2
  go_wp2
  refine bodyPost_ret (vtr_ret rfl rfl (set_six H2)) rfl ⟨rfl, ?_⟩
  exact below6 hB (by omega) _ _ _ _ _ _
set_option maxRecDepth 100000 in
set_option maxHeartbeats 4000000 in
theorem rvt_xx (V : Value) (k1 n1 d1 b1 p1 k2 n2 d2 b2 p2 : Int) (s1 s2 : ByteArray) (w : World) (hE : vtE (VT.mk k1 n1 d1 b1 s1 p1) (VT.mk k2 n2 d2 b2 s2 p2) = false) (h2 : ¬ k1 = 3) (h3 : ¬ k1 = 4) :
    Calls Tryd.prog 45 #[V, .agg #[.int .i64 k1, .int .i64 n1, .int .i64 d1, .int .u8 b1, .string s1, .int .i64 p1], .agg #[.int .i64 k2, .int .i64 n2, .int .i64 d2, .int .u8 b2, .string s2, .int .i64 p2]] w (VtRet w vtZ) := by
  have e1 := fun w => vt_eqF hE w
  go_enter Tryd.func45, Tryd.ntmps45
  go_upto_region 1 with fail
  obtain ⟨H0, H1, H2, hB, hz⟩ := three_laid w (.cells #[.int .i64 k1, .int .i64 n1, .int .i64 d1, .int .u8 b1, .string s1, .int .i64 p1] 43) (.cells #[.int .i64 k2, .int .i64 n2, .int .i64 d2, .int .u8 b2, .string s2, .int .i64 p2] 43) (.cells #[.int .i64 0, .int .i64 0, .int .i64 0, .int .u8 0, .string ⟨#[]⟩, .int .i64 0] 43)
  generalize ((w.alloc (.cells #[.int .i64 k1, .int .i64 n1, .int .i64 d1, .int .u8 b1, .string s1, .int .i64 p1] 43)).alloc (.cells #[.int .i64 k2, .int .i64 n2, .int .i64 d2, .int .u8 b2, .string s2, .int .i64 p2] 43)).alloc (.cells #[.int .i64 0, .int .i64 0, .int .i64 0, .int .u8 0, .string ⟨#[]⟩, .int .i64 0] 43) = W at H0 H1 H2 hB hz ⊢
  obtain ⟨xa0, xa1, xa2, xa3, xa4, xa5, fa⟩ := six_cells H0; obtain ⟨xb0, xb1, xb2, xb3, xb4, xb5, fb⟩ := six_cells H1; obtain ⟨xc0, xc1, xc2, xc3, xc4, xc5, fc⟩ := six_cells H2
  go_wp2
  refine bodyPost_ret (vtr_ret rfl rfl (set_six H2)) rfl ⟨rfl, ?_⟩
  exact below6 hB (by omega) _ _ _ _ _ _
set_option maxRecDepth 100000 in
set_option maxHeartbeats 4000000 in
theorem rvt_44 (V : Value) (n1 d1 b1 p1 n2 d2 b2 p2 : Int) (s1 s2 : ByteArray) (w : World) (hE : vtE (VT.mk 4 n1 d1 b1 s1 p1) (VT.mk 4 n2 d2 b2 s2 p2) = false) (t : TY) (KT : ∀ W, Below w.heap.size w W → Calls Tryd.prog 43 #[V, .agg #[.int .i64 d1, .int .u8 b1, .string s1], .agg #[.int .i64 d2, .int .u8 b2, .string s2]] W fun e w' => e = .returned (.agg #[.int .i64 t.d, .int .u8 t.b, .string t.s]) ∧ Below W.heap.size W w') (hT : tyE ⟨t.d, t.b, t.s⟩ ⟨0, 0, ⟨#[]⟩⟩ = false) :
    Calls Tryd.prog 45 #[V, .agg #[.int .i64 4, .int .i64 n1, .int .i64 d1, .int .u8 b1, .string s1, .int .i64 p1], .agg #[.int .i64 4, .int .i64 n2, .int .i64 d2, .int .u8 b2, .string s2, .int .i64 p2]] w (VtRet w ⟨4, 0, t.d, t.b, t.s, 0⟩) := by
  have e1 := fun w => vt_eqF hE w
  go_enter Tryd.func45, Tryd.ntmps45
  go_upto_region 1 with fail
  obtain ⟨H0, H1, H2, hB, hz⟩ := three_laid w (.cells #[.int .i64 4, .int .i64 n1, .int .i64 d1, .int .u8 b1, .string s1, .int .i64 p1] 43) (.cells #[.int .i64 4, .int .i64 n2, .int .i64 d2, .int .u8 b2, .string s2, .int .i64 p2] 43) (.cells #[.int .i64 0, .int .i64 0, .int .i64 0, .int .u8 0, .string ⟨#[]⟩, .int .i64 0] 43)
  generalize ((w.alloc (.cells #[.int .i64 4, .int .i64 n1, .int .i64 d1, .int .u8 b1, .string s1, .int .i64 p1] 43)).alloc (.cells #[.int .i64 4, .int .i64 n2, .int .i64 d2, .int .u8 b2, .string s2, .int .i64 p2] 43)).alloc (.cells #[.int .i64 0, .int .i64 0, .int .i64 0, .int .u8 0, .string ⟨#[]⟩, .int .i64 0] 43) = W at H0 H1 H2 hB hz ⊢
  obtain ⟨xa0, xa1, xa2, xa3, xa4, xa5, fa⟩ := six_cells H0; obtain ⟨xb0, xb1, xb2, xb3, xb4, xb5, fb⟩ := six_cells H1; obtain ⟨xc0, xc1, xc2, xc3, xc4, xc5, fc⟩ := six_cells H2
  go_upto_region 9 with (go_at_call 43; (with_reducible refine (KT _ hB).mono ?_); rintro e w1 ⟨rfl, hb1⟩; replace H0 := (hb1.block _ (lt_heap H0)).trans H0; replace H1 := (hb1.block _ (lt_heap H1)).trans H1; replace H2 := (hb1.block _ (lt_heap H2)).trans H2; replace hB := below_on hB hb1; clear hb1)
  have H7 := World.alloc_heap_new w1 (.cells #[.int .i64 t.d, .int .u8 t.b, .string t.s] 41)
  replace H2 := laid_old (o' := (.cells #[.int .i64 t.d, .int .u8 t.b, .string t.s] 41)) H2
  replace hB := below_al hB (.cells #[.int .i64 t.d, .int .u8 t.b, .string t.s] 41)
  generalize w1.alloc (.cells #[.int .i64 t.d, .int .u8 t.b, .string t.s] 41) = W2 at H7 H2 hB ⊢
  generalize w1.heap.size = B7 at H7 ⊢
  clear xa0 xa1 xa2 xa3 xa4 xa5 xb0 xb1 xb2 xb3 xb4 xb5 xc0 xc1 xc2 xc3 xc4 xc5 fa fb fc
  obtain ⟨y0, y1, y2, g0, g1, g2⟩ := three_cells H7
  obtain ⟨xc0, xc1, xc2, xc3, xc4, xc5, fc⟩ := six_cells H2
  have e2 := fun w => ty_neP hT w
  go_wp2
  refine bodyPost_ret (vtr_ret rfl rfl (set_six H2)) rfl ⟨rfl, ?_⟩
  exact below6 hB (by omega) _ _ _ _ _ _
set_option maxRecDepth 100000 in
set_option maxHeartbeats 4000000 in
theorem rvt_44z (V : Value) (n1 d1 b1 p1 n2 d2 b2 p2 : Int) (s1 s2 : ByteArray) (w : World) (hE : vtE (VT.mk 4 n1 d1 b1 s1 p1) (VT.mk 4 n2 d2 b2 s2 p2) = false) (t : TY) (KT : ∀ W, Below w.heap.size w W → Calls Tryd.prog 43 #[V, .agg #[.int .i64 d1, .int .u8 b1, .string s1], .agg #[.int .i64 d2, .int .u8 b2, .string s2]] W fun e w' => e = .returned (.agg #[.int .i64 t.d, .int .u8 t.b, .string t.s]) ∧ Below W.heap.size W w') (hT : tyE ⟨t.d, t.b, t.s⟩ ⟨0, 0, ⟨#[]⟩⟩ = true) :
    Calls Tryd.prog 45 #[V, .agg #[.int .i64 4, .int .i64 n1, .int .i64 d1, .int .u8 b1, .string s1, .int .i64 p1], .agg #[.int .i64 4, .int .i64 n2, .int .i64 d2, .int .u8 b2, .string s2, .int .i64 p2]] w (VtRet w vtZ) := by
  have e1 := fun w => vt_eqF hE w
  go_enter Tryd.func45, Tryd.ntmps45
  go_upto_region 1 with fail
  obtain ⟨H0, H1, H2, hB, hz⟩ := three_laid w (.cells #[.int .i64 4, .int .i64 n1, .int .i64 d1, .int .u8 b1, .string s1, .int .i64 p1] 43) (.cells #[.int .i64 4, .int .i64 n2, .int .i64 d2, .int .u8 b2, .string s2, .int .i64 p2] 43) (.cells #[.int .i64 0, .int .i64 0, .int .i64 0, .int .u8 0, .string ⟨#[]⟩, .int .i64 0] 43)
  generalize ((w.alloc (.cells #[.int .i64 4, .int .i64 n1, .int .i64 d1, .int .u8 b1, .string s1, .int .i64 p1] 43)).alloc (.cells #[.int .i64 4, .int .i64 n2, .int .i64 d2, .int .u8 b2, .string s2, .int .i64 p2] 43)).alloc (.cells #[.int .i64 0, .int .i64 0, .int .i64 0, .int .u8 0, .string ⟨#[]⟩, .int .i64 0] 43) = W at H0 H1 H2 hB hz ⊢
  obtain ⟨xa0, xa1, xa2, xa3, xa4, xa5, fa⟩ := six_cells H0; obtain ⟨xb0, xb1, xb2, xb3, xb4, xb5, fb⟩ := six_cells H1; obtain ⟨xc0, xc1, xc2, xc3, xc4, xc5, fc⟩ := six_cells H2
  go_upto_region 9 with (go_at_call 43; (with_reducible refine (KT _ hB).mono ?_); rintro e w1 ⟨rfl, hb1⟩; replace H0 := (hb1.block _ (lt_heap H0)).trans H0; replace H1 := (hb1.block _ (lt_heap H1)).trans H1; replace H2 := (hb1.block _ (lt_heap H2)).trans H2; replace hB := below_on hB hb1; clear hb1)
  have H7 := World.alloc_heap_new w1 (.cells #[.int .i64 t.d, .int .u8 t.b, .string t.s] 41)
  replace H2 := laid_old (o' := (.cells #[.int .i64 t.d, .int .u8 t.b, .string t.s] 41)) H2
  replace hB := below_al hB (.cells #[.int .i64 t.d, .int .u8 t.b, .string t.s] 41)
  generalize w1.alloc (.cells #[.int .i64 t.d, .int .u8 t.b, .string t.s] 41) = W2 at H7 H2 hB ⊢
  generalize w1.heap.size = B7 at H7 ⊢
  clear xa0 xa1 xa2 xa3 xa4 xa5 xb0 xb1 xb2 xb3 xb4 xb5 xc0 xc1 xc2 xc3 xc4 xc5 fa fb fc
  obtain ⟨y0, y1, y2, g0, g1, g2⟩ := three_cells H7
  obtain ⟨xc0, xc1, xc2, xc3, xc4, xc5, fc⟩ := six_cells H2
  have e2 := fun w => ty_neP hT w
  go_wp2
  refine bodyPost_ret (vtr_ret rfl rfl (set_six H2)) rfl ⟨rfl, ?_⟩
  exact below6 hB (by omega) _ _ _ _ _ _
end Go.Proofs.YthifmcnemeiphaaDoor

/- Mi -/
/- Layer 18: Frames of frames of different shapes. -/
namespace Go.Proofs.YthifmcnemeiphaaDoor
open Go.ChangeShapes Go.WideShapes Go.ChangeAt Go.RowKit Go.PlainAid Go.Maps
set_option linter.unusedSimpArgs false
set_option linter.unusedVariables false

theorem fr_size : (Tryd.prog.info? 56).map (·.size) = some 3 := by kernel_rfl
theorem fr_under : ∃ fs, Tryd.prog.underlying 56 = some (.struct fs) := ⟨_, Tryd.underlying56⟩
theorem fr_ret {fn : Func} (hf : fn.results = #[.cell 6 56, .tmp 7]) {a : Act} {w : World} {B : Nat} {x0 x1 x2 : Value} (ht : a.tmps.getD 6 undef = .pointer (some ⟨B, 0, none⟩)) (hg : w.heap[B]? = some (.cells #[x0, x1, x2] 56)) :
    (results fn a.tmps).run Tryd.prog w = .ok (.tuple #[.agg #[x0, x1, x2], a.tmps.getD 7 undef]) w := by
  rw [results_cell_tmp hf, ht]
  obtain ⟨fs, hu⟩ := fr_under
  have hl := run_loadVar_row (P := Tryd.prog) w B 56 56 #[x0, x1, x2] (0, 0) _ hg hu rfl fr_size
  simp [asAddr, Result.andThen, hl]
abbrev frZ : Value := .agg #[.slice none 0 0, .slice none 0 0, .bool false]
set_option maxRecDepth 100000 in
set_option maxHeartbeats 4000000 in
theorem mfr_bad (V : Value) (A1 A2 A3 A4 : Option Addr) (n1 n2 n3 n4 c1 c2 c3 c4 : Nat) (u1 u2 : Bool) (w : World) (h : ((n1 : Int) != n3) = true ∨ (((n1 : Int) != n3) = false ∧ ((n2 : Int) != n4) = true)) :
    Calls Tryd.prog 47 #[V, .agg #[.slice A1 n1 c1, .slice A2 n2 c2, .bool u1], .agg #[.slice A3 n3 c3, .slice A4 n4 c4, .bool u2]] w fun e w' => e = .returned (.tuple #[frZ, .int .i64 23]) ∧ Below w.heap.size w w' := by
  rcases h with h | ⟨h0, h⟩
  all_goals
    go_enter Tryd.func47, Tryd.ntmps47
    go_upto_region 1 with fail
    obtain ⟨H0, H1, H2, hB, hz⟩ := three_laid w (.cells #[.slice A1 n1 c1, .slice A2 n2 c2, .bool u1] 56) (.cells #[.slice A3 n3 c3, .slice A4 n4 c4, .bool u2] 56) (.cells #[.slice none 0 0, .slice none 0 0, .bool false] 56)
    generalize ((w.alloc (.cells #[.slice A1 n1 c1, .slice A2 n2 c2, .bool u1] 56)).alloc (.cells #[.slice A3 n3 c3, .slice A4 n4 c4, .bool u2] 56)).alloc (.cells #[.slice none 0 0, .slice none 0 0, .bool false] 56) = W at H0 H1 H2 hB hz ⊢
    obtain ⟨xa0, xa1, xa2, fa0, fa1, fa2⟩ := three_cells H0; obtain ⟨xb0, xb1, xb2, fb0, fb1, fb2⟩ := three_cells H1; obtain ⟨xc0, xc1, xc2, fc0, fc1, fc2⟩ := three_cells H2
    go_wp2
    refine bodyPost_ret (fr_ret rfl rfl (set_three H2)) rfl ⟨rfl, ?_⟩
    exact below_st (below_st (below_st hB (by simp; omega) _) (by simp; omega) _) (by simp; omega) _
end Go.Proofs.YthifmcnemeiphaaDoor
