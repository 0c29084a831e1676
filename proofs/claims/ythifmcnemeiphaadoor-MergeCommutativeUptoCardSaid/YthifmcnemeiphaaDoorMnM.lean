import Derived.Test.YthifmcnemeiphaaDoorMaM
import Derived.Laws.ResultCell
import Derived.Test.YthifmcnemeiphaaDoorHv
import Derived.Test.YthifmcnemeiphaaDoorHx
import Derived.Test.YthifmcnemeiphaaDoorHy
import Derived.Test.YthifmcnemeiphaaDoorMbM
import Derived.Test.YthifmcnemeiphaaDoorMfM
import Derived.Test.YthifmcnemeiphaaDoorReg
import Derived.Laws.AppendOwnNone
import Derived.Laws.OwnMore
import Derived.Test.YthifmcnemeiphaaDoorHu

/- Mc -/
/- Layer 18: verification types as values; the join of two, pure. -/
namespace Go.Proofs.YthifmcnemeiphaaDoor
open Go.ChangeShapes Go.WideShapes Go.ChangeAt Go.RowKit Go.PlainAid Go.Maps
set_option linter.unusedSimpArgs false
set_option linter.unusedVariables false

structure VT where
  k : Int
  n : Int
  d : Int
  b : Int
  s : ByteArray
  p : Int
def vtZ : VT := ⟨0, 0, 0, 0, ⟨#[]⟩, 0⟩
def VT.ty (x : VT) : TY := ⟨x.d, x.b, x.s⟩
def vtE (a b : VT) : Bool := decide (a.k = b.k) && decide (a.n = b.n) && tyE a.ty b.ty && decide (a.p = b.p)
/-- the join of two verification types -/
def vtJ (L : List CI) (a b : VT) : VT :=
  if vtE a b = true then a
  else if a.k = 3 ∧ b.k = 4 then b
  else if a.k = 4 ∧ b.k = 3 then a
  else if a.k = 4 ∧ b.k = 4 ∧ tyE (tyJ L a.ty b.ty) tyZ = false then ⟨4, 0, (tyJ L a.ty b.ty).d, (tyJ L a.ty b.ty).b, (tyJ L a.ty b.ty).s, 0⟩
  else vtZ
theorem vtE_eq {a b : VT} (h : vtE a b = true) : a = b := by
  unfold vtE at h
  rw [Bool.and_eq_true, Bool.and_eq_true, Bool.and_eq_true, decide_eq_true_iff, decide_eq_true_iff, decide_eq_true_iff] at h
  obtain ⟨⟨⟨h1, h2⟩, h3⟩, h4⟩ := h
  have h5 := tyE_eq h3
  cases a; cases b
  unfold VT.ty at h5
  simp only [TY.mk.injEq] at h1 h2 h4 h5
  obtain ⟨h6, h7, h8⟩ := h5
  rw [h1, h2, h4, h6, h7, h8]
theorem tyE_self (a : TY) : tyE a a = true := by unfold tyE; simp
theorem vtE_self (a : VT) : vtE a a = true := by unfold vtE; rw [tyE_self]; simp
theorem vt_eqIn (a b : VT) (w : World) : (Op.equalIn 10000 43 (Value.agg #[Value.int IntKind.i64 (VT.k a), Value.int IntKind.i64 (VT.n a), Value.int IntKind.i64 (VT.d a), Value.int IntKind.u8 (VT.b a), Value.string (VT.s a), Value.int IntKind.i64 (VT.p a)]) (Value.agg #[Value.int IntKind.i64 (VT.k b), Value.int IntKind.i64 (VT.n b), Value.int IntKind.i64 (VT.d b), Value.int IntKind.u8 (VT.b b), Value.string (VT.s b), Value.int IntKind.i64 (VT.p b)])).run Tryd.prog w = .ok (vtE a b) w := by
  by_cases h1 : a.k = b.k
  · by_cases h2 : a.n = b.n
    · by_cases h3 : a.d = b.d
      · by_cases h4 : a.b = b.b
        · by_cases h5 : a.s.toList = b.s.toList
          · by_cases h6 : a.p = b.p <;> simp [go_sem, vtE, tyE, VT.ty, *]
          · simp [go_sem, vtE, tyE, VT.ty, *]
        · simp [go_sem, vtE, tyE, VT.ty, *]
      · simp [go_sem, vtE, tyE, VT.ty, *]
    · simp [go_sem, vtE, tyE, VT.ty, *]
  · simp [go_sem, vtE, tyE, VT.ty, *]
theorem vt_eqP {a b : VT} {v : Bool} (h : vtE a b = v) (w : World) : (binOp .eql 43 (Value.agg #[Value.int IntKind.i64 (VT.k a), Value.int IntKind.i64 (VT.n a), Value.int IntKind.i64 (VT.d a), Value.int IntKind.u8 (VT.b a), Value.string (VT.s a), Value.int IntKind.i64 (VT.p a)]) (Value.agg #[Value.int IntKind.i64 (VT.k b), Value.int IntKind.i64 (VT.n b), Value.int IntKind.i64 (VT.d b), Value.int IntKind.u8 (VT.b b), Value.string (VT.s b), Value.int IntKind.i64 (VT.p b)])).run Tryd.prog w = .ok (.bool v) w := by
  rw [run_eql_struct, vt_eqIn, h]; rfl
theorem vt_neP {a b : VT} {v : Bool} (h : vtE a b = v) (w : World) : (binOp .neq 43 (Value.agg #[Value.int IntKind.i64 (VT.k a), Value.int IntKind.i64 (VT.n a), Value.int IntKind.i64 (VT.d a), Value.int IntKind.u8 (VT.b a), Value.string (VT.s a), Value.int IntKind.i64 (VT.p a)]) (Value.agg #[Value.int IntKind.i64 (VT.k b), Value.int IntKind.i64 (VT.n b), Value.int IntKind.i64 (VT.d b), Value.int IntKind.u8 (VT.b b), Value.string (VT.s b), Value.int IntKind.i64 (VT.p b)])).run Tryd.prog w = .ok (.bool (!v)) w := by
  rw [run_neq_struct, vt_eqIn, h]; rfl
theorem vt_eqF {k n d b p k' n' d' b' p' : Int} {s s' : ByteArray} {v : Bool} (h : vtE ⟨k, n, d, b, s, p⟩ ⟨k', n', d', b', s', p'⟩ = v) (w : World) : (binOp .eql 43 (.agg #[.int .i64 k, .int .i64 n, .int .i64 d, .int .u8 b, .string s, .int .i64 p]) (.agg #[.int .i64 k', .int .i64 n', .int .i64 d', .int .u8 b', .string s', .int .i64 p'])).run Tryd.prog w = .ok (.bool v) w :=
  vt_eqP (a := ⟨k, n, d, b, s, p⟩) (b := ⟨k', n', d', b', s', p'⟩) h w
theorem vtr_ret {fn : Func} {k : Nat} (hf : fn.results = #[.cell k 43]) {a : Act} {w : World} {B : Nat} {x0 x1 x2 x3 x4 x5 : Value} (ht : a.tmps.getD k undef = .pointer (some ⟨B, 0, none⟩)) (hg : w.heap[B]? = some (.cells #[x0, x1, x2, x3, x4, x5] 43)) :
    (results fn a.tmps).run Tryd.prog w = .ok (.agg #[x0, x1, x2, x3, x4, x5]) w := by
  obtain ⟨fs, hu⟩ := vt_under
  exact results_cell_row hf a.tmps w B _ _ (0, 0) _ ht hg hu rfl vt_size
def VtRet (w : World) (t : VT) (e : Ending) (w' : World) : Prop := e = .returned (Value.agg #[Value.int IntKind.i64 (VT.k t), Value.int IntKind.i64 (VT.n t), Value.int IntKind.i64 (VT.d t), Value.int IntKind.u8 (VT.b t), Value.string (VT.s t), Value.int IntKind.i64 (VT.p t)]) ∧ Below w.heap.size w w'
theorem below6 {w W : World} {B : Nat} (h : Below w.heap.size w W) (hB : w.heap.size ≤ B) (a b c d e f : Value) : Below w.heap.size w ((((((W.setCell ⟨B, 0, none⟩ a).setCell ⟨B, 1, none⟩ b).setCell ⟨B, 2, none⟩ c).setCell ⟨B, 3, none⟩ d).setCell ⟨B, 4, none⟩ e).setCell ⟨B, 5, none⟩ f) :=
  below_st (below_st (below_st (below_st (below_st (below_st h hB _) hB _) hB _) hB _) hB _) hB _
end Go.Proofs.YthifmcnemeiphaaDoor

/- Md -/
/- Layer 18: VTypes, in the package (written by gen/md.py). -/
namespace Go.Proofs.YthifmcnemeiphaaDoor
open Go.ChangeShapes Go.WideShapes Go.ChangeAt Go.RowKit Go.PlainAid Go.Maps
set_option linter.unusedSimpArgs false
set_option linter.unusedVariables false

set_option maxHeartbeats 4000000 in
theorem mvt_e (V : Value) (a : VT) (w : World) :
    Calls Tryd.prog 44 #[V, (Value.agg #[Value.int IntKind.i64 (VT.k a), Value.int IntKind.i64 (VT.n a), Value.int IntKind.i64 (VT.d a), Value.int IntKind.u8 (VT.b a), Value.string (VT.s a), Value.int IntKind.i64 (VT.p a)]), (Value.agg #[Value.int IntKind.i64 (VT.k a), Value.int IntKind.i64 (VT.n a), Value.int IntKind.i64 (VT.d a), Value.int IntKind.u8 (VT.b a), Value.string (VT.s a), Value.int IntKind.i64 (VT.p a)])] w (VtRet w a) := by
  go_enter Tryd.func44, Tryd.ntmps44
  go_upto_region 1 with fail
  obtain ⟨H0, H1, H2, hB, hz⟩ := three_laid w (.cells #[.int .i64 a.k, .int .i64 a.n, .int .i64 a.d, .int .u8 a.b, .string a.s, .int .i64 a.p] 43) (.cells #[.int .i64 a.k, .int .i64 a.n, .int .i64 a.d, .int .u8 a.b, .string a.s, .int .i64 a.p] 43) (.cells #[.int .i64 0, .int .i64 0, .int .i64 0, .int .u8 0, .string ⟨#[]⟩, .int .i64 0] 43)
  generalize ((w.alloc (.cells #[.int .i64 a.k, .int .i64 a.n, .int .i64 a.d, .int .u8 a.b, .string a.s, .int .i64 a.p] 43)).alloc (.cells #[.int .i64 a.k, .int .i64 a.n, .int .i64 a.d, .int .u8 a.b, .string a.s, .int .i64 a.p] 43)).alloc (.cells #[.int .i64 0, .int .i64 0, .int .i64 0, .int .u8 0, .string ⟨#[]⟩, .int .i64 0] 43) = W at H0 H1 H2 hB hz ⊢
  obtain ⟨xa0, xa1, xa2, xa3, xa4, xa5, fa⟩ := six_cells H0; obtain ⟨xb0, xb1, xb2, xb3, xb4, xb5, fb⟩ := six_cells H1; obtain ⟨xc0, xc1, xc2, xc3, xc4, xc5, fc⟩ := six_cells H2
  go_wp2
  refine bodyPost_ret (vtr_ret rfl rfl (set_six H2)) rfl ⟨rfl, ?_⟩
  exact below6 hB (by omega) _ _ _ _ _ _
set_option maxRecDepth 100000 in
set_option maxHeartbeats 4000000 in
theorem mvt_34 (V : Value) (n1 d1 b1 p1 n2 d2 b2 p2 : Int) (s1 s2 : ByteArray) (w : World) (hE : vtE (VT.mk 3 n1 d1 b1 s1 p1) (VT.mk 4 n2 d2 b2 s2 p2) = false)  :
    Calls Tryd.prog 44 #[V, .agg #[.int .i64 3, .int .i64 n1, .int .i64 d1, .int .u8 b1, .string s1, .int .i64 p1], .agg #[.int .i64 4, .int .i64 n2, .int .i64 d2, .int .u8 b2, .string s2, .int .i64 p2]] w (VtRet w (VT.mk 4 n2 d2 b2 s2 p2)) := by
  have e1 := fun w => vt_eqF hE w
  go_enter Tryd.func44, Tryd.ntmps44
  go_upto_region 1 with fail
  obtain ⟨H0, H1, H2, hB, hz⟩ := three_laid w (.cells #[.int .i64 3, .int .i64 n1, .int .i64 d1, .int .u8 b1, .string s1, .int .i64 p1] 43) (.cells #[.int .i64 4, .int .i64 n2, .int .i64 d2, .int .u8 b2, .string s2, .int .i64 p2] 43) (.cells #[.int .i64 0, .int .i64 0, .int .i64 0, .int .u8 0, .string ⟨#[]⟩, .int .i64 0] 43)
  generalize ((w.alloc (.cells #[.int .i64 3, .int .i64 n1, .int .i64 d1, .int .u8 b1, .string s1, .int .i64 p1] 43)).alloc (.cells #[.int .i64 4, .int .i64 n2, .int .i64 d2, .int .u8 b2, .string s2, .int .i64 p2] 43)).alloc (.cells #[.int .i64 0, .int .i64 0, .int .i64 0, .int .u8 0, .string ⟨#[]⟩, .int .i64 0] 43) = W at H0 H1 H2 hB hz ⊢
  obtain ⟨xa0, xa1, xa2, xa3, xa4, xa5, fa⟩ := six_cells H0; obtain ⟨xb0, xb1, xb2, xb3, xb4, xb5, fb⟩ := six_cells H1; obtain ⟨xc0, xc1, xc2, xc3, xc4, xc5, fc⟩ := six_cells H2
  go_wp2
  refine bodyPost_ret (vtr_ret rfl rfl (set_six H2)) rfl ⟨rfl, ?_⟩
  exact below6 hB (by omega) _ _ _ _ _ _
set_option maxRecDepth 100000 in
set_option maxHeartbeats 4000000 in
theorem mvt_43 (V : Value) (n1 d1 b1 p1 n2 d2 b2 p2 : Int) (s1 s2 : ByteArray) (w : World) (hE : vtE (VT.mk 4 n1 d1 b1 s1 p1) (VT.mk 3 n2 d2 b2 s2 p2) = false)  :
    Calls Tryd.prog 44 #[V, .agg #[.int .i64 4, .int .i64 n1, .int .i64 d1, .int .u8 b1, .string s1, .int .i64 p1], .agg #[.int .i64 3, .int .i64 n2, .int .i64 d2, .int .u8 b2, .string s2, .int .i64 p2]] w (VtRet w (VT.mk 4 n1 d1 b1 s1 p1)) := by
  have e1 := fun w => vt_eqF hE w
  go_enter Tryd.func44, Tryd.ntmps44
  go_upto_region 1 with fail
  obtain ⟨H0, H1, H2, hB, hz⟩ := three_laid w (.cells #[.int .i64 4, .int .i64 n1, .int .i64 d1, .int .u8 b1, .string s1, .int .i64 p1] 43) (.cells #[.int .i64 3, .int .i64 n2, .int .i64 d2, .int .u8 b2, .string s2, .int .i64 p2] 43) (.cells #[.int .i64 0, .int .i64 0, .int .i64 0, .int .u8 0, .string ⟨#[]⟩, .int .i64 0] 43)
  generalize ((w.alloc (.cells #[.int .i64 4, .int .i64 n1, .int .i64 d1, .int .u8 b1, .string s1, .int .i64 p1] 43)).alloc (.cells #[.int .i64 3, .int .i64 n2, .int .i64 d2, .int .u8 b2, .string s2, .int .i64 p2] 43)).alloc (.cells #[.int .i64 0, .int .i64 0, .int .i64 0, .int .u8 0, .string ⟨#[]⟩, .int .i64 0] 43) = W at H0 H1 H2 hB hz ⊢
  obtain ⟨xa0, xa1, xa2, xa3, xa4, xa5, fa⟩ := six_cells H0; obtain ⟨xb0, xb1, xb2, xb3, xb4, xb5, fb⟩ := six_cells H1; obtain ⟨xc0, xc1, xc2, xc3, xc4, xc5, fc⟩ := six_cells H2
  go_wp2
  refine bodyPost_ret (vtr_ret rfl rfl (set_six H2)) rfl ⟨rfl, ?_⟩
  exact below6 hB (by omega) _ _ _ _ _ _
set_option maxRecDepth 100000 in
set_option maxHeartbeats 4000000 in
theorem mvt_3x (V : Value) (n1 d1 b1 p1 k2 n2 d2 b2 p2 : Int) (s1 s2 : ByteArray) (w : World) (hE : vtE (VT.mk 3 n1 d1 b1 s1 p1) (VT.mk k2 n2 d2 b2 s2 p2) = false) (h2 : ¬ k2 = 4) :
    Calls Tryd.prog 44 #[V, .agg #[.int .i64 3, .int .i64 n1, .int .i64 d1, .int .u8 b1, .string s1, .int .i64 p1], .agg #[.int .i64 k2, .int .i64 n2, .int .i64 d2, .int .u8 b2, .string s2, .int .i64 p2]] w (VtRet w vtZ) := by
  have e1 := fun w => vt_eqF hE w
  go_enter Tryd.func44, Tryd.ntmps44
  go_upto_region 1 with fail
  obtain ⟨H0, H1, H2, hB, hz⟩ := three_laid w (.cells #[.int .i64 3, .int .i64 n1, .int .i64 d1, .int .u8 b1, .string s1, .int .i64 p1] 43) (.cells #[.int .i64 k2, .int .i64 n2, .int .i64 d2, .int .u8 b2, .string s2, .int .i64 p2] 43) (.cells #[.int .i64 0, .int .i64 0, .int .i64 0, .int .u8 0, .string ⟨#[]⟩, .int .i64 0] 43)
  generalize ((w.alloc (.cells #[.int .i64 3, .int .i64 n1, .int .i64 d1, .int .u8 b1, .string s1, .int .i64 p1] 43)).alloc (.cells #[.int .i64 k2, .int .i64 n2, .int .i64 d2, .int .u8 b2, .string s2, .int .i64 p2] 43)).alloc (.cells #[.int .i64 0, .int .i64 0, .int .i64 0, .int .u8 0, .string ⟨#[]⟩, .int .i64 0] 43) = W at H0 H1 H2 hB hz ⊢
  obtain ⟨xa0, xa1, xa2, xa3, xa4, xa5, fa⟩ := six_cells H0; obtain ⟨xb0, xb1, xb2, xb3, xb4, xb5, fb⟩ := six_cells H1; obtain ⟨xc0, xc1, xc2, xc3, xc4, xc5, fc⟩ := six_cells H2
  go_wp2
  refine bodyPost_ret (vtr_ret rfl rfl (set_six H2)) rfl ⟨rfl, ?_⟩
  exact below6 hB (by omega) _ _ _ _ _ _
set_option maxRecDepth 100000 in
set_option maxHeartbeats 4000000 in
theorem mvt_4x (V : Value) (n1 d1 b1 p1 k2 n2 d2 b2 p2 : Int) (s1 s2 : ByteArray) (w : World) (hE : vtE (VT.mk 4 n1 d1 b1 s1 p1) (VT.mk k2 n2 d2 b2 s2 p2) = false) (h2 : ¬ k2 = 3) (h3 : ¬ k2 = 4) :
    Calls Tryd.prog 44 #[V, .agg #[.int .i64 4, .int .i64 n1, .int .i64 d1, .int .u8 b1, .string s1, .int .i64 p1], .agg #[.int .i64 k2, .int .i64 n2, .int .i64 d2, .int .u8 b2, .string s2, .int .i64 p2]] w (VtRet w vtZ) := by
  have e1 := fun w => vt_eqF hE w
  go_enter Tryd.func44, Tryd.ntmps44
  go_upto_region 1 with fail
  obtain ⟨H0, H1, H2, hB, hz⟩ := three_laid w (.cells #[.int .i64 4, .int .i64 n1, .int .i64 d1, .int .u8 b1, .string s1, .int .i64 p1] 43) (.cells #[.int .i64 k2, .int .i64 n2, .int .i64 d2, .int .u8 b2, .string s2, .int .i64 p2] 43) (.cells #[.int .i64 0, .int .i64 0, .int .i64 0, .int .u8 0, .string ⟨#[]⟩, .int .i64 0] 43)
  generalize ((w.alloc (.cells #[.int .i64 4, .int .i64 n1, .int .i64 d1, .int .u8 b1, .string s1, .int .i64 p1] 43)).alloc (.cells #[.int .i64 k2, .int .i64 n2, .int .i64 d2, .int .u8 b2, .string s2, .int .i64 p2] 43)).alloc (.cells #[.int .i64 0, .int .i64 0, .int .i64 0, .int .u8 0, .string ⟨#[]⟩, .int .i64 0] 43) = W at H0 H1 H2 hB hz ⊢
  obtain ⟨xa0, xa1, xa2, xa3, xa4, xa5, fa⟩ := six_cells H0; obtain ⟨xb0, xb1, xb2, xb3, xb4, xb5, fb⟩ := six_cells H1; obtain ⟨xc0, xc1, xc2, xc3, xc4, xc5, fc⟩ := six_cells H2
  go_wp2
  refine bodyPost_ret (vtr_ret rfl rfl (set_six H2)) rfl ⟨rfl, ?_⟩
  exact below6 hB (by omega) _ _ _ _ _ _
set_option maxRecDepth 100000 in
set_option maxHeartbeats 4000000 in
theorem mvt_xx (V : Value) (k1 n1 d1 b1 p1 k2 n2 d2 b2 p2 : Int) (s1 s2 : ByteArray) (w : World) (hE : vtE (VT.mk k1 n1 d1 b1 s1 p1) (VT.mk k2 n2 d2 b2 s2 p2) = false) (h2 : ¬ k1 = 3) (h3 : ¬ k1 = 4) :
    Calls Tryd.prog 44 #[V, .agg #[.int .i64 k1, .int .i64 n1, .int .i64 d1, .int .u8 b1, .string s1, .int .i64 p1], .agg #[.int .i64 k2, .int .i64 n2, .int .i64 d2, .int .u8 b2, .string s2, .int .i64 p2]] w (VtRet w vtZ) := by
  have e1 := fun w => vt_eqF hE w
  go_enter Tryd.func44, Tryd.ntmps44
  go_upto_region 1 with fail
  obtain ⟨H0, H1, H2, hB, hz⟩ := three_laid w (.cells #[.int .i64 k1, .int .i64 n1, .int .i64 d1, .int .u8 b1, .string s1, .int .i64 p1] 43) (.cells #[.int .i64 k2, .int .i64 n2, .int .i64 d2, .int .u8 b2, .string s2, .int .i64 p2] 43) (.cells #[.int .i64 0, .int .i64 0, .int .i64 0, .int .u8 0, .string ⟨#[]⟩, .int .i64 0] 43)
  generalize ((w.alloc (.cells #[.int .i64 k1, .int .i64 n1, .int .i64 d1, .int .u8 b1, .string s1, .int .i64 p1] 43)).alloc (.cells #[.int .i64 k2, .int .i64 n2, .int .i64 d2, .int .u8 b2, .string s2, .int .i64 p2] 43)).alloc (.cells #[.int .i64 0, .int .i64 0, .int .i64 0, .int .u8 0, .string ⟨#[]⟩, .int .i64 0] 43) = W at H0 H1 H2 hB hz ⊢
  obtain ⟨xa0, xa1, xa2, xa3, xa4, xa5, fa⟩ := six_cells H0; obtain ⟨xb0, xb1, xb2, xb3, xb4, xb5, fb⟩ := six_cells H1; obtain ⟨xc0, xc1, xc2, xc3, xc4, xc5, fc⟩ := six_cells H2
  go_wp2
  refine bodyPost_ret (vtr_ret rfl rfl (set_six H2)) rfl ⟨rfl, ?_⟩
  exact below6 hB (by omega) _ _ _ _ _ _
set_option maxRecDepth 100000 in
set_option maxHeartbeats 4000000 in
theorem mvt_44 (V : Value) (n1 d1 b1 p1 n2 d2 b2 p2 : Int) (s1 s2 : ByteArray) (w : World) (hE : vtE (VT.mk 4 n1 d1 b1 s1 p1) (VT.mk 4 n2 d2 b2 s2 p2) = false) (t : TY) (KT : ∀ W, Below w.heap.size w W → Calls Tryd.prog 42 #[V, .agg #[.int .i64 d1, .int .u8 b1, .string s1], .agg #[.int .i64 d2, .int .u8 b2, .string s2]] W fun e w' => e = .returned (.agg #[.int .i64 t.d, .int .u8 t.b, .string t.s]) ∧ Below W.heap.size W w') (hT : tyE ⟨t.d, t.b, t.s⟩ ⟨0, 0, ⟨#[]⟩⟩ = false) :
    Calls Tryd.prog 44 #[V, .agg #[.int .i64 4, .int .i64 n1, .int .i64 d1, .int .u8 b1, .string s1, .int .i64 p1], .agg #[.int .i64 4, .int .i64 n2, .int .i64 d2, .int .u8 b2, .string s2, .int .i64 p2]] w (VtRet w ⟨4, 0, t.d, t.b, t.s, 0⟩) := by
  have e1 := fun w => vt_eqF hE w
  go_enter Tryd.func44, Tryd.ntmps44
  go_upto_region 1 with fail
  obtain ⟨H0, H1, H2, hB, hz⟩ := three_laid w (.cells #[.int .i64 4, .int .i64 n1, .int .i64 d1, .int .u8 b1, .string s1, .int .i64 p1] 43) (.cells #[.int .i64 4, .int .i64 n2, .int .i64 d2, .int .u8 b2, .string s2, .int .i64 p2] 43) (.cells #[.int .i64 0, .int .i64 0, .int .i64 0, .int .u8 0, .string ⟨#[]⟩, .int .i64 0] 43)
  generalize ((w.alloc (.cells #[.int .i64 4, .int .i64 n1, .int .i64 d1, .int .u8 b1, .string s1, .int .i64 p1] 43)).alloc (.cells #[.int .i64 4, .int .i64 n2, .int .i64 d2, .int .u8 b2, .string s2, .int .i64 p2] 43)).alloc (.cells #[.int .i64 0, .int .i64 0, .int .i64 0, .int .u8 0, .string ⟨#[]⟩, .int .i64 0] 43) = W at H0 H1 H2 hB hz ⊢
  obtain ⟨xa0, xa1, xa2, xa3, xa4, xa5, fa⟩ := six_cells H0; obtain ⟨xb0, xb1, xb2, xb3, xb4, xb5, fb⟩ := six_cells H1; obtain ⟨xc0, xc1, xc2, xc3, xc4, xc5, fc⟩ := six_cells H2
  go_upto_region 9 with (go_at_call 42; (with_reducible refine (KT _ hB).mono ?_); rintro e w1 ⟨rfl, hb1⟩; replace H0 := (hb1.block _ (lt_heap H0)).trans H0; replace H1 := (hb1.block _ (lt_heap H1)).trans H1; replace H2 := (hb1.block _ (lt_heap H2)).trans H2; replace hB := below_on hB hb1; clear hb1)
  have H7 := World.alloc_heap_new w1 (.cells #[.int .i64 t.d, .int .u8 t.b, .string t.s] 41)
  replace H2 := laid_old (o' := (.cells #[.int .i64 t.d, .int .u8 t.b, .string t.s] 41)) H2
  replace hB := below_al hB (.cells #[.int .i64 t.d, .int .u8 t.b, .string t.s] 41)
  generalize w1.alloc (.cells #[.int .i64 t.d, .int .u8 t.b, .string t.s] 41) = W2 at H7 H2 hB ⊢
  generalize w1.heap.size = B7 at H7 ⊢
  clear xa0 xa1 xa2 xa3 xa4 xa5 xb0 xb1 xb2 xb3 xb4 xb5 xc0 xc1 xc2 xc3 xc4 xc5 fa fb fc
  obtain ⟨y0, y1, y2, g0, g1, g2⟩ := three_cells H7
  obtain ⟨xc0, xc1, xc2, xc3, xc4, xc5, fc⟩ := six_cells H2
  have e2 := fun w => ty_neP hT w
  go_wp2
  refine bodyPost_ret (vtr_ret rfl rfl (set_six H2)) rfl ⟨rfl, ?_⟩
  exact below6 hB (by omega) _ _ _ _ _ _
set_option maxRecDepth 100000 in
set_option maxHeartbeats 4000000 in
theorem mvt_44z (V : Value) (n1 d1 b1 p1 n2 d2 b2 p2 : Int) (s1 s2 : ByteArray) (w : World) (hE : vtE (VT.mk 4 n1 d1 b1 s1 p1) (VT.mk 4 n2 d2 b2 s2 p2) = false) (t : TY) (KT : ∀ W, Below w.heap.size w W → Calls Tryd.prog 42 #[V, .agg #[.int .i64 d1, .int .u8 b1, .string s1], .agg #[.int .i64 d2, .int .u8 b2, .string s2]] W fun e w' => e = .returned (.agg #[.int .i64 t.d, .int .u8 t.b, .string t.s]) ∧ Below W.heap.size W w') (hT : tyE ⟨t.d, t.b, t.s⟩ ⟨0, 0, ⟨#[]⟩⟩ = true) :
    Calls Tryd.prog 44 #[V, .agg #[.int .i64 4, .int .i64 n1, .int .i64 d1, .int .u8 b1, .string s1, .int .i64 p1], .agg #[.int .i64 4, .int .i64 n2, .int .i64 d2, .int .u8 b2, .string s2, .int .i64 p2]] w (VtRet w vtZ) := by
  have e1 := fun w => vt_eqF hE w
  go_enter Tryd.func44, Tryd.ntmps44
  go_upto_region 1 with fail
  obtain ⟨H0, H1, H2, hB, hz⟩ := three_laid w (.cells #[.int .i64 4, .int .i64 n1, .int .i64 d1, .int .u8 b1, .string s1, .int .i64 p1] 43) (.cells #[.int .i64 4, .int .i64 n2, .int .i64 d2, .int .u8 b2, .string s2, .int .i64 p2] 43) (.cells #[.int .i64 0, .int .i64 0, .int .i64 0, .int .u8 0, .string ⟨#[]⟩, .int .i64 0] 43)
  generalize ((w.alloc (.cells #[.int .i64 4, .int .i64 n1, .int .i64 d1, .int .u8 b1, .string s1, .int .i64 p1] 43)).alloc (.cells #[.int .i64 4, .int .i64 n2, .int .i64 d2, .int .u8 b2, .string s2, .int .i64 p2] 43)).alloc (.cells #[.int .i64 0, .int .i64 0, .int .i64 0, .int .u8 0, .string ⟨#[]⟩, .int .i64 0] 43) = W at H0 H1 H2 hB hz ⊢
  obtain ⟨xa0, xa1, xa2, xa3, xa4, xa5, fa⟩ := six_cells H0; obtain ⟨xb0, xb1, xb2, xb3, xb4, xb5, fb⟩ := six_cells H1; obtain ⟨xc0, xc1, xc2, xc3, xc4, xc5, fc⟩ := six_cells H2
  go_upto_region 9 with (go_at_call 42; (with_reducible refine (KT _ hB).mono ?_); rintro e w1 ⟨rfl, hb1⟩; replace H0 := (hb1.block _ (lt_heap H0)).trans H0; replace H1 := (hb1.block _ (lt_heap H1)).trans H1; replace H2 := (hb1.block _ (lt_heap H2)).trans H2; replace hB := below_on hB hb1; clear hb1)
  have H7 := World.alloc_heap_new w1 (.cells #[.int .i64 t.d, .int .u8 t.b, .string t.s] 41)
  replace H2 := laid_old (o' := (.cells #[.int .i64 t.d, .int .u8 t.b, .string t.s] 41)) H2
  replace hB := below_al hB (.cells #[.int .i64 t.d, .int .u8 t.b, .string t.s] 41)
  generalize w1.alloc (.cells #[.int .i64 t.d, .int .u8 t.b, .string t.s] 41) = W2 at H7 H2 hB ⊢
  generalize w1.heap.size = B7 at H7 ⊢
  clear xa0 xa1 xa2 xa3 xa4 xa5 xb0 xb1 xb2 xb3 xb4 xb5 xc0 xc1 xc2 xc3 xc4 xc5 fa fb fc
  obtain ⟨y0, y1, y2, g0, g1, g2⟩ := three_cells H7
  obtain ⟨xc0, xc1, xc2, xc3, xc4, xc5, fc⟩ := six_cells H2
  have e2 := fun w => ty_neP hT w
  go_wp2
  refine bodyPost_ret (vtr_ret rfl rfl (set_six H2)) rfl ⟨rfl, ?_⟩
  exact below6 hB (by omega) _ _ _ _ _ _
end Go.Proofs.YthifmcnemeiphaaDoor

/- Me -/
/- Layer 18: VTypes, in the reference (written by gen/md.py). -/
namespace Go.Proofs.YthifmcnemeiphaaDoor
open Go.ChangeShapes Go.WideShapes Go.ChangeAt Go.RowKit Go.PlainAid Go.Maps
set_option linter.unusedSimpArgs false
set_option linter.unusedVariables false

set_option maxHeartbeats 4000000 in
theorem rvt_e (V : Value) (a : VT) (w : World) :
    Calls Tryd.prog 45 #[V, (Value.agg #[Value.int IntKind.i64 (VT.k a), Value.int IntKind.i64 (VT.n a), Value.int IntKind.i64 (VT.d a), Value.int IntKind.u8 (VT.b a), Value.string (VT.s a), Value.int IntKind.i64 (VT.p a)]), (Value.agg #[Value.int IntKind.i64 (VT.k a), Value.int IntKind.i64 (VT.n a), Value.int IntKind.i64 (VT.d a), Value.int IntKind.u8 (VT.b a), Value.string (VT.s a), Value.int IntKind.i64 (VT.p a)])] w (VtRet w a) := by
  go_enter Tryd.func45, Tryd.ntmps45
  go_upto_region 1 with fail
  obtain ⟨H0, H1, H2, hB, hz⟩ := three_laid w (.cells #[.int .i64 a.k, .int .i64 a.n, .int .i64 a.d, .int .u8 a.b, .string a.s, .int .i64 a.p] 43) (.cells #[.int .i64 a.k, .int .i64 a.n, .int .i64 a.d, .int .u8 a.b, .string a.s, .int .i64 a.p] 43) (.cells #[.int .i64 0, .int .i64 0, .int .i64 0, .int .u8 0, .string ⟨#[]⟩, .int .i64 0] 43)
  generalize ((w.alloc (.cells #[.int .i64 a.k, .int .i64 a.n, .int .i64 a.d, .int .u8 a.b, .string a.s, .int .i64 a.p] 43)).alloc (.cells #[.int .i64 a.k, .int .i64 a.n, .int .i64 a.d, .int .u8 a.b, .string a.s, .int .i64 a.p] 43)).alloc (.cells #[.int .i64 0, .int .i64 0, .int .i64 0, .int .u8 0, .string ⟨#[]⟩, .int .i64 0] 43) = W at H0 H1 H2 hB hz ⊢
  obtain ⟨xa0, xa1, xa2, xa3, xa4, xa5, fa⟩ := six_cells H0; obtain ⟨xb0, xb1, xb2, xb3, xb4, xb5, fb⟩ := six_cells H1; obtain ⟨xc0, xc1, xc2, xc3, xc4, xc5, fc⟩ := six_cells H2
  go_wp2
  refine bodyPost_ret (vtr_ret rfl rfl (set_six H2)) rfl ⟨rfl, ?_⟩
  exact below6 hB (by omega) _ _ _ _ _ _
set_option maxRecDepth 100000 in
set_option maxHeartbeats 4000000 in
theorem rvt_34 (V : Value) (n1 d1 b1 p1 n2 d2 b2 p2 : Int) (s1 s2 : ByteArray) (w : World) (hE : vtE (VT.mk 3 n1 d1 b1 s1 p1) (VT.mk 4 n2 d2 b2 s2 p2) = false)  :
    Calls Tryd.prog 45 #[V, .agg #[.int .i64 3, .int .i64 n1, .int .i64 d1, .int .u8 b1, .string s1, .int .i64 p1], .agg #[.int .i64 4, .int .i64 n2, .int .i64 d2, .int .u8 b2, .string s2, .int .i64 p2]] w (VtRet w (VT.mk 4 n2 d2 b2 s2 p2)) := by
  have e1 := fun w => vt_eqF hE w
  go_enter Tryd.func45, Tryd.ntmps45
  go_upto_region 1 with fail
  obtain ⟨H0, H1, H2, hB, hz⟩ := three_laid w (.cells #[.int .i64 3, .int .i64 n1, .int .i64 d1, .int .u8 b1, .string s1, .int .i64 p1] 43) (.cells #[.int .i64 4, .int .i64 n2, .int .i64 d2, .int .u8 b2, .string s2, .int .i64 p2] 43) (.cells #[.int .i64 0, .int .i64 0, .int .i64 0, .int .u8 0, .string ⟨#[]⟩, .int .i64 0] 43)
  generalize ((w.alloc (.cells #[.int .i64 3, .int .i64 n1, .int .i64 d1, .int .u8 b1, .string s1, .int .i64 p1] 43)).alloc (.cells #[.int .i64 4, .int .i64 n2, .int .i64 d2, .int .u8 b2, .string s2, .int .i64 p2] 43)).alloc (.cells #[.int .i64 0, .int .i64 0, .int .i64 0, .int .u8 0, .string ⟨#[]⟩, .int .i64 0] 43) = W at H0 H1 H2 hB hz ⊢
  obtain ⟨xa0, xa1, xa2, xa3, xa4, xa5, fa⟩ := six_cells H0; obtain ⟨xb0, xb1, xb2, xb3, xb4, xb5, fb⟩ := six_cells H1; obtain ⟨xc0, xc1, xc2, xc3, xc4, xc5, fc⟩ := six_cells H2
  go_wp2
  refine bodyPost_ret (vtr_ret rfl rfl (set_six H2)) rfl ⟨rfl, ?_⟩
  exact below6 hB (by omega) _ _ _ _ _ _
set_option maxRecDepth 100000 in
set_option maxHeartbeats 4000000 in
theorem rvt_43 (V : Value) (n1 d1 b1 p1 n2 d2 b2 p2 : Int) (s1 s2 : ByteArray) (w : World) (hE : vtE (VT.mk 4 n1 d1 b1 s1 p1) (VT.mk 3 n2 d2 b2 s2 p2) = false)  :
    Calls Tryd.prog 45 #[V, .agg #[.int .i64 4, .int .i64 n1, .int .i64 d1, .int .u8 b1, .string s1, .int .i64 p1], .agg #[.int .i64 3, .int .i64 n2, .int .i64 d2, .int .u8 b2, .string s2, .int .i64 p2]] w (VtRet w (VT.mk 4 n1 d1 b1 s1 p1)) := by
  have e1 := fun w => vt_eqF hE w
  go_enter Tryd.func45, Tryd.ntmps45
  go_upto_region 1 with fail
  obtain ⟨H0, H1, H2, hB, hz⟩ := three_laid w (.cells #[.int .i64 4, .int .i64 n1, .int .i64 d1, .int .u8 b1, .string s1, .int .i64 p1] 43) (.cells #[.int .i64 3, .int .i64 n2, .int .i64 d2, .int .u8 b2, .string s2, .int .i64 p2] 43) (.cells #[.int .i64 0, .int .i64 0, .int .i64 0, .int .u8 0, .string ⟨#[]⟩, .int .i64 0] 43)
  generalize ((w.alloc (.cells #[.int .i64 4, .int .i64 n1, .int .i64 d1, .int .u8 b1, .string s1, .int .i64 p1] 43)).alloc (.cells #[.int .i64 3, .int .i64 n2, .int .i64 d2, .int .u8 b2, .string s2, .int .i64 p2] 43)).alloc (.cells #[.int .i64 0, .int .i64 0, .int .i64 0, .int .u8 0, .string ⟨#[]⟩, .int .i64 0] 43) = W at H0 H1 H2 hB hz ⊢
  obtain ⟨xa0, xa1, xa2, xa3, xa4, xa5, fa⟩ := six_cells H0; obtain ⟨xb0, xb1, xb2, xb3, xb4, xb5, fb⟩ := six_cells H1; obtain ⟨xc0, xc1, xc2, xc3, xc4, xc5, fc⟩ := six_cells H2
  go_wp2
  refine bodyPost_ret (vtr_ret rfl rfl (set_six H2)) rfl ⟨rfl, ?_⟩
  exact below6 hB (by omega) _ _ _ _ _ _
set_option maxRecDepth 100000 in
set_option maxHeartbeats 4000000 in
theorem rvt_3x (V : Value) (n1 d1 b1 p1 k2 n2 d2 b2 p2 : Int) (s1 s2 : ByteArray) (w : World) (hE : vtE (VT.mk 3 n1 d1 b1 s1 p1) (VT.mk k2 n2 d2 b2 s2 p2) = false) (h2 : ¬ k2 = 4) :
    Calls Tryd.prog 45 #[V, .agg #[.int .i64 3, .int .i64 n1, .int .i64 d1, .int .u8 b1, .string s1, .int .i64 p1], .agg #[.int .i64 k2, .int .i64 n2, .int .i64 d2, .int .u8 b2, .string s2, .int .i64 p2]] w (VtRet w vtZ) := by
  have e1 := fun w => vt_eqF hE w
  go_enter Tryd.func45, Tryd.ntmps45
  go_upto_region 1 with fail
  obtain ⟨H0, H1, H2, hB, hz⟩ := three_laid w (.cells #[.int .i64 3, .int .i64 n1, .int .i64 d1, .int .u8 b1, .string s1, .int .i64 p1] 43) (.cells #[.int .i64 k2, .int .i64 n2, .int .i64 d2, .int .u8 b2, .string s2, .int .i64 p2] 43) (.cells #[.int .i64 0, .int .i64 0, .int .i64 0, .int .u8 0, .string ⟨#[]⟩, .int .i64 0] 43)
  generalize ((w.alloc (.cells #[.int .i64 3, .int .i64 n1, .int .i64 d1, .int .u8 b1, .string s1, .int .i64 p1] 43)).alloc (.cells #[.int .i64 k2, .int .i64 n2, .int .i64 d2, .int .u8 b2, .string s2, .int .i64 p2] 43)).alloc (.cells #[.int .i64 0, .int .i64 0, .int .i64 0, .int .u8 0, .string ⟨#[]⟩, .int .i64 0] 43) = W at H0 H1 H2 hB hz ⊢
  obtain ⟨xa0, xa1, xa2, xa3, xa4, xa5, fa⟩ := six_cells H0; obtain ⟨xb0, xb1, xb2, xb3, xb4, xb5, fb⟩ := six_cells H1; obtain ⟨xc0, xc1, xc2, xc3, xc4, xc5, fc⟩ := six_cells H2
  go_wp2
  refine bodyPost_ret (vtr_ret rfl rfl (set_six H2)) rfl ⟨rfl, ?_⟩
  exact below6 hB (by omega) _ _ _ _ _ _
set_option maxRecDepth 100000 in
set_option maxHeartbeats 4000000 in
theorem rvt_4x (V : Value) (n1 d1 b1 p1 k2 n2 d2 b2 p2 : Int) (s1 s2 : ByteArray) (w : World) (hE : vtE (VT.mk 4 n1 d1 b1 s1 p1) (VT.mk k2 n2 d2 b2 s2 p2) = false) (h2 : ¬ k2 = 3) (h3 : ¬ k2 = 4) :
    Calls Tryd.prog 45 #[V, .agg #[.int .i64 4, .int .i64 n1, .int .i64 d1, .int .u8 b1, .string s1, .int .i64 p1], .agg #[.int .i64 k2, .int .i64 n2, .int .i64 d2, .int .u8 b2, .string s2, .int .i64 p2]] w (VtRet w vtZ) := by
  have e1 := fun w => vt_eqF hE w
  go_enter Tryd.func45, Tryd.ntmps45
  go_upto_region 1 with fail
  obtain ⟨H0, H1, H2, hB, hz⟩ := three_laid w (.cells #[.int .i64 4, .int .i64 n1, .int .i64 d1, .int .u8 b1, .string s1, .int .i64 p1] 43) (.cells #[.int .i64 k2, .int .i64 n2, .int .i64 d2, .int .u8 b2, .string s2, .int .i64 p2] 43) (.cells #[.int .i64 0, .int .i64 0, .int .i64 0, .int .u8 0, .string ⟨#[]⟩, .int .i64 0] 43)
  generalize ((w.alloc (.cells #[.int .i64 4, .int .i64 n1, .int .i64 d1, .int .u8 b1, .string s1, .int .i64 p1] 43)).alloc (.cells #[.int .i64 k2, .int .i64 n2, .int .i64 d2, .int .u8 b2, .string s2, .int .i64 p2] 43)).alloc (.cells #[.int .i64 0, .int .i64 0, .int .i64 0, .int .u8 0, .string ⟨#[]⟩, .int .i64 0] 43) = W at H0 H1 H2 hB hz ⊢
  obtain ⟨xa0, xa1, xa2, xa3, xa4, xa5, fa⟩ := six_cells H0; obtain ⟨xb0, xb1, xb2, xb3, xb4, xb5, fb⟩ := six_cells H1; obtain ⟨xc0, xc1, xc2, xc3, xc4, xc5, fc⟩ := six_cells H2
  go_wp2
  refine bodyPost_ret (vtr_ret rfl rfl (set_six H2)) rfl ⟨rfl, ?_⟩
  exact below6 hB (by omega) _ _ _ _ _ _
set_option maxRecDepth 100000 in
set_option maxHeartbeats 4000000 in
theorem rvt_xx (V : Value) (k1 n1 d1 b1 p1 k2 n2 d2 b2 p2 : Int) (s1 s2 : ByteArray) (w : World) (hE : vtE (VT.mk k1 n1 d1 b1 s1 p1) (VT.mk k2 n2 d2 b2 s2 p2) = false) (h2 : ¬ k1 = 3) (h3 : ¬ k1 = 4) :
    Calls Tryd.prog 45 #[V, .agg #[.int .i64 k1, .int .i64 n1, .int .i64 d1, .int .u8 b1, .string s1, .int .i64 p1], .agg #[.int .i64 k2, .int .i64 n2, .int .i64 d2, .int .u8 b2, .string s2, .int .i64 p2]] w (VtRet w vtZ) := by
  have e1 := fun w => vt_eqF hE w
  go_enter Tryd.func45, Tryd.ntmps45
  go_upto_region 1 with fail
  obtain ⟨H0, H1, H2, hB, hz⟩ := three_laid w (.cells #[.int .i64 k1, .int .i64 n1, .int .i64 d1, .int .u8 b1, .string s1, .int .i64 p1] 43) (.cells #[.int .i64 k2, .int .i64 n2, .int .i64 d2, .int .u8 b2, .string s2, .int .i64 p2] 43) (.cells #[.int .i64 0, .int .i64 0, .int .i64 0, .int .u8 0, .string ⟨#[]⟩, .int .i64 0] 43)
  generalize ((w.alloc (.cells #[.int .i64 k1, .int .i64 n1, .int .i64 d1, .int .u8 b1, .string s1, .int .i64 p1] 43)).alloc (.cells #[.int .i64 k2, .int .i64 n2, .int .i64 d2, .int .u8 b2, .string s2, .int .i64 p2] 43)).alloc (.cells #[.int .i64 0, .int .i64 0, .int .i64 0, .int .u8 0, .string ⟨#[]⟩, .int .i64 0] 43) = W at H0 H1 H2 hB hz ⊢
  obtain ⟨xa0, xa1, xa2, xa3, xa4, xa5, fa⟩ := six_cells H0; obtain ⟨xb0, xb1, xb2, xb3, xb4, xb5, fb⟩ := six_cells H1; obtain ⟨xc0, xc1, xc2, xc3, xc4, xc5, fc⟩ := six_cells H2
  go_wp2
  refine bodyPost_ret (vtr_ret rfl rfl (set_six H2)) rfl ⟨rfl, ?_⟩
  exact below6 hB (by omega) _ _ _ _ _ _
set_option maxRecDepth 100000 in
set_option maxHeartbeats 4000000 in
theorem rvt_44 (V : Value) (n1 d1 b1 p1 n2 d2 b2 p2 : Int) (s1 s2 : ByteArray) (w : World) (hE : vtE (VT.mk 4 n1 d1 b1 s1 p1) (VT.mk 4 n2 d2 b2 s2 p2) = false) (t : TY) (KT : ∀ W, Below w.heap.size w W → Calls Tryd.prog 43 #[V, .agg #[.int .i64 d1, .int .u8 b1, .string s1], .agg #[.int .i64 d2, .int .u8 b2, .string s2]] W fun e w' => e = .returned (.agg #[.int .i64 t.d, .int .u8 t.b, .string t.s]) ∧ Below W.heap.size W w') (hT : tyE ⟨t.d, t.b, t.s⟩ ⟨0, 0, ⟨#[]⟩⟩ = false) :
    Calls Tryd.prog 45 #[V, .agg #[.int .i64 4, .int .i64 n1, .int .i64 d1, .int .u8 b1, .string s1, .int .i64 p1], .agg #[.int .i64 4, .int .i64 n2, .int .i64 d2, .int .u8 b2, .string s2, .int .i64 p2]] w (VtRet w ⟨4, 0, t.d, t.b, t.s, 0⟩) := by
  have e1 := fun w => vt_eqF hE w
  go_enter Tryd.func45, Tryd.ntmps45
  go_upto_region 1 with fail
  obtain ⟨H0, H1, H2, hB, hz⟩ := three_laid w (.cells #[.int .i64 4, .int .i64 n1, .int .i64 d1, .int .u8 b1, .string s1, .int .i64 p1] 43) (.cells #[.int .i64 4, .int .i64 n2, .int .i64 d2, .int .u8 b2, .string s2, .int .i64 p2] 43) (.cells #[.int .i64 0, .int .i64 0, .int .i64 0, .int .u8 0, .string ⟨#[]⟩, .int .i64 0] 43)
  generalize ((w.alloc (.cells #[.int .i64 4, .int .i64 n1, .int .i64 d1, .int .u8 b1, .string s1, .int .i64 p1] 43)).alloc (.cells #[.int .i64 4, .int .i64 n2, .int .i64 d2, .int .u8 b2, .string s2, .int .i64 p2] 43)).alloc (.cells #[.int .i64 0, .int .i64 0, .int .i64 0, .int .u8 0, .string ⟨#[]⟩, .int .i64 0] 43) = W at H0 H1 H2 hB hz ⊢
  obtain ⟨xa0, xa1, xa2, xa3, xa4, xa5, fa⟩ := six_cells H0; obtain ⟨xb0, xb1, xb2, xb3, xb4, xb5, fb⟩ := six_cells H1; obtain ⟨xc0, xc1, xc2, xc3, xc4, xc5, fc⟩ := six_cells H2
  go_upto_region 9 with (go_at_call 43; (with_reducible refine (KT _ hB).mono ?_); rintro e w1 ⟨rfl, hb1⟩; replace H0 := (hb1.block _ (lt_heap H0)).trans H0; replace H1 := (hb1.block _ (lt_heap H1)).trans H1; replace H2 := (hb1.block _ (lt_heap H2)).trans H2; replace hB := below_on hB hb1; clear hb1)
  have H7 := World.alloc_heap_new w1 (.cells #[.int .i64 t.d, .int .u8 t.b, .string t.s] 41)
  replace H2 := laid_old (o' := (.cells #[.int .i64 t.d, .int .u8 t.b, .string t.s] 41)) H2
  replace hB := below_al hB (.cells #[.int .i64 t.d, .int .u8 t.b, .string t.s] 41)
  generalize w1.alloc (.cells #[.int .i64 t.d, .int .u8 t.b, .string t.s] 41) = W2 at H7 H2 hB ⊢
  generalize w1.heap.size = B7 at H7 ⊢
  clear xa0 xa1 xa2 xa3 xa4 xa5 xb0 xb1 xb2 xb3 xb4 xb5 xc0 xc1 xc2 xc3 xc4 xc5 fa fb fc
  obtain ⟨y0, y1, y2, g0, g1, g2⟩ := three_cells H7
  obtain ⟨xc0, xc1, xc2, xc3, xc4, xc5, fc⟩ := six_cells H2
  have e2 := fun w => ty_neP hT w
  go_wp2
  refine bodyPost_ret (vtr_ret rfl rfl (set_six H2)) rfl ⟨rfl, ?_⟩
  exact below6 hB (by omega) _ _ _ _ _ _
set_option maxRecDepth 100000 in
set_option maxHeartbeats 4000000 in
theorem rvt_44z (V : Value) (n1 d1 b1 p1 n2 d2 b2 p2 : Int) (s1 s2 : ByteArray) (w : World) (hE : vtE (VT.mk 4 n1 d1 b1 s1 p1) (VT.mk 4 n2 d2 b2 s2 p2) = false) (t : TY) (KT : ∀ W, Below w.heap.size w W → Calls Tryd.prog 43 #[V, .agg #[.int .i64 d1, .int .u8 b1, .string s1], .agg #[.int .i64 d2, .int .u8 b2, .string s2]] W fun e w' => e = .returned (.agg #[.int .i64 t.d, .int .u8 t.b, .string t.s]) ∧ Below W.heap.size W w') (hT : tyE ⟨t.d, t.b, t.s⟩ ⟨0, 0, ⟨#[]⟩⟩ = true) :
    Calls Tryd.prog 45 #[V, .agg #[.int .i64 4, .int .i64 n1, .int .i64 d1, .int .u8 b1, .string s1, .int .i64 p1], .agg #[.int .i64 4, .int .i64 n2, .int .i64 d2, .int .u8 b2, .string s2, .int .i64 p2]] w (VtRet w vtZ) := by
  have e1 := fun w => vt_eqF hE w
  go_enter Tryd.func45, Tryd.ntmps45
  go_upto_region 1 with fail
  obtain ⟨H0, H1, H2, hB, hz⟩ := three_laid w (.cells #[.int .i64 4, .int .i64 n1, .int .i64 d1, .int .u8 b1, .string s1, .int .i64 p1] 43) (.cells #[.int .i64 4, .int .i64 n2, .int .i64 d2, .int .u8 b2, .string s2, .int .i64 p2] 43) (.cells #[.int .i64 0, .int .i64 0, .int .i64 0, .int .u8 0, .string ⟨#[]⟩, .int .i64 0] 43)
  generalize ((w.alloc (.cells #[.int .i64 4, .int .i64 n1, .int .i64 d1, .int .u8 b1, .string s1, .int .i64 p1] 43)).alloc (.cells #[.int .i64 4, .int .i64 n2, .int .i64 d2, .int .u8 b2, .string s2, .int .i64 p2] 43)).alloc (.cells #[.int .i64 0, .int .i64 0, .int .i64 0, .int .u8 0, .string ⟨#[]⟩, .int .i64 0] 43) = W at H0 H1 H2 hB hz ⊢
  obtain ⟨xa0, xa1, xa2, xa3, xa4, xa5, fa⟩ := six_cells H0; obtain ⟨xb0, xb1, xb2, xb3, xb4, xb5, fb⟩ := six_cells H1; obtain ⟨xc0, xc1, xc2, xc3, xc4, xc5, fc⟩ := six_cells H2
  go_upto_region 9 with (go_at_call 43; (with_reducible refine (KT _ hB).mono ?_); rintro e w1 ⟨rfl, hb1⟩; replace H0 := (hb1.block _ (lt_heap H0)).trans H0; replace H1 := (hb1.block _ (lt_heap H1)).trans H1; replace H2 := (hb1.block _ (lt_heap H2)).trans H2; replace hB := below_on hB hb1; clear hb1)
  have H7 := World.alloc_heap_new w1 (.cells #[.int .i64 t.d, .int .u8 t.b, .string t.s] 41)
  replace H2 := laid_old (o' := (.cells #[.int .i64 t.d, .int .u8 t.b, .string t.s] 41)) H2
  replace hB := below_al hB (.cells #[.int .i64 t.d, .int .u8 t.b, .string t.s] 41)
  generalize w1.alloc (.cells #[.int .i64 t.d, .int .u8 t.b, .string t.s] 41) = W2 at H7 H2 hB ⊢
  generalize w1.heap.size = B7 at H7 ⊢
  clear xa0 xa1 xa2 xa3 xa4 xa5 xb0 xb1 xb2 xb3 xb4 xb5 xc0 xc1 xc2 xc3 xc4 xc5 fa fb fc
  obtain ⟨y0, y1, y2, g0, g1, g2⟩ := three_cells H7
  obtain ⟨xc0, xc1, xc2, xc3, xc4, xc5, fc⟩ := six_cells H2
  have e2 := fun w => ty_neP hT w
  go_wp2
  refine bodyPost_ret (vtr_ret rfl rfl (set_six H2)) rfl ⟨rfl, ?_⟩
  exact below6 hB (by omega) _ _ _ _ _ _
end Go.Proofs.YthifmcnemeiphaaDoor

/- Mi -/
/- Layer 18: Frames of frames of different shapes. -/
namespace Go.Proofs.YthifmcnemeiphaaDoor
open Go.ChangeShapes Go.WideShapes Go.ChangeAt Go.RowKit Go.PlainAid Go.Maps
set_option linter.unusedSimpArgs false
set_option linter.unusedVariables false

theorem fr_size : (Tryd.prog.info? 56).map (·.size) = some 3 := by kernel_rfl
theorem fr_under : ∃ fs, Tryd.prog.underlying 56 = some (.struct fs) := ⟨_, Tryd.underlying56⟩
theorem fr_ret {fn : Func} (hf : fn.results = #[.cell 6 56, .tmp 7]) {a : Act} {w : World} {B : Nat} {x0 x1 x2 : Value} (ht : a.tmps.getD 6 undef = .pointer (some ⟨B, 0, none⟩)) (hg : w.heap[B]? = some (.cells #[x0, x1, x2] 56)) :
    (results fn a.tmps).run Tryd.prog w = .ok (.tuple #[.agg #[x0, x1, x2], a.tmps.getD 7 undef]) w := by
  rw [results_cell_tmp hf, ht]
  obtain ⟨fs, hu⟩ := fr_under
  have hl := run_loadVar_row (P := Tryd.prog) w B 56 56 #[x0, x1, x2] (0, 0) _ hg hu rfl fr_size
  simp [asAddr, Result.andThen, hl]
abbrev frZ : Value := .agg #[.slice none 0 0, .slice none 0 0, .bool false]
set_option maxRecDepth 100000 in
set_option maxHeartbeats 4000000 in
theorem mfr_bad (V : Value) (A1 A2 A3 A4 : Option Addr) (n1 n2 n3 n4 c1 c2 c3 c4 : Nat) (u1 u2 : Bool) (w : World) (h : ((n1 : Int) != n3) = true ∨ (((n1 : Int) != n3) = false ∧ ((n2 : Int) != n4) = true)) :
    Calls Tryd.prog 47 #[V, .agg #[.slice A1 n1 c1, .slice A2 n2 c2, .bool u1], .agg #[.slice A3 n3 c3, .slice A4 n4 c4, .bool u2]] w fun e w' => e = .returned (.tuple #[frZ, .int .i64 23]) ∧ Below w.heap.size w w' := by
  rcases h with h | ⟨h0, h⟩
  all_goals
    go_enter Tryd.func47, Tryd.ntmps47
    go_upto_region 1 with fail
    obtain ⟨H0, H1, H2, hB, hz⟩ := three_laid w (.cells #[.slice A1 n1 c1, .slice A2 n2 c2, .bool u1] 56) (.cells #[.slice A3 n3 c3, .slice A4 n4 c4, .bool u2] 56) (.cells #[.slice none 0 0, .slice none 0 0, .bool false] 56)
    generalize ((w.alloc (.cells #[.slice A1 n1 c1, .slice A2 n2 c2, .bool u1] 56)).alloc (.cells #[.slice A3 n3 c3, .slice A4 n4 c4, .bool u2] 56)).alloc (.cells #[.slice none 0 0, .slice none 0 0, .bool false] 56) = W at H0 H1 H2 hB hz ⊢
    obtain ⟨xa0, xa1, xa2, fa0, fa1, fa2⟩ := three_cells H0; obtain ⟨xb0, xb1, xb2, fb0, fb1, fb2⟩ := three_cells H1; obtain ⟨xc0, xc1, xc2, fc0, fc1, fc2⟩ := three_cells H2
    go_wp2
    refine bodyPost_ret (fr_ret rfl rfl (set_three H2)) rfl ⟨rfl, ?_⟩
    exact below_st (below_st (below_st hB (by simp; omega) _) (by simp; omega) _) (by simp; omega) _
end Go.Proofs.YthifmcnemeiphaaDoor

/- Hw -/
/- Layer 16: the reference's Superclasses. -/
namespace Go.Proofs.YthifmcnemeiphaaDoor
open Go.ChangeShapes Go.WideShapes Go.ChangeAt Go.RowKit Go.PlainAid Go.Maps
set_option linter.unusedSimpArgs false
set_option linter.unusedVariables false

structure RsInv (L : List CI) (n : Nat) (a : ByteArray) (w : World) (v : Value) (S : List ByteArray) (b : ByteArray) (wr : World) : Prop where
  tot : supL L a = S ++ chain L (n + 1 - S.length) b
  len : S.length ≤ n + 1
  own : wr.ownsRow w.heap.size 9 1 v S.length (strs S)
  bel : Below w.heap.size w wr
set_option maxRecDepth 100000 in
set_option maxHeartbeats 4000000 in
theorem rsup_any (A : Option Addr) (n c : Nat) (L : List CI) (a : ByteArray) (w : World) (hn : L.length = n) (hc : n ≤ 1000000) (h : CIs w w.heap.size A L) :
    Calls Tryd.prog 29 #[.slice A n c, .string a] w (StrOwn w (supL L a)) := by
  have HL := Lib.hid h
  have HN := Lib.hid hn
  clear h hn
  go_enter Tryd.func29, Tryd.ntmps29
  go_upto_region 2 with fail
  have own0 := own_strs_nil (base := w.heap.size) w (Nat.le_refl _)
  have hb0 := below_al (Below.refl w.heap.size w) (.cells #[] 9)
  generalize w.alloc (.cells #[] 9) = W at own0 hb0 ⊢
  have HST := Lib.hid (show RsInv L n a w (.slice (some ⟨w.heap.size, 0, none⟩) 0 0) [] a W from ⟨by unfold supL; rw [HN.out]; rfl, Nat.zero_le _, own0, hb0⟩)
  clear own0 hb0
  go_wp2
  go_loopw [5, 6, 7] (fun v bv iv wr => ∃ (b : ByteArray) (S : List ByteArray), bv = .string b ∧ iv = .int .i64 (S.length : Int) ∧ Hid (RsInv L n a w v S b wr)) (fun _ _ iv _ => n + 1 - (intOf iv).toNat)
  case atStart => exact ⟨a, [], rfl, rfl, HST⟩
  case round =>
    obtain ⟨b, S, rfl, rfl, HI⟩ := hrel
    obtain ⟨vA, vc, rfl, hvc1, hvc2⟩ := own_shape HI.out.own
    have hle := HI.out.len
    clear HST
    obtain ⟨k, hk⟩ : ∃ k, S.length = k := ⟨_, rfl⟩
    have HK := Lib.hid hk
    by_cases hlt : k ≤ n
    · have hkk : S.length ≤ n := by omega
      have HL1 := Lib.hid (rlookup_any A n c L b wr HN.out (by omega) (HL.out.up HI.out.bel))
      obtain ⟨y, hy⟩ : ∃ y, lkC L b = y := ⟨_, rfl⟩
      have HY := Lib.hid hy
      rw [hy] at HL1
      rw [hk] at hvc1 ⊢
      clear hk hy hle hkk
      cases hf : fB L b with
      | false =>
        rw [hf] at HL1
        have HT := Lib.hid (show supL L a = S by rw [HI.out.tot, chain_no hf, List.append_nil])
        clear hf
        go_wp2_with (go_at_call 21; (with_reducible refine (HL1.out).mono ?_); rintro e w1 ⟨rfl, hb1⟩)
        go_ret
        rw [HT.out]
        exact ⟨.slice vA k vc, rfl, by have := (own_bel HI.out.own hb1).alloc (.cells #[.string y.nm, .string y.su, .slice y.iA y.n y.c, .bool y.isI] 30); rw [HK.out] at this ⊢; exact this, below_al (below_on HI.out.bel hb1) _⟩
      | true =>
        rw [hf] at HL1
        have HF := Lib.hid hf
        clear hf
        go_upto_region 9 with (go_at_call 21; (with_reducible refine (HL1.out).mono ?_); rintro e w1 ⟨rfl, hb1⟩)
        have HB1 := Lib.hid hb1
        have hbx := World.alloc_heap_new w1 (.cells #[.string y.nm, .string y.su, .slice y.iA y.n y.c, .bool y.isI] 30)
        have HO2 := Lib.hid (show (w1.alloc (.cells #[.string y.nm, .string y.su, .slice y.iA y.n y.c, .bool y.isI] 30)).ownsRow w.heap.size 9 1 (.slice vA k vc) k (strs S) from by have := (own_bel HI.out.own hb1).alloc (.cells #[.string y.nm, .string y.su, .slice y.iA y.n y.c, .bool y.isI] 30); rw [HK.out] at this; exact this)
        have HB2 := Lib.hid (below_al (below_on HI.out.bel hb1) (.cells #[.string y.nm, .string y.su, .slice y.iA y.n y.c, .bool y.isI] 30))
        generalize w1.alloc (.cells #[.string y.nm, .string y.su, .slice y.iA y.n y.c, .bool y.isI] 30) = W2 at hbx HO2 HB2 ⊢
        generalize w1.heap.size = B8 at hbx ⊢
        have HBX := Lib.hid hbx
        have hlb := lt_heap hbx
        clear hb1 hbx
        go_upto_region 10 with (at_builtin; refine wpList_append_strs rfl _ _ rfl w.heap.size k 1 1 (W2.heap.size + 1) S [b] (.slice vA k vc) (some ⟨W2.heap.size, 0, none⟩) rfl (HO2.out.alloc _) rfl (srow_new _ _) rfl (fun h => by cases h) (by omega) (by rw [World.size_alloc]; have := HB2.out.size; omega) ?_; intro v' w3 hown hgrow)
        obtain ⟨g', cap', rfl⟩ := ownsRow_succ hown
        have hbx3 := (hgrow.block B8 (by rw [World.size_alloc]; omega) (Boxed.not_rowC HBX.out (by decide) HO2.out)).trans (laid_old HBX.out)
        obtain ⟨⟨x0, x1, x2, x3⟩, _⟩ := four_cells hbx3
        have J := Lib.hid (show RsInv L n a w (.slice (some ⟨g', 0, none⟩) (k + 1) cap') (S ++ [b]) y.su w3 from by
          refine ⟨?_, ?_, ?_, ?_⟩
          · rw [HI.out.tot, List.append_assoc, List.length_append, List.length_singleton, HK.out]
            congr 1
            rw [show n + 1 - k = (n - k) + 1 by omega, chain_yes HF.out, HY.out, show n + 1 - (k + 1) = n - k by omega]
            rfl
          · rw [List.length_append, List.length_singleton, HK.out]; omega
          · rw [List.length_append, List.length_singleton, HK.out]; exact hown
          · exact (below_al HB2.out _).grown hgrow (by rw [World.size_alloc]; have := HB2.out.size; omega) (fun q hq => (HO2.out.lt q hq).1))
        have HJL := Lib.hid (show (S ++ [b]).length = k + 1 by rw [List.length_append, List.length_singleton, HK.out])
        clear hown hgrow hbx3
        go_wp2
        go_roundw
        case rel => exact ⟨y.su, S ++ [b], rfl, by rw [HJL.out]; go_num, J⟩
        case measure => simp [intOf]; omega
    · obtain rfl : k = n + 1 := by omega
      have HT := Lib.hid (show supL L a = S by rw [HI.out.tot, hk, Nat.sub_self]; exact List.append_nil _)
      rw [hk]
      clear hk hle
      have hgt : ¬ ((n + 1 : Nat) : Int) ≤ n := by omega
      go_wp2
      go_ret
      rw [HT.out]
      exact ⟨.slice vA (n + 1) vc, rfl, by have := HI.out.own; rw [HK.out] at this ⊢; exact this, HI.out.bel⟩
end Go.Proofs.YthifmcnemeiphaaDoor

/- Ig -/
/- Layer 16: CommonSuperclass of the reference (written by gen/ig.py). -/
namespace Go.Proofs.YthifmcnemeiphaaDoor
open Go.ChangeShapes Go.WideShapes Go.ChangeAt Go.RowKit Go.PlainAid Go.Maps
set_option linter.unusedSimpArgs false
set_option linter.unusedVariables false

set_option maxRecDepth 100000 in
set_option maxHeartbeats 4000000 in
theorem rcs_eq (A : Option Addr) (n c : Nat) (L : List CI) (a b : ByteArray) (w : World) (hn : L.length = n) (hc : n ≤ 1000000) (h : CIs w w.heap.size A L) (h0 : (a.toList == b.toList) = true) :
    Calls Tryd.prog 26 #[.slice A n c, .string a, .string b] w fun e w' => e = .returned (.string a) ∧ Below w.heap.size w w' := by
  have HL := Lib.hid h
  have HN := Lib.hid hn
  clear h hn
  go_enter Tryd.func26, Tryd.ntmps26
  go_wp2
  go_ret
  exact ⟨rfl, Below.refl _ _⟩
set_option maxRecDepth 100000 in
set_option maxHeartbeats 4000000 in
theorem rcs_b1 (A : Option Addr) (n c : Nat) (L : List CI) (a b : ByteArray) (w : World) (hn : L.length = n) (hc : n ≤ 1000000) (h : CIs w w.heap.size A L) (h0 : (a.toList == b.toList) = false) (h1 : fB L a = false) (fb : Bool) (h2 : fB L b = fb) :
    Calls Tryd.prog 26 #[.slice A n c, .string a, .string b] w fun e w' => e = .returned (.string rootS) ∧ Below w.heap.size w w' := by
  have HL := Lib.hid h
  have HN := Lib.hid hn
  clear h hn
  have HK := Lib.hid (fun (s : ByteArray) (W : World) (hb : Below w.heap.size w W) => rlookup_any A n c L s W HN.out (by omega) (HL.out.up hb))
  have HKa := Lib.hid (fun (W : World) (hb : Below w.heap.size w W) => by have q := HK.out a W hb; rw [h1] at q; exact q)
  have HKb := Lib.hid (fun (W : World) (hb : Below w.heap.size w W) => by have q := HK.out b W hb; rw [h2] at q; exact q)
  obtain ⟨x, hx⟩ : ∃ x, lkC L a = x := ⟨_, rfl⟩
  obtain ⟨y, hy⟩ : ∃ y, lkC L b = y := ⟨_, rfl⟩
  rw [hx] at HKa
  rw [hy] at HKb
  skip
  clear hx hy h1 h2
  have HI := Lib.hid (show True from trivial)
  skip
  go_enter Tryd.func26, Tryd.ntmps26
  go_upto_region 4 with (go_at_call 21; (with_reducible refine (HKa.out _ (Below.refl _ _)).mono ?_); rintro e w1 ⟨rfl, hb1⟩)
  have HBX := Lib.hid (World.alloc_heap_new w1 (.cells #[.string x.nm, .string x.su, .slice x.iA x.n x.c, .bool x.isI] 30))
  have HB2 := Lib.hid (below_al hb1 (.cells #[.string x.nm, .string x.su, .slice x.iA x.n x.c, .bool x.isI] 30))
  generalize w1.alloc (.cells #[.string x.nm, .string x.su, .slice x.iA x.n x.c, .bool x.isI] 30) = W2 at HBX HB2 ⊢
  generalize w1.heap.size = B7 at HBX ⊢
  clear hb1
  go_upto_region 5 with (go_at_call 21; (with_reducible refine (HKb.out _ HB2.out).mono ?_); rintro e w3 ⟨rfl, hb3⟩)
  have HBX3 := Lib.hid (laid_old (o' := (.cells #[.string y.nm, .string y.su, .slice y.iA y.n y.c, .bool y.isI] 30)) ((hb3.block B7 (lt_heap HBX.out)).trans HBX.out))
  have HBY := Lib.hid (World.alloc_heap_new w3 (.cells #[.string y.nm, .string y.su, .slice y.iA y.n y.c, .bool y.isI] 30))
  have HB4 := Lib.hid (below_al (below_on HB2.out hb3) (.cells #[.string y.nm, .string y.su, .slice y.iA y.n y.c, .bool y.isI] 30))
  generalize w3.alloc (.cells #[.string y.nm, .string y.su, .slice y.iA y.n y.c, .bool y.isI] 30) = W4 at HBX3 HBY HB4 ⊢
  generalize w3.heap.size = B9 at HBY ⊢
  obtain ⟨⟨x0, x1, x2, x3⟩, _⟩ := four_cells HBX3.out
  obtain ⟨⟨y0, y1, y2, y3⟩, _⟩ := four_cells HBY.out
  clear hb3
  skip
  go_wp2
  go_ret
  exact ⟨rfl, HB4.out⟩
set_option maxRecDepth 100000 in
set_option maxHeartbeats 4000000 in
theorem rcs_b2 (A : Option Addr) (n c : Nat) (L : List CI) (a b : ByteArray) (w : World) (hn : L.length = n) (hc : n ≤ 1000000) (h : CIs w w.heap.size A L) (h0 : (a.toList == b.toList) = false) (h1 : fB L a = true) (h2 : fB L b = false) :
    Calls Tryd.prog 26 #[.slice A n c, .string a, .string b] w fun e w' => e = .returned (.string rootS) ∧ Below w.heap.size w w' := by
  have HL := Lib.hid h
  have HN := Lib.hid hn
  clear h hn
  have HK := Lib.hid (fun (s : ByteArray) (W : World) (hb : Below w.heap.size w W) => rlookup_any A n c L s W HN.out (by omega) (HL.out.up hb))
  have HKa := Lib.hid (fun (W : World) (hb : Below w.heap.size w W) => by have q := HK.out a W hb; rw [h1] at q; exact q)
  have HKb := Lib.hid (fun (W : World) (hb : Below w.heap.size w W) => by have q := HK.out b W hb; rw [h2] at q; exact q)
  obtain ⟨x, hx⟩ : ∃ x, lkC L a = x := ⟨_, rfl⟩
  obtain ⟨y, hy⟩ : ∃ y, lkC L b = y := ⟨_, rfl⟩
  rw [hx] at HKa
  rw [hy] at HKb
  skip
  clear hx hy h1 h2
  have HI := Lib.hid (show True from trivial)
  skip
  go_enter Tryd.func26, Tryd.ntmps26
  go_upto_region 4 with (go_at_call 21; (with_reducible refine (HKa.out _ (Below.refl _ _)).mono ?_); rintro e w1 ⟨rfl, hb1⟩)
  have HBX := Lib.hid (World.alloc_heap_new w1 (.cells #[.string x.nm, .string x.su, .slice x.iA x.n x.c, .bool x.isI] 30))
  have HB2 := Lib.hid (below_al hb1 (.cells #[.string x.nm, .string x.su, .slice x.iA x.n x.c, .bool x.isI] 30))
  generalize w1.alloc (.cells #[.string x.nm, .string x.su, .slice x.iA x.n x.c, .bool x.isI] 30) = W2 at HBX HB2 ⊢
  generalize w1.heap.size = B7 at HBX ⊢
  clear hb1
  go_upto_region 5 with (go_at_call 21; (with_reducible refine (HKb.out _ HB2.out).mono ?_); rintro e w3 ⟨rfl, hb3⟩)
  have HBX3 := Lib.hid (laid_old (o' := (.cells #[.string y.nm, .string y.su, .slice y.iA y.n y.c, .bool y.isI] 30)) ((hb3.block B7 (lt_heap HBX.out)).trans HBX.out))
  have HBY := Lib.hid (World.alloc_heap_new w3 (.cells #[.string y.nm, .string y.su, .slice y.iA y.n y.c, .bool y.isI] 30))
  have HB4 := Lib.hid (below_al (below_on HB2.out hb3) (.cells #[.string y.nm, .string y.su, .slice y.iA y.n y.c, .bool y.isI] 30))
  generalize w3.alloc (.cells #[.string y.nm, .string y.su, .slice y.iA y.n y.c, .bool y.isI] 30) = W4 at HBX3 HBY HB4 ⊢
  generalize w3.heap.size = B9 at HBY ⊢
  obtain ⟨⟨x0, x1, x2, x3⟩, _⟩ := four_cells HBX3.out
  obtain ⟨⟨y0, y1, y2, y3⟩, _⟩ := four_cells HBY.out
  clear hb3
  skip
  go_wp2
  go_ret
  exact ⟨rfl, HB4.out⟩
set_option maxRecDepth 100000 in
set_option maxHeartbeats 4000000 in
theorem rcs_b3 (A : Option Addr) (n c : Nat) (L : List CI) (a b : ByteArray) (w : World) (hn : L.length = n) (hc : n ≤ 1000000) (h : CIs w w.heap.size A L) (h0 : (a.toList == b.toList) = false) (h1 : fB L a = true) (h2 : fB L b = true) (h3 : (lkC L a).isI = true) :
    Calls Tryd.prog 26 #[.slice A n c, .string a, .string b] w fun e w' => e = .returned (.string rootS) ∧ Below w.heap.size w w' := by
  have HL := Lib.hid h
  have HN := Lib.hid hn
  clear h hn
  have HK := Lib.hid (fun (s : ByteArray) (W : World) (hb : Below w.heap.size w W) => rlookup_any A n c L s W HN.out (by omega) (HL.out.up hb))
  have HKa := Lib.hid (fun (W : World) (hb : Below w.heap.size w W) => by have q := HK.out a W hb; rw [h1] at q; exact q)
  have HKb := Lib.hid (fun (W : World) (hb : Below w.heap.size w W) => by have q := HK.out b W hb; rw [h2] at q; exact q)
  obtain ⟨x, hx⟩ : ∃ x, lkC L a = x := ⟨_, rfl⟩
  obtain ⟨y, hy⟩ : ∃ y, lkC L b = y := ⟨_, rfl⟩
  rw [hx] at HKa
  rw [hy] at HKb
  rw [hx] at h3
  clear hx hy h1 h2
  have HI := Lib.hid (show True from trivial)
  have H3 := Lib.hid h3
  clear h3
  go_enter Tryd.func26, Tryd.ntmps26
  go_upto_region 4 with (go_at_call 21; (with_reducible refine (HKa.out _ (Below.refl _ _)).mono ?_); rintro e w1 ⟨rfl, hb1⟩)
  have HBX := Lib.hid (World.alloc_heap_new w1 (.cells #[.string x.nm, .string x.su, .slice x.iA x.n x.c, .bool x.isI] 30))
  have HB2 := Lib.hid (below_al hb1 (.cells #[.string x.nm, .string x.su, .slice x.iA x.n x.c, .bool x.isI] 30))
  generalize w1.alloc (.cells #[.string x.nm, .string x.su, .slice x.iA x.n x.c, .bool x.isI] 30) = W2 at HBX HB2 ⊢
  generalize w1.heap.size = B7 at HBX ⊢
  clear hb1
  go_upto_region 5 with (go_at_call 21; (with_reducible refine (HKb.out _ HB2.out).mono ?_); rintro e w3 ⟨rfl, hb3⟩)
  have HBX3 := Lib.hid (laid_old (o' := (.cells #[.string y.nm, .string y.su, .slice y.iA y.n y.c, .bool y.isI] 30)) ((hb3.block B7 (lt_heap HBX.out)).trans HBX.out))
  have HBY := Lib.hid (World.alloc_heap_new w3 (.cells #[.string y.nm, .string y.su, .slice y.iA y.n y.c, .bool y.isI] 30))
  have HB4 := Lib.hid (below_al (below_on HB2.out hb3) (.cells #[.string y.nm, .string y.su, .slice y.iA y.n y.c, .bool y.isI] 30))
  generalize w3.alloc (.cells #[.string y.nm, .string y.su, .slice y.iA y.n y.c, .bool y.isI] 30) = W4 at HBX3 HBY HB4 ⊢
  generalize w3.heap.size = B9 at HBY ⊢
  obtain ⟨⟨x0, x1, x2, x3⟩, _⟩ := four_cells HBX3.out
  obtain ⟨⟨y0, y1, y2, y3⟩, _⟩ := four_cells HBY.out
  clear hb3
  have h3 := H3.out
  go_wp2
  go_ret
  exact ⟨rfl, HB4.out⟩
set_option maxRecDepth 100000 in
set_option maxHeartbeats 4000000 in
theorem rcs_b4 (A : Option Addr) (n c : Nat) (L : List CI) (a b : ByteArray) (w : World) (hn : L.length = n) (hc : n ≤ 1000000) (h : CIs w w.heap.size A L) (h0 : (a.toList == b.toList) = false) (h1 : fB L a = true) (h2 : fB L b = true) (h3 : (lkC L a).isI = false) (h4 : (lkC L b).isI = true) :
    Calls Tryd.prog 26 #[.slice A n c, .string a, .string b] w fun e w' => e = .returned (.string rootS) ∧ Below w.heap.size w w' := by
  have HL := Lib.hid h
  have HN := Lib.hid hn
  clear h hn
  have HK := Lib.hid (fun (s : ByteArray) (W : World) (hb : Below w.heap.size w W) => rlookup_any A n c L s W HN.out (by omega) (HL.out.up hb))
  have HKa := Lib.hid (fun (W : World) (hb : Below w.heap.size w W) => by have q := HK.out a W hb; rw [h1] at q; exact q)
  have HKb := Lib.hid (fun (W : World) (hb : Below w.heap.size w W) => by have q := HK.out b W hb; rw [h2] at q; exact q)
  obtain ⟨x, hx⟩ : ∃ x, lkC L a = x := ⟨_, rfl⟩
  obtain ⟨y, hy⟩ : ∃ y, lkC L b = y := ⟨_, rfl⟩
  rw [hx] at HKa
  rw [hy] at HKb
  rw [hx] at h3
  rw [hy] at h4
  clear hx hy h1 h2
  have HI := Lib.hid (show True from trivial)
  have H3 := Lib.hid h3
  have H4 := Lib.hid h4
  clear h3 h4
  go_enter Tryd.func26, Tryd.ntmps26
  go_upto_region 4 with (go_at_call 21; (with_reducible refine (HKa.out _ (Below.refl _ _)).mono ?_); rintro e w1 ⟨rfl, hb1⟩)
  have HBX := Lib.hid (World.alloc_heap_new w1 (.cells #[.string x.nm, .string x.su, .slice x.iA x.n x.c, .bool x.isI] 30))
  have HB2 := Lib.hid (below_al hb1 (.cells #[.string x.nm, .string x.su, .slice x.iA x.n x.c, .bool x.isI] 30))
  generalize w1.alloc (.cells #[.string x.nm, .string x.su, .slice x.iA x.n x.c, .bool x.isI] 30) = W2 at HBX HB2 ⊢
  generalize w1.heap.size = B7 at HBX ⊢
  clear hb1
  go_upto_region 5 with (go_at_call 21; (with_reducible refine (HKb.out _ HB2.out).mono ?_); rintro e w3 ⟨rfl, hb3⟩)
  have HBX3 := Lib.hid (laid_old (o' := (.cells #[.string y.nm, .string y.su, .slice y.iA y.n y.c, .bool y.isI] 30)) ((hb3.block B7 (lt_heap HBX.out)).trans HBX.out))
  have HBY := Lib.hid (World.alloc_heap_new w3 (.cells #[.string y.nm, .string y.su, .slice y.iA y.n y.c, .bool y.isI] 30))
  have HB4 := Lib.hid (below_al (below_on HB2.out hb3) (.cells #[.string y.nm, .string y.su, .slice y.iA y.n y.c, .bool y.isI] 30))
  generalize w3.alloc (.cells #[.string y.nm, .string y.su, .slice y.iA y.n y.c, .bool y.isI] 30) = W4 at HBX3 HBY HB4 ⊢
  generalize w3.heap.size = B9 at HBY ⊢
  obtain ⟨⟨x0, x1, x2, x3⟩, _⟩ := four_cells HBX3.out
  obtain ⟨⟨y0, y1, y2, y3⟩, _⟩ := four_cells HBY.out
  clear hb3
  have h3 := H3.out
  have h4 := H4.out
  go_wp2
  go_ret
  exact ⟨rfl, HB4.out⟩
set_option maxRecDepth 100000 in
set_option maxHeartbeats 4000000 in
theorem rcs_g (A : Option Addr) (n c : Nat) (L : List CI) (a b : ByteArray) (w : World) (hn : L.length = n) (hc : n ≤ 1000000) (h : CIs w w.heap.size A L) (h0 : (a.toList == b.toList) = false) (h1 : fB L a = true) (h2 : fB L b = true) (h3 : (lkC L a).isI = false) (h4 : (lkC L b).isI = false) :
    Calls Tryd.prog 26 #[.slice A n c, .string a, .string b] w fun e w' => e = .returned (.string (csF (supL L a) (supL L b))) ∧ Below w.heap.size w w' := by
  have HL := Lib.hid h
  have HN := Lib.hid hn
  clear h hn
  have HK := Lib.hid (fun (s : ByteArray) (W : World) (hb : Below w.heap.size w W) => rlookup_any A n c L s W HN.out (by omega) (HL.out.up hb))
  have HKa := Lib.hid (fun (W : World) (hb : Below w.heap.size w W) => by have q := HK.out a W hb; rw [h1] at q; exact q)
  have HKb := Lib.hid (fun (W : World) (hb : Below w.heap.size w W) => by have q := HK.out b W hb; rw [h2] at q; exact q)
  obtain ⟨x, hx⟩ : ∃ x, lkC L a = x := ⟨_, rfl⟩
  obtain ⟨y, hy⟩ : ∃ y, lkC L b = y := ⟨_, rfl⟩
  rw [hx] at HKa
  rw [hy] at HKb
  rw [hx] at h3
  rw [hy] at h4
  clear hx hy h1 h2
  have HI := Lib.hid (show True from trivial)
  have H3 := Lib.hid h3
  have H4 := Lib.hid h4
  clear h3 h4
  have HLB := Lib.hid (chain_len L (L.length + 1) b)
  have HLA := Lib.hid (chain_len L (L.length + 1) a)
  change Hid ((supL L b).length ≤ _) at HLB
  change Hid ((supL L a).length ≤ _) at HLA
  have HSA := Lib.hid (fun (W : World) (hb : Below w.heap.size w W) => rsup_any A n c L a W HN.out hc (HL.out.up hb))
  have HSB := Lib.hid (fun (W : World) (hb' : Below w.heap.size w W) => rsup_any A n c L b W HN.out hc (HL.out.up hb'))
  obtain ⟨Q, hQ⟩ : ∃ Q, supL L b = Q := ⟨_, rfl⟩
  obtain ⟨P, hP⟩ : ∃ P, supL L a = P := ⟨_, rfl⟩
  rw [hQ] at HLB HSB ⊢
  rw [hP] at HLA HSA ⊢
  rw [HN.out] at HLB HLA
  clear hQ hP
  go_enter Tryd.func26, Tryd.ntmps26
  go_upto_region 4 with (go_at_call 21; (with_reducible refine (HKa.out _ (Below.refl _ _)).mono ?_); rintro e w1 ⟨rfl, hb1⟩)
  have HBX := Lib.hid (World.alloc_heap_new w1 (.cells #[.string x.nm, .string x.su, .slice x.iA x.n x.c, .bool x.isI] 30))
  have HB2 := Lib.hid (below_al hb1 (.cells #[.string x.nm, .string x.su, .slice x.iA x.n x.c, .bool x.isI] 30))
  generalize w1.alloc (.cells #[.string x.nm, .string x.su, .slice x.iA x.n x.c, .bool x.isI] 30) = W2 at HBX HB2 ⊢
  generalize w1.heap.size = B7 at HBX ⊢
  clear hb1
  go_upto_region 5 with (go_at_call 21; (with_reducible refine (HKb.out _ HB2.out).mono ?_); rintro e w3 ⟨rfl, hb3⟩)
  have HBX3 := Lib.hid (laid_old (o' := (.cells #[.string y.nm, .string y.su, .slice y.iA y.n y.c, .bool y.isI] 30)) ((hb3.block B7 (lt_heap HBX.out)).trans HBX.out))
  have HBY := Lib.hid (World.alloc_heap_new w3 (.cells #[.string y.nm, .string y.su, .slice y.iA y.n y.c, .bool y.isI] 30))
  have HB4 := Lib.hid (below_al (below_on HB2.out hb3) (.cells #[.string y.nm, .string y.su, .slice y.iA y.n y.c, .bool y.isI] 30))
  generalize w3.alloc (.cells #[.string y.nm, .string y.su, .slice y.iA y.n y.c, .bool y.isI] 30) = W4 at HBX3 HBY HB4 ⊢
  generalize w3.heap.size = B9 at HBY ⊢
  obtain ⟨⟨x0, x1, x2, x3⟩, _⟩ := four_cells HBX3.out
  obtain ⟨⟨y0, y1, y2, y3⟩, _⟩ := four_cells HBY.out
  clear hb3
  have h3 := H3.out
  have h4 := H4.out
  have hql := HLB.out
  have hpl := HLA.out
  go_upto_region 8 with (first
    | (go_at_call 29; (with_reducible refine (HSA.out _ HB4.out).mono ?_); rintro e w6 ⟨v6, rfl, ho6, hb6⟩; obtain ⟨pA, pc, rfl, hpc1, hpc2⟩ := own_shape ho6; have HO6 := Lib.hid ho6; have HB6 := Lib.hid (below_on HB4.out hb6); clear ho6 hb6)
    | (go_at_call 29; (with_reducible refine (HSB.out _ HB6.out).mono ?_); rintro e w8 ⟨v8, rfl, ho8, hb8⟩; obtain ⟨qA, qc, rfl, hqc1, hqc2⟩ := own_shape ho8; have HO8 := Lib.hid ho8; have HP8 := Lib.hid (own_bel HO6.out hb8); have HB8 := Lib.hid (below_on HB6.out hb8); clear ho8 hb8))
  clear x0 x1 x2 x3 y0 y1 y2 y3
  go_wp2
  go_loopw [13] (fun jv wr => ∃ k : Nat, k ≤ P.length ∧ jv = .int .i64 k ∧ Hid (Below w8.heap.size w8 wr) ∧ Hid (∀ j (hj : j < k) (hl : j < P.length), hasL Q P[j] = false)) (fun jv _ => P.length - (intOf jv).toNat)
  case atStart => exact ⟨0, Nat.zero_le _, rfl, Lib.hid (Below.refl _ _), Lib.hid fun j hj => absurd hj (Nat.not_lt_zero _)⟩
  case round =>
    obtain ⟨k, hk, rfl, HB, hg⟩ := hrel
    by_cases hlt2 : k < P.length
    · obtain ⟨g, rfl, hcell, hgl, hgb⟩ := str_at (own_bel HP8.out HB.out) hlt2 rfl
      have HSQ := Lib.hid (SRow.of_own (own_bel HO8.out HB.out)).1
      have hcs : wr.cell? ⟨g, k, none⟩ = some (.string P[k]) := hcell
      have HH := Lib.hid (has_any qA Q.length qc Q P[k] wr rfl (by omega) HSQ.out)
      have HCS := Lib.hid hcs
      cases hh : hasL Q P[k] with
      | true =>
        have HR := Lib.hid (csF_hit hlt2 (fun j hj => hg.out j hj (by omega)) hh)
        rw [hh] at HH
        clear hh
        go_wp2_with (go_at_call 59; (with_reducible refine (HH.out).mono ?_); rintro e w9 ⟨rfl, hb9⟩; have HB9 := Lib.hid (below_on HB.out hb9); have hc9 := (hb9.cell (p := ⟨g, k, none⟩) hgl).trans HCS.out; clear hb9)
        go_ret
        exact ⟨by rw [HR.out]; rfl, below_on HB8.out HB9.out⟩
      | false =>
        have HG := Lib.hid (show ∀ j (hj : j < k + 1) (hl : j < P.length), hasL Q P[j] = false from fun j hj hl => by
          rcases Nat.lt_or_ge j k with h | h
          · exact hg.out j h hl
          · obtain rfl : j = k := by omega
            exact hh)
        rw [hh] at HH
        clear hh
        go_wp2_with (go_at_call 59; (with_reducible refine (HH.out).mono ?_); rintro e w9 ⟨rfl, hb9⟩; have HB9 := Lib.hid (below_on HB.out hb9); clear hb9)
        go_roundw
        case rel => exact ⟨k + 1, by omega, by go_num, HB9, HG⟩
        case measure => simp [intOf]; omega
    · obtain rfl : k = P.length := by omega
      have HR := Lib.hid (csF_miss (P := P) (Q := Q) fun j hj => hg.out j hj hj)
      go_wp2
      go_ret
      exact ⟨by rw [HR.out]; rfl, below_on HB8.out HB.out⟩
theorem rcs_any (A : Option Addr) (n c : Nat) (L : List CI) (a b : ByteArray) (w : World) (hn : L.length = n) (hc : n ≤ 1000000) (h : CIs w w.heap.size A L) :
    Calls Tryd.prog 26 #[.slice A n c, .string a, .string b] w fun e w' => e = .returned (.string (csV L a b)) ∧ Below w.heap.size w w' := by
  unfold csV
  cases h0 : (a.toList == b.toList) with
  | true => rw [if_pos rfl]; exact rcs_eq A n c L a b w hn hc h h0
  | false =>
    rw [if_neg (by simp)]
    cases h1 : fB L a with
    | false => rw [if_pos (Or.inl rfl)]; exact rcs_b1 A n c L a b w hn hc h h0 h1 _ rfl
    | true =>
      cases h2 : fB L b with
      | false => rw [if_pos (Or.inr (Or.inl rfl))]; exact rcs_b2 A n c L a b w hn hc h h0 h1 h2
      | true =>
        cases h3 : (lkC L a).isI with
        | true => rw [if_pos (Or.inr (Or.inr (Or.inl rfl)))]; exact rcs_b3 A n c L a b w hn hc h h0 h1 h2 h3
        | false =>
          cases h4 : (lkC L b).isI with
          | true => rw [if_pos (Or.inr (Or.inr (Or.inr rfl)))]; exact rcs_b4 A n c L a b w hn hc h h0 h1 h2 h3 h4
          | false => rw [if_neg (by simp)]; exact rcs_g A n c L a b w hn hc h h0 h1 h2 h3 h4
end Go.Proofs.YthifmcnemeiphaaDoor

/- Mg -/
/- Layer 18: Types and VTypes at every argument, in the package and in its reference. -/
namespace Go.Proofs.YthifmcnemeiphaaDoor
open Go.ChangeShapes Go.WideShapes Go.ChangeAt Go.RowKit Go.PlainAid Go.Maps
set_option linter.unusedSimpArgs false
set_option linter.unusedVariables false

theorem TY.ref_b {x : TY} (h : x.ref = true) : (∃ d s, x = ⟨d, 76, s⟩) ∨ ¬ x.b = 76 := by
  by_cases hb : x.b = 76
  · exact Or.inl ⟨x.d, x.s, by cases x; simp only at hb; rw [hb]⟩
  · exact Or.inr hb
theorem TY.ref_cls {d : Int} {s : ByteArray} (h : (TY.mk d 76 s).ref = true) : clsB s = true := by
  unfold TY.ref at h
  rw [Bool.and_eq_true] at h
  have h1 := h.1
  rw [valid_in (valid_bd h1)] at h1
  simpa using h1
theorem cls_ne {s : ByteArray} (h : clsB s = true) : s.toList.isEmpty = false := by
  cases hs : s.toList with
  | cons _ _ => rfl
  | nil => rw [s_nil.2 hs, empty_cls] at h; cases h
theorem chain_cls {L : List CI} (hv : VH L) {s : ByteArray} (h : fB L s = true) : clsB s = true := by
  obtain ⟨_, hl⟩ := fI_of h
  have := (hv.all (List.getElem?_eq_getElem hl)).1
  rwa [fnd_nm hl] at this
theorem root_cls : clsB rootS = true := by decide +kernel
theorem csV_cls {L : List CI} (hv : VH L) {a b : ByteArray} (ha : clsB a = true) : clsB (csV L a b) = true := by
  unfold csV
  split
  · exact ha
  · split
    · exact root_cls
    · unfold csF
      cases hf : (supL L a).find? (fun s => hasL (supL L b) s) with
      | none => exact root_cls
      | some x => exact chain_cls hv (chain_found _ _ x (List.mem_of_find?_eq_some hf))
theorem tyJ_bad1 {L : List CI} {a b : TY} (h : a.ref = false) : tyJ L a b = tyZ := by unfold tyJ; rw [if_pos (Or.inl h)]
theorem tyJ_bad2 {L : List CI} {a b : TY} (h : b.ref = false) : tyJ L a b = tyZ := by unfold tyJ; rw [if_pos (Or.inr h)]
theorem tyJ_eq {L : List CI} {a b : TY} (h1 : a.ref = true) (h2 : b.ref = true) (h : tyE a b = true) : tyJ L a b = a := by unfold tyJ; rw [if_neg (by simp [h1, h2]), if_pos h]
theorem tyJ_cls {L : List CI} {d : Int} {s t : ByteArray} (h1 : (TY.mk d 76 s).ref = true) (h2 : (TY.mk d 76 t).ref = true) (h : tyE ⟨d, 76, s⟩ ⟨d, 76, t⟩ = false) : tyJ L ⟨d, 76, s⟩ ⟨d, 76, t⟩ = ⟨d, 76, csV L s t⟩ := by
  unfold tyJ; rw [if_neg (by simp [h1, h2]), if_neg (by simp [h]), if_pos ⟨rfl, rfl, rfl⟩]
theorem tyJ_far {L : List CI} {a b : TY} (h1 : a.ref = true) (h2 : b.ref = true) (h : tyE a b = false) (hn : ¬ (a.b = 76 ∧ b.b = 76 ∧ a.d = b.d)) : tyJ L a b = ⟨if b.dp < a.dp then b.dp else a.dp, 76, rootS⟩ := by
  unfold tyJ; rw [if_neg (by simp [h1, h2]), if_neg (by simp [h]), if_neg hn]
theorem dp_76 {d : Int} {s : ByteArray} : (TY.mk d 76 s).dp = d := by unfold TY.dp; rw [if_pos rfl]
theorem dp_n {d b : Int} {s : ByteArray} (h : ¬ b = 76) : (TY.mk d b s).dp = d - 1 := by unfold TY.dp; rw [if_neg h]
/-- Types of the package -/
theorem mty_any (A : Option Addr) (n c : Nat) (L : List CI) (a b : TY) (w : World) (hn : L.length = n) (hc : n ≤ 1000000) (hv : VH L) (h : CIs w w.heap.size A L) (ha : a.s.size ≤ 9223372036854775807) (hb : b.s.size ≤ 9223372036854775807) :
    Calls Tryd.prog 42 #[.slice A n c, (Value.agg #[Value.int IntKind.i64 (TY.d a), Value.int IntKind.u8 (TY.b a), Value.string (TY.s a)]), (Value.agg #[Value.int IntKind.i64 (TY.d b), Value.int IntKind.u8 (TY.b b), Value.string (TY.s b)])] w (TyRet w (tyJ L a b)) := by
  cases h1 : a.ref with
  | false => rw [tyJ_bad1 h1]; exact mty_z1 _ a b w h1
  | true =>
    cases h2 : b.ref with
    | false => rw [tyJ_bad2 h2]; exact mty_z2 _ a b w h1 h2
    | true =>
      cases hE : tyE a b with
      | true => rw [tyJ_eq h1 h2 hE]; exact mty_e _ a b w h1 hE
      | false =>
        have r1 := TY.ref_rng h1
        have r2 := TY.ref_rng h2
        obtain ⟨d1, b1, s1⟩ := a
        obtain ⟨d2, b2, s2⟩ := b
        by_cases e1 : b1 = 76
        · subst e1
          by_cases e2 : b2 = 76
          · subst e2
            by_cases e3 : d1 = d2
            · subst e3
              rw [tyJ_cls h1 h2 hE]
              exact mty_4 _ d1 s1 s2 _ w h1 h2 hE (fun W hW => cs_any A n c L s1 s2 W hn hc hv (h.up hW) ha hb)
            · rw [tyJ_far h1 h2 hE (fun h => e3 h.2.2), dp_76, dp_76]
              exact mty_50 _ d1 d2 s1 s2 w h1 h2 r1 r2 e3 hE
          · rw [tyJ_far h1 h2 hE (fun h => e2 h.2.1), dp_76, dp_n e2]
            exact mty_51 _ d1 d2 b2 s1 s2 w h1 h2 e2 r1 r2 hE
        · by_cases e2 : b2 = 76
          · subst e2
            rw [tyJ_far h1 h2 hE (fun h => e1 h.1), dp_76, dp_n e1]
            exact mty_52 _ d1 d2 b1 s1 s2 w h1 h2 e1 r1 r2 hE
          · rw [tyJ_far h1 h2 hE (fun h => e1 h.1), dp_n e1, dp_n e2]
            exact mty_53 _ d1 d2 b1 b2 s1 s2 w h1 h2 e1 e2 r1 r2 hE
/-- Types of the reference -/
theorem rty_any (A : Option Addr) (n c : Nat) (L : List CI) (a b : TY) (w : World) (hn : L.length = n) (hc : n ≤ 1000000) (hv : VH L) (h : CIs w w.heap.size A L) (ha : a.s.size ≤ 9223372036854775807) (hb : b.s.size ≤ 9223372036854775807) :
    Calls Tryd.prog 43 #[.slice A n c, (Value.agg #[Value.int IntKind.i64 (TY.d a), Value.int IntKind.u8 (TY.b a), Value.string (TY.s a)]), (Value.agg #[Value.int IntKind.i64 (TY.d b), Value.int IntKind.u8 (TY.b b), Value.string (TY.s b)])] w (TyRet w (tyJ L a b)) := by
  obtain ⟨d1, b1, s1⟩ := a
  obtain ⟨d2, b2, s2⟩ := b
  cases h1 : (TY.mk d1 b1 s1).ref with
  | false => rw [tyJ_bad1 h1]; exact rty_z1 _ b1 b2 d1 d2 s1 s2 w ha hb h1
  | true =>
    cases h2 : (TY.mk d2 b2 s2).ref with
    | false => rw [tyJ_bad2 h2]; exact rty_z2 _ b1 b2 d1 d2 s1 s2 w ha hb h1 h2
    | true =>
      cases hE : tyE (TY.mk d1 b1 s1) (TY.mk d2 b2 s2) with
      | true => rw [tyJ_eq h1 h2 hE]; exact rty_e _ b1 b2 d1 d2 s1 s2 w ha hb h1 h2 hE
      | false =>
        have r1 := TY.ref_rng h1
        have r2 := TY.ref_rng h2
        by_cases e1 : b1 = 76
        · subst e1
          by_cases e2 : b2 = 76
          · subst e2
            by_cases e3 : d1 = d2
            · subst e3
              rw [tyJ_cls h1 h2 hE]
              exact rty_4 _ d1 s1 s2 w ha hb h1 h2 hE _ (cls_ne (csV_cls hv (TY.ref_cls h1))) (fun W hW => rcs_any A n c L s1 s2 W hn hc (h.up hW))
            · rw [tyJ_far h1 h2 hE (fun h => e3 h.2.2), dp_76, dp_76]
              exact rty_50 _ d1 d2 s1 s2 w ha hb h1 h2 hE e3 r1 r2
          · rw [tyJ_far h1 h2 hE (fun h => e2 h.2.1), dp_76, dp_n e2]
            exact rty_51 _ b2 d1 d2 s1 s2 w ha hb h1 h2 hE e2 r1 r2
        · by_cases e2 : b2 = 76
          · subst e2
            rw [tyJ_far h1 h2 hE (fun h => e1 h.1), dp_76, dp_n e1]
            exact rty_52 _ b1 d1 d2 s1 s2 w ha hb h1 h2 hE e1 r1 r2
          · rw [tyJ_far h1 h2 hE (fun h => e1 h.1), dp_n e1, dp_n e2]
            exact rty_53 _ b1 b2 d1 d2 s1 s2 w ha hb h1 h2 hE e1 e2 r1 r2
/-- VTypes of the package -/
theorem mvt_any (A : Option Addr) (n c : Nat) (L : List CI) (a b : VT) (w : World) (hn : L.length = n) (hc : n ≤ 1000000) (hv : VH L) (h : CIs w w.heap.size A L) (ha : a.s.size ≤ 9223372036854775807) (hb : b.s.size ≤ 9223372036854775807) :
    Calls Tryd.prog 44 #[.slice A n c, (Value.agg #[Value.int IntKind.i64 (VT.k a), Value.int IntKind.i64 (VT.n a), Value.int IntKind.i64 (VT.d a), Value.int IntKind.u8 (VT.b a), Value.string (VT.s a), Value.int IntKind.i64 (VT.p a)]), (Value.agg #[Value.int IntKind.i64 (VT.k b), Value.int IntKind.i64 (VT.n b), Value.int IntKind.i64 (VT.d b), Value.int IntKind.u8 (VT.b b), Value.string (VT.s b), Value.int IntKind.i64 (VT.p b)])] w (VtRet w (vtJ L a b)) := by
  unfold vtJ
  cases hE : vtE a b with
  | true => rw [if_pos rfl]; obtain rfl := vtE_eq hE; exact mvt_e _ a w
  | false =>
    rw [if_neg (by simp)]
    obtain ⟨k1, n1, d1, b1, s1, p1⟩ := a
    obtain ⟨k2, n2, d2, b2, s2, p2⟩ := b
    by_cases e1 : k1 = 3
    · subst e1
      by_cases e2 : k2 = 4
      · subst e2; rw [if_pos ⟨rfl, rfl⟩]; exact mvt_34 _ n1 d1 b1 p1 n2 d2 b2 p2 s1 s2 w hE
      · rw [if_neg (fun h => e2 h.2), if_neg (by simp), if_neg (by simp)]; exact mvt_3x _ n1 d1 b1 p1 k2 n2 d2 b2 p2 s1 s2 w hE e2
    · rw [if_neg (fun h => e1 h.1)]
      by_cases e2 : k1 = 4
      · subst e2
        by_cases e3 : k2 = 3
        · subst e3; rw [if_pos ⟨rfl, rfl⟩]; exact mvt_43 _ n1 d1 b1 p1 n2 d2 b2 p2 s1 s2 w hE
        · rw [if_neg (fun h => e3 h.2)]
          by_cases e4 : k2 = 4
          · subst e4
            have KT := fun (W : World) (hW : Below w.heap.size w W) => mty_any A n c L ⟨d1, b1, s1⟩ ⟨d2, b2, s2⟩ W hn hc hv (h.up hW) ha hb
            obtain ⟨t, ht⟩ : ∃ t, tyJ L (VT.ty ⟨4, n1, d1, b1, s1, p1⟩) (VT.ty ⟨4, n2, d2, b2, s2, p2⟩) = t := ⟨_, rfl⟩
            rw [show tyJ L ⟨d1, b1, s1⟩ ⟨d2, b2, s2⟩ = t from ht] at KT
            rw [ht]
            cases hT : tyE t tyZ with
            | true => rw [if_neg (by simp)]; exact mvt_44z _ n1 d1 b1 p1 n2 d2 b2 p2 s1 s2 w hE t KT hT
            | false => rw [if_pos ⟨rfl, rfl, rfl⟩]; exact mvt_44 _ n1 d1 b1 p1 n2 d2 b2 p2 s1 s2 w hE t KT hT
          · rw [if_neg (fun h => e4 h.2.1)]; exact mvt_4x _ n1 d1 b1 p1 k2 n2 d2 b2 p2 s1 s2 w hE e3 e4
      · rw [if_neg (fun h => e2 h.1), if_neg (fun h => e2 h.1)]; exact mvt_xx _ k1 n1 d1 b1 p1 k2 n2 d2 b2 p2 s1 s2 w hE e1 e2
/-- VTypes of the reference -/
theorem rvt_any (A : Option Addr) (n c : Nat) (L : List CI) (a b : VT) (w : World) (hn : L.length = n) (hc : n ≤ 1000000) (hv : VH L) (h : CIs w w.heap.size A L) (ha : a.s.size ≤ 9223372036854775807) (hb : b.s.size ≤ 9223372036854775807) :
    Calls Tryd.prog 45 #[.slice A n c, (Value.agg #[Value.int IntKind.i64 (VT.k a), Value.int IntKind.i64 (VT.n a), Value.int IntKind.i64 (VT.d a), Value.int IntKind.u8 (VT.b a), Value.string (VT.s a), Value.int IntKind.i64 (VT.p a)]), (Value.agg #[Value.int IntKind.i64 (VT.k b), Value.int IntKind.i64 (VT.n b), Value.int IntKind.i64 (VT.d b), Value.int IntKind.u8 (VT.b b), Value.string (VT.s b), Value.int IntKind.i64 (VT.p b)])] w (VtRet w (vtJ L a b)) := by
  unfold vtJ
  cases hE : vtE a b with
  | true => rw [if_pos rfl]; obtain rfl := vtE_eq hE; exact rvt_e _ a w
  | false =>
    rw [if_neg (by simp)]
    obtain ⟨k1, n1, d1, b1, s1, p1⟩ := a
    obtain ⟨k2, n2, d2, b2, s2, p2⟩ := b
    by_cases e1 : k1 = 3
    · subst e1
      by_cases e2 : k2 = 4
      · subst e2; rw [if_pos ⟨rfl, rfl⟩]; exact rvt_34 _ n1 d1 b1 p1 n2 d2 b2 p2 s1 s2 w hE
      · rw [if_neg (fun h => e2 h.2), if_neg (by simp), if_neg (by simp)]; exact rvt_3x _ n1 d1 b1 p1 k2 n2 d2 b2 p2 s1 s2 w hE e2
    · rw [if_neg (fun h => e1 h.1)]
      by_cases e2 : k1 = 4
      · subst e2
        by_cases e3 : k2 = 3
        · subst e3; rw [if_pos ⟨rfl, rfl⟩]; exact rvt_43 _ n1 d1 b1 p1 n2 d2 b2 p2 s1 s2 w hE
        · rw [if_neg (fun h => e3 h.2)]
          by_cases e4 : k2 = 4
          · subst e4
            have KT := fun (W : World) (hW : Below w.heap.size w W) => rty_any A n c L ⟨d1, b1, s1⟩ ⟨d2, b2, s2⟩ W hn hc hv (h.up hW) ha hb
            obtain ⟨t, ht⟩ : ∃ t, tyJ L (VT.ty ⟨4, n1, d1, b1, s1, p1⟩) (VT.ty ⟨4, n2, d2, b2, s2, p2⟩) = t := ⟨_, rfl⟩
            rw [show tyJ L ⟨d1, b1, s1⟩ ⟨d2, b2, s2⟩ = t from ht] at KT
            rw [ht]
            cases hT : tyE t tyZ with
            | true => rw [if_neg (by simp)]; exact rvt_44z _ n1 d1 b1 p1 n2 d2 b2 p2 s1 s2 w hE t KT hT
            | false => rw [if_pos ⟨rfl, rfl, rfl⟩]; exact rvt_44 _ n1 d1 b1 p1 n2 d2 b2 p2 s1 s2 w hE t KT hT
          · rw [if_neg (fun h => e4 h.2.1)]; exact rvt_4x _ n1 d1 b1 p1 k2 n2 d2 b2 p2 s1 s2 w hE e3 e4
      · rw [if_neg (fun h => e2 h.1), if_neg (fun h => e2 h.1)]; exact rvt_xx _ k1 n1 d1 b1 p1 k2 n2 d2 b2 p2 s1 s2 w hE e1 e2
theorem tyJ_size {L : List CI} {A : Option Addr} {w : World} (h : CIs w w.heap.size A L) {a b : TY} (ha : a.s.size ≤ 9223372036854775807) : (tyJ L a b).s.size ≤ 9223372036854775807 := by
  unfold tyJ
  split
  · decide
  · split
    · exact ha
    · split
      · exact csV_size h ha
      · exact (by decide : rootS.size ≤ 9223372036854775807)
theorem vtJ_size {L : List CI} {A : Option Addr} {w : World} (h : CIs w w.heap.size A L) {a b : VT} (ha : a.s.size ≤ 9223372036854775807) (hb : b.s.size ≤ 9223372036854775807) : (vtJ L a b).s.size ≤ 9223372036854775807 := by
  unfold vtJ
  split
  · exact ha
  · split
    · exact hb
    · split
      · exact ha
      · split
        · exact tyJ_size h ha
        · decide
end Go.Proofs.YthifmcnemeiphaaDoor

/- Mn -/
/- Layer 18: rows of verification types in memory. -/
namespace Go.Proofs.YthifmcnemeiphaaDoor
open Go.ChangeShapes Go.WideShapes Go.ChangeAt Go.RowKit Go.PlainAid Go.Maps
set_option linter.unusedSimpArgs false
set_option linter.unusedVariables false

def vcs (v : VT) : List Value := [.int .i64 v.k, .int .i64 v.n, .int .i64 v.d, .int .u8 v.b, .string v.s, .int .i64 v.p]
def vrow (L : List VT) : List Value := L.flatMap vcs
theorem vrow_len (L : List VT) : (vrow L).length = L.length * 6 := by
  unfold vrow
  induction L with
  | nil => rfl
  | cons p L ih => rw [List.flatMap_cons, List.length_append, ih, List.length_cons]; simp [vcs]; omega
theorem vrow_app (L M : List VT) : vrow (L ++ M) = vrow L ++ vrow M := by unfold vrow; simp
theorem vcs_lt {v : VT} {j : Nat} {x : Value} (h : (vcs v)[j]? = some x) : j < 6 := by
  rcases Nat.lt_or_ge j 6 with h' | h'
  · exact h'
  · rw [List.getElem?_eq_none (by simpa [vcs] using h')] at h; cases h
theorem vrow_at : ∀ (L : List VT) (k : Nat) (v : VT), L[k]? = some v → ∀ j, j < 6 → (vrow L)[k * 6 + j]? = (vcs v)[j]?
  | [], k, p, h, _, _ => by simp at h
  | x :: L, 0, p, h, j, hj => by
    obtain rfl : x = p := by simpa using h
    unfold vrow
    rw [List.flatMap_cons, Nat.zero_mul, Nat.zero_add, List.getElem?_append_left (by simpa [vcs] using hj)]
  | x :: L, k + 1, p, h, j, hj => by
    have ih := vrow_at L k p (by simpa using h) j hj
    unfold vrow at ih ⊢
    rw [List.flatMap_cons, List.getElem?_append_right (by simp [vcs]; omega)]
    have e : (k + 1) * 6 + j - (vcs x).length = k * 6 + j := by simp [vcs]; omega
    rw [e]
    exact ih
theorem vrow_one : ∀ (L : List VT), ∀ u ∈ vrow L, u.oneCell' = true
  | [], u, h => by cases h
  | p :: L, u, h => by
    unfold vrow at h
    rw [List.flatMap_cons] at h
    rcases List.mem_append.1 h with h | h
    · simp [vcs] at h
      rcases h with rfl | rfl | rfl | rfl | rfl | rfl <;> rfl
    · exact vrow_one L u h
theorem infoVT : (Tryd.prog.info? 43).map (fun i => (i.zero, i.size, i.bytes)) = some (some (.agg #[.int .i64 0, .int .i64 0, .int .i64 0, .int .u8 0, .string ⟨#[]⟩, .int .i64 0]), 6, 56) := by kernel_rfl
/-- verification types of a slice, at their places: below block B -/
def VS (w : World) (B : Nat) (A : Option Addr) (L : List VT) : Prop :=
  (L = [] ∨ ∃ g o, A = some ⟨g, o, none⟩ ∧ g < B ∧ ∀ (k : Nat) (v : VT), L[k]? = some v → ∀ (j : Nat) (x : Value), (vcs v)[j]? = some x → w.cell? ⟨g, o + k * 6 + j, none⟩ = some x) ∧ ∀ v ∈ L, v.s.size ≤ 9223372036854775807
theorem VS.below {w w' : World} {B : Nat} {A : Option Addr} {L : List VT} (h : VS w B A L) (hb : Below B w w') : VS w' B A L := by
  refine ⟨h.1.imp id ?_, h.2⟩
  rintro ⟨g, o, hA, hg, hc⟩
  exact ⟨g, o, hA, hg, fun k v hk j x hj => (hb.cell (p := ⟨g, _, none⟩) hg).trans (hc k v hk j x hj)⟩
theorem VS.more {w : World} {B B' : Nat} {A : Option Addr} {L : List VT} (h : VS w B A L) (hB : B ≤ B') : VS w B' A L := by
  refine ⟨h.1.imp id ?_, h.2⟩
  rintro ⟨g, o, hA, hg, hc⟩
  exact ⟨g, o, hA, by omega, hc⟩
theorem VS.up {w w' : World} {A : Option Addr} {L : List VT} (h : VS w w.heap.size A L) (hb : Below w.heap.size w w') : VS w' w'.heap.size A L := (h.below hb).more hb.size
theorem VS.at {w : World} {B : Nat} {A : Option Addr} {L : List VT} (h : VS w B A L) {k : Nat} (hk : k < L.length) : ∃ g o, A = some ⟨g, o, none⟩ ∧ g < B ∧ ∀ (j : Nat) (x : Value), (vcs L[k])[j]? = some x → w.cell? ⟨g, o + k * 6 + j, none⟩ = some x := by
  rcases h.1 with h | ⟨g, o, hA, hg, hc⟩
  · rw [h] at hk; exact absurd hk (Nat.not_lt_zero _)
  · exact ⟨g, o, hA, hg, hc k _ (List.getElem?_eq_getElem hk)⟩
/-- the six cells of an element -/
theorem VS.six {w : World} {B : Nat} {A : Option Addr} {L : List VT} (h : VS w B A L) {k : Nat} {v : VT} (hv : L[k]? = some v) : ∃ g o, A = some ⟨g, o, none⟩ ∧ g < B ∧ w.cell? ⟨g, o + k * 6, none⟩ = some (.int .i64 v.k) ∧ w.cell? ⟨g, o + k * 6 + 1, none⟩ = some (.int .i64 v.n) ∧ w.cell? ⟨g, o + k * 6 + 2, none⟩ = some (.int .i64 v.d) ∧ w.cell? ⟨g, o + k * 6 + 3, none⟩ = some (.int .u8 v.b) ∧ w.cell? ⟨g, o + k * 6 + 4, none⟩ = some (.string v.s) ∧ w.cell? ⟨g, o + k * 6 + 5, none⟩ = some (.int .i64 v.p) := by
  rcases h.1 with h | ⟨g, o, hA, hg, hc⟩
  · rw [h] at hv; simp at hv
  · exact ⟨g, o, hA, hg, hc k v hv 0 _ rfl, hc k v hv 1 _ rfl, hc k v hv 2 _ rfl, hc k v hv 3 _ rfl, hc k v hv 4 _ rfl, hc k v hv 5 _ rfl⟩
theorem VS.news {w : World} {B : Nat} {ad : Addr} {L : List VT} (h : VS w B (some ad) L) (j : Nat) (u : Value) (hu : (vrow L)[j]? = some u) : w.cell? (ad.add j) = some u := by
  rcases h.1 with h | ⟨g, o, hA, hg, hc⟩
  · rw [h] at hu; simp [vrow] at hu
  · obtain rfl := Option.some.inj hA
    have hj : j < L.length * 6 := by rw [← vrow_len]; exact lt_of_some hu
    have hk : j / 6 < L.length := by omega
    have h1 := vrow_at L (j / 6) _ (List.getElem?_eq_getElem hk) (j % 6) (Nat.mod_lt _ (by decide))
    rw [show j / 6 * 6 + j % 6 = j by omega, hu] at h1
    have h2 := hc (j / 6) _ (List.getElem?_eq_getElem hk) (j % 6) u h1.symm
    rw [show o + j / 6 * 6 + j % 6 = o + j by omega] at h2
    rw [Addr.add_lit]
    exact h2
theorem VS.of_own {w : World} {base n c : Nat} {A : Option Addr} {L : List VT} (h : w.ownsRow base 43 6 (.slice A n c) n (vrow L)) (hs : ∀ v ∈ L, v.s.size ≤ 9223372036854775807) : VS w w.heap.size A L ∧ L.length = n := by
  have hl : L.length = n := by have := h.1; rw [vrow_len] at this; omega
  refine ⟨⟨?_, hs⟩, hl⟩
  rcases Nat.eq_zero_or_pos n with h0 | h0
  · exact Or.inl (List.eq_nil_of_length_eq_zero (by omega))
  · obtain ⟨g, c4, hv, _, hg⟩ := h.form h0
    injection hv with hA _ hc
    subst hA
    refine Or.inr ⟨g, 0, rfl, hg, fun k p hp j x hj => ?_⟩
    have hk := lt_of_some hp
    have hj6 := vcs_lt hj
    rw [Nat.zero_add, h.cellAt (k * 6 + j) (by omega), vrow_at L k p hp j hj6, hj]
theorem vs_new {W : World} {B : Nat} {L : List VT} (h : W.heap[B]? = some (.cells (vrow L).toArray 43)) (hs : ∀ v ∈ L, v.s.size ≤ 9223372036854775807) : VS W W.heap.size (some ⟨B, 0, none⟩) L := by
  refine ⟨Or.inr ⟨B, 0, rfl, lt_heap h, fun k p hp j x hj => ?_⟩, hs⟩
  rw [Nat.zero_add]
  simp only [World.cell?, h]
  have := vrow_at L k p hp j (vcs_lt hj)
  rw [hj] at this
  simpa using this
end Go.Proofs.YthifmcnemeiphaaDoor

/- Mo -/
/- Layer 18: joinAll (written by gen/mo.py). -/
namespace Go.Proofs.YthifmcnemeiphaaDoor
open Go.ChangeShapes Go.WideShapes Go.ChangeAt Go.RowKit Go.PlainAid Go.Maps
set_option linter.unusedSimpArgs false
set_option linter.unusedVariables false

theorem vrow_set : ∀ (R : List VT) (i : Nat) (v : VT), i < R.length → ((((((vrow R).set (i * 6) (.int .i64 v.k)).set (i * 6 + 1) (.int .i64 v.n)).set (i * 6 + 2) (.int .i64 v.d)).set (i * 6 + 3) (.int .u8 v.b)).set (i * 6 + 4) (.string v.s)).set (i * 6 + 5) (.int .i64 v.p) = vrow (R.set i v)
  | [], i, v, h => absurd h (Nat.not_lt_zero _)
  | x :: R, 0, v, h => by
    unfold vrow
    rw [List.set_cons_zero, List.flatMap_cons, List.flatMap_cons]
    rfl
  | x :: R, i + 1, v, h => by
    have ih := vrow_set R i v (by simpa using h)
    unfold vrow at ih ⊢
    rw [List.set_cons_succ, List.flatMap_cons, List.flatMap_cons, ← ih]
    have e : ∀ j, (i + 1) * 6 + j = (i * 6 + j) + 1 + 1 + 1 + 1 + 1 + 1 := by intro j; omega
    have e0 : (i + 1) * 6 = (i * 6) + 1 + 1 + 1 + 1 + 1 + 1 := by omega
    rw [e 1, e 2, e 3, e 4, e 5, e0]
    rfl
theorem vts_made (n : Nat) : madeCells (Value.agg #[.int .i64 0, .int .i64 0, .int .i64 0, .int .u8 0, .string ⟨#[]⟩, .int .i64 0]).cells (n * 6) = (vrow (List.replicate n vtZ)).toArray := by
  apply Array.ext
  · simp [madeCells, vrow_len]
  · intro q h1 h2
    have hq : q < n * 6 := by simpa [madeCells] using h1
    have h3 := vrow_at (List.replicate n vtZ) (q / 6) vtZ (by rw [List.getElem?_replicate, if_pos (by omega)]) (q % 6) (Nat.mod_lt _ (by decide))
    rw [show q / 6 * 6 + q % 6 = q by omega] at h3
    have h4 : (vrow (List.replicate n vtZ))[q]? = some ((vrow (List.replicate n vtZ)).toArray[q]) := by
      rw [List.getElem?_eq_getElem (by simpa using h2)]; simp
    rw [h4] at h3
    have h5 : q % 6 < 6 := Nat.mod_lt _ (by decide)
    have h6 : (madeCells (Value.agg #[.int .i64 0, .int .i64 0, .int .i64 0, .int .u8 0, .string ⟨#[]⟩, .int .i64 0]).cells (n * 6))[q] = (Value.agg #[.int .i64 0, .int .i64 0, .int .i64 0, .int .u8 0, .string ⟨#[]⟩, .int .i64 0]).cells[q % 6]! := by simp [madeCells, Value.cells]
    rw [h6]
    generalize q % 6 = m at h3 h5 ⊢
    rcases (show m = 0 ∨ m = 1 ∨ m = 2 ∨ m = 3 ∨ m = 4 ∨ m = 5 by omega) with rfl | rfl | rfl | rfl | rfl | rfl <;> exact (Option.some.inj h3).symm
theorem set_vt {w : World} {g i : Nat} {R : List VT} {v : VT} (hh : w.heap[g]? = some (.cells (vrow R).toArray 43)) (hi : i < R.length) :
    ((((((w.setCell ⟨g, i * 6, none⟩ (.int .i64 v.k)).setCell ⟨g, i * 6 + 1, none⟩ (.int .i64 v.n)).setCell ⟨g, i * 6 + 2, none⟩ (.int .i64 v.d)).setCell ⟨g, i * 6 + 3, none⟩ (.int .u8 v.b)).setCell ⟨g, i * 6 + 4, none⟩ (.string v.s)).setCell ⟨g, i * 6 + 5, none⟩ (.int .i64 v.p)).heap[g]? = some (.cells (vrow (R.set i v)).toArray 43) := by
  have h0 := heap_setCell_same w g (i * 6) _ _ (.int .i64 v.k) hh
  generalize w.setCell ⟨g, i * 6, none⟩ (.int .i64 v.k) = w0 at h0 ⊢
  have h1 := heap_setCell_same w0 g (i * 6 + 1) _ _ (.int .i64 v.n) h0
  generalize w0.setCell ⟨g, i * 6 + 1, none⟩ (.int .i64 v.n) = w1 at h1 ⊢
  have h2 := heap_setCell_same w1 g (i * 6 + 2) _ _ (.int .i64 v.d) h1
  generalize w1.setCell ⟨g, i * 6 + 2, none⟩ (.int .i64 v.d) = w2 at h2 ⊢
  have h3 := heap_setCell_same w2 g (i * 6 + 3) _ _ (.int .u8 v.b) h2
  generalize w2.setCell ⟨g, i * 6 + 3, none⟩ (.int .u8 v.b) = w3 at h3 ⊢
  have h4 := heap_setCell_same w3 g (i * 6 + 4) _ _ (.string v.s) h3
  generalize w3.setCell ⟨g, i * 6 + 4, none⟩ (.string v.s) = w4 at h4 ⊢
  have h5 := heap_setCell_same w4 g (i * 6 + 5) _ _ (.int .i64 v.p) h4
  rw [h5, ← vrow_set R i v hi]
  simp
theorem below6o {w W : World} {B : Nat} (h : Below w.heap.size w W) (hB : w.heap.size ≤ B) (o : Nat) (a b c d e f : Value) : Below w.heap.size w ((((((W.setCell ⟨B, o, none⟩ a).setCell ⟨B, o + 1, none⟩ b).setCell ⟨B, o + 2, none⟩ c).setCell ⟨B, o + 3, none⟩ d).setCell ⟨B, o + 4, none⟩ e).setCell ⟨B, o + 5, none⟩ f) :=
  below_st (below_st (below_st (below_st (below_st (below_st h hB _) hB _) hB _) hB _) hB _) hB _
/-- the joins of the elements of two lists -/
def jnL (L : List CI) (P Q : List VT) : List VT := (P.zip Q).map fun x => vtJ L x.1 x.2
def rowI (J : List VT) (m i : Nat) : List VT := J.take i ++ List.replicate (m - i) vtZ
theorem rowI_len {J : List VT} {m i : Nat} (hJ : J.length = m) (hi : i ≤ m) : (rowI J m i).length = m := by
  unfold rowI; rw [List.length_append, List.length_take, List.length_replicate]; omega
theorem rowI_set {J : List VT} {m i : Nat} {v : VT} (hJ : J.length = m) (hi : i < m) (hv : J[i]? = some v) : (rowI J m i).set i v = rowI J m (i + 1) := by
  have hl : (J.take i).length = i := by rw [List.length_take]; omega
  unfold rowI
  rw [List.set_append_right _ _ (by omega), hl, Nat.sub_self, show m - i = (m - (i + 1)) + 1 by omega, List.replicate_succ, List.set_cons_zero]
  have hiJ : i < J.length := by omega
  rw [List.getElem?_eq_getElem hiJ] at hv
  rw [List.take_succ_eq_append_getElem hiJ, Option.some.inj hv, List.append_assoc]
  rfl
theorem row_six {W : World} {g i : Nat} {R : List VT} (h : W.heap[g]? = some (.cells (vrow R).toArray 43)) (hi : i < R.length) :
    (W.cell? ⟨g, i * 6, none⟩ = some (.int .i64 R[i].k) ∧ W.cell? ⟨g, i * 6 + 1, none⟩ = some (.int .i64 R[i].n) ∧ W.cell? ⟨g, i * 6 + 2, none⟩ = some (.int .i64 R[i].d) ∧ W.cell? ⟨g, i * 6 + 3, none⟩ = some (.int .u8 R[i].b) ∧ W.cell? ⟨g, i * 6 + 4, none⟩ = some (.string R[i].s) ∧ W.cell? ⟨g, i * 6 + 5, none⟩ = some (.int .i64 R[i].p)) ∧ ∀ j, W.frozen? ⟨g, j, none⟩ = false := by
  have at' : ∀ j x, (vcs R[i])[j]? = some x → W.cell? ⟨g, i * 6 + j, none⟩ = some x := by
    intro j x hx
    simp only [World.cell?, h]
    have := vrow_at R i _ (List.getElem?_eq_getElem hi) j (vcs_lt hx)
    rw [hx] at this
    simpa using this
  exact ⟨⟨at' 0 _ rfl, at' 1 _ rfl, at' 2 _ rfl, at' 3 _ rfl, at' 4 _ rfl, at' 5 _ rfl⟩, fun j => by simp [World.frozen?, h]⟩
theorem jn_len {L : List CI} {P Q : List VT} {m : Nat} (hP : P.length = m) (hQ : Q.length = m) : (jnL L P Q).length = m := by
  unfold jnL; rw [List.length_map, List.length_zip]; omega
theorem jn_get {L : List CI} {P Q : List VT} {i : Nat} {a b : VT} (ha : P[i]? = some a) (hb : Q[i]? = some b) : (jnL L P Q)[i]? = some (vtJ L a b) := by
  unfold jnL
  rw [List.getElem?_map, List.getElem?_zip_eq_some (z := (a, b)) |>.2 ⟨ha, hb⟩]; rfl
set_option maxRecDepth 100000 in
set_option maxHeartbeats 4000000 in
theorem jn_any (A : Option Addr) (n c : Nat) (L : List CI) (A1 A2 : Option Addr) (m c1 c2 : Nat) (P Q : List VT) (w : World) (hn : L.length = n) (hc : n ≤ 1000000) (hv : VH L) (h : CIs w w.heap.size A L) (hm : m ≤ 1000) (hP : VS w w.heap.size A1 P) (hQ : VS w w.heap.size A2 Q) (lP : P.length = m) (lQ : Q.length = m) (m1 : m ≤ c1) (m2 : m ≤ c2) :
    Calls Tryd.prog 80 #[.slice A n c, .slice A1 m c1, .slice A2 m c2] w fun e w' => ∃ g, e = .returned (.slice (some ⟨g, 0, none⟩) m m) ∧ w.heap.size ≤ g ∧ w'.heap[g]? = some (.cells (vrow (jnL L P Q)).toArray 43) ∧ Below w.heap.size w w' := by
  have HL := Lib.hid h
  have HP := Lib.hid hP
  have HQ := Lib.hid hQ
  have HLP := Lib.hid lP
  have HLQ := Lib.hid lQ
  have KV := Lib.hid (fun (a b : VT) (W : World) (hW : Below w.heap.size w W) (ha : a.s.size ≤ 9223372036854775807) (hb : b.s.size ≤ 9223372036854775807) => mvt_any A n c L a b W hn hc hv (h.up hW) ha hb)
  clear h hP hQ hn hv lP lQ
  obtain ⟨i0, hi, hz0, hz1, hz2⟩ := info_parts infoVT
  go_enter Tryd.func80, Tryd.ntmps80
  go_upto_region 1 with fail
  have hmk := run_makeSlice (P := Tryd.prog) w 54 43 i0 _ Tryd.underlying54 hi hz0 .i64 .i64 m m (by omega) (by omega) (by rw [hz1]; omega) (by rw [hz2]; omega) (by omega)
  rw [hz1, Int.toNat_natCast, vts_made] at hmk
  have H0 := World.alloc_heap_new w (.cells (vrow (List.replicate m vtZ)).toArray 43)
  have hB := below_al (Below.refl w.heap.size w) (.cells (vrow (List.replicate m vtZ)).toArray 43)
  go_upto_region 2 with fail
  generalize w.alloc (.cells (vrow (List.replicate m vtZ)).toArray 43) = W at H0 hB ⊢
  have HJ := Lib.hid (show ∀ i a b, P[i]? = some a → Q[i]? = some b → (jnL L P Q)[i]? = some (vtJ L a b) from fun i a b ha hb => jn_get ha hb)
  have HJL := Lib.hid (jn_len (L := L) HLP.out HLQ.out)
  have HR0 := Lib.hid (show W.heap[w.heap.size]? = some (.cells (vrow (rowI (jnL L P Q) m 0)).toArray 43) from H0)
  have HB0 := Lib.hid hB
  clear H0 hB hi hz0 hz1 hz2
  go_wp2
  go_loopw [14] (fun iv wr => ∃ i : Nat, iv = .int .i64 i ∧ i ≤ m ∧ Hid (wr.heap[w.heap.size]? = some (.cells (vrow (rowI (jnL L P Q) m i)).toArray 43)) ∧ Hid (Below w.heap.size w wr)) (fun iv _ => m - (intOf iv).toNat)
  case atStart => exact ⟨0, rfl, Nat.zero_le _, HR0, HB0⟩
  case round =>
    obtain ⟨i, rfl, him, HR, HB⟩ := hrel
    clear HR0 HB0
    by_cases hlt : i < m
    · obtain ⟨a, ha⟩ : ∃ a, P[i]? = some a := ⟨_, List.getElem?_eq_getElem (by rw [HLP.out]; exact hlt)⟩
      obtain ⟨b, hb⟩ : ∃ b, Q[i]? = some b := ⟨_, List.getElem?_eq_getElem (by rw [HLQ.out]; exact hlt)⟩
      have has := HP.out.2 a (List.mem_of_getElem? ha)
      have hbs := HQ.out.2 b (List.mem_of_getElem? hb)
      have HV := Lib.hid (HJ.out i a b ha hb)
      have HKV := Lib.hid (fun (W : World) (hW : Below w.heap.size w W) => KV.out a b W hW has hbs)
      obtain ⟨v, hv⟩ : ∃ v, vtJ L a b = v := ⟨_, rfl⟩
      rw [hv] at HV HKV
      obtain ⟨g1, o1, rfl, hg1, p0, p1, p2, p3, p4, p5⟩ := HP.out.six ha
      obtain ⟨g2, o2, rfl, hg2, q0, q1, q2, q3, q4, q5⟩ := HQ.out.six hb
      have KS := Lib.hid (fun (u : World) (hu : Below w.heap.size w u) => And.intro (And.intro ((hu.cell (p := ⟨g1, o1 + i * 6, none⟩) hg1).trans p0) (And.intro ((hu.cell (p := ⟨g1, o1 + i * 6 + 1, none⟩) hg1).trans p1) (And.intro ((hu.cell (p := ⟨g1, o1 + i * 6 + 2, none⟩) hg1).trans p2) (And.intro ((hu.cell (p := ⟨g1, o1 + i * 6 + 3, none⟩) hg1).trans p3) (And.intro ((hu.cell (p := ⟨g1, o1 + i * 6 + 4, none⟩) hg1).trans p4) ((hu.cell (p := ⟨g1, o1 + i * 6 + 5, none⟩) hg1).trans p5)))))) (And.intro ((hu.cell (p := ⟨g2, o2 + i * 6, none⟩) hg2).trans q0) (And.intro ((hu.cell (p := ⟨g2, o2 + i * 6 + 1, none⟩) hg2).trans q1) (And.intro ((hu.cell (p := ⟨g2, o2 + i * 6 + 2, none⟩) hg2).trans q2) (And.intro ((hu.cell (p := ⟨g2, o2 + i * 6 + 3, none⟩) hg2).trans q3) (And.intro ((hu.cell (p := ⟨g2, o2 + i * 6 + 4, none⟩) hg2).trans q4) ((hu.cell (p := ⟨g2, o2 + i * 6 + 5, none⟩) hg2).trans q5)))))))
      clear p0 p1 p2 p3 p4 p5 q0 q1 q2 q3 q4 q5 hv ha hb
      have hc1 : i < c1 := by omega
      have hc2 : i < c2 := by omega
      go_upto_region 5 with fail
      refine regN_start (N := 13) (S := (fun u => u.heap[w.heap.size]? = some (.cells (vrow (rowI (jnL L P Q) m i)).toArray 43) ∧ Below w.heap.size w u)) (by kernel_rfl) ?_
      change wpAnyN _ _ _ _ _ _ _ #[false, false, false, false, false, false, false, false, false, false, false, false, false, false] _ (World.drew _)
      have hS0 := (show (fun u => u.heap[w.heap.size]? = some (.cells (vrow (rowI (jnL L P Q) m i)).toArray 43) ∧ Below w.heap.size w u) wr.drew from ⟨HR.out, HB.out.drew⟩)
      refine regN_take (i := 0) (d := (some 17)) (v := ?v5x1) (l2 := #[true, false, false, false, false, false, false, false, false, false, false, false, false, false]) rfl rfl rfl (by kernel_rfl) (by kernel_rfl) (by kernel_rfl) (by kernel_rfl) (fun _ _ _ h => h) (by rfl) ?hv5x1 hS0 ?h5x1
      case hv5x1 => intro u hSu; clear hSu; go_simp; (try with_reducible rfl)
      (try simp only [Act.put, List.setIfInBounds_toArray, List.set_cons_zero, List.set_cons_succ])
      refine regN_take (i := 1) (d := (some 18)) (v := ?v5x2) (l2 := #[true, true, false, false, false, false, false, false, false, false, false, false, false, false]) rfl rfl rfl (by kernel_rfl) (by kernel_rfl) (by kernel_rfl) (by kernel_rfl) (fun _ _ _ h => h) (by rfl) ?hv5x2 hS0 ?h5x2
      case hv5x2 => intro u hSu; clear hSu; go_simp; (try with_reducible rfl)
      (try simp only [Act.put, List.setIfInBounds_toArray, List.set_cons_zero, List.set_cons_succ])
      refine regN_take (i := 2) (d := (some 19)) (v := ?v5x3) (l2 := #[true, true, true, false, false, false, false, false, false, false, false, false, false, false]) rfl rfl rfl (by kernel_rfl) (by kernel_rfl) (by kernel_rfl) (by kernel_rfl) (fun _ _ _ h => h) (by rfl) ?hv5x3 hS0 ?h5x3
      case hv5x3 => intro u hSu; clear hSu; go_simp; (try with_reducible rfl)
      (try simp only [Act.put, List.setIfInBounds_toArray, List.set_cons_zero, List.set_cons_succ])
      refine regN_take (i := 3) (d := (some 20)) (v := ?v5x4) (l2 := #[true, true, true, true, false, false, false, false, false, false, false, false, false, false]) rfl rfl rfl (by kernel_rfl) (by kernel_rfl) (by kernel_rfl) (by kernel_rfl) (fun _ _ _ h => h) (by rfl) ?hv5x4 hS0 ?h5x4
      case hv5x4 => intro u hSu; clear hSu; go_simp; (try with_reducible rfl)
      (try simp only [Act.put, List.setIfInBounds_toArray, List.set_cons_zero, List.set_cons_succ])
      refine regN_take (i := 4) (d := (some 21)) (v := ?v5x5) (l2 := #[true, true, true, true, true, false, false, false, false, false, false, false, false, false]) rfl rfl rfl (by kernel_rfl) (by kernel_rfl) (by kernel_rfl) (by kernel_rfl) (fun _ _ _ h => h) (by rfl) ?hv5x5 hS0 ?h5x5
      case hv5x5 => intro u hSu; clear hSu; go_simp; (try with_reducible rfl)
      (try simp only [Act.put, List.setIfInBounds_toArray, List.set_cons_zero, List.set_cons_succ])
      refine regN_take (i := 5) (d := (some 22)) (v := ?v5x6) (l2 := #[true, true, true, true, true, true, false, false, false, false, false, false, false, false]) rfl rfl rfl (by kernel_rfl) (by kernel_rfl) (by kernel_rfl) (by kernel_rfl) (fun _ _ _ h => h) (by rfl) ?hv5x6 hS0 ?h5x6
      case hv5x6 => intro u hSu; clear hSu; go_simp; (try with_reducible rfl)
      (try simp only [Act.put, List.setIfInBounds_toArray, List.set_cons_zero, List.set_cons_succ])
      refine regN_take (i := 6) (d := (some 23)) (v := ?v5x7) (l2 := #[true, true, true, true, true, true, true, false, false, false, false, false, false, false]) rfl rfl rfl (by kernel_rfl) (by kernel_rfl) (by kernel_rfl) (by kernel_rfl) (fun _ _ _ h => h) (by rfl) ?hv5x7 hS0 ?h5x7
      case hv5x7 => rintro u ⟨y0, y1⟩; obtain ⟨⟨p0, p1, p2, p3, p4, p5⟩, q0, q1, q2, q3, q4, q5⟩ := KS.out u y1; go_simp; (try with_reducible rfl)
      (try simp only [Act.put, List.setIfInBounds_toArray, List.set_cons_zero, List.set_cons_succ])
      refine regN_take (i := 7) (d := (some 24)) (v := ?v5x8) (l2 := #[true, true, true, true, true, true, true, true, false, false, false, false, false, false]) rfl rfl rfl (by kernel_rfl) (by kernel_rfl) (by kernel_rfl) (by kernel_rfl) (fun _ _ _ h => h) (by rfl) ?hv5x8 hS0 ?h5x8
      case hv5x8 => intro u hSu; clear hSu; go_simp; (try with_reducible rfl)
      (try simp only [Act.put, List.setIfInBounds_toArray, List.set_cons_zero, List.set_cons_succ])
      refine regN_take (i := 8) (d := (some 25)) (v := ?v5x9) (l2 := #[true, true, true, true, true, true, true, true, true, false, false, false, false, false]) rfl rfl rfl (by kernel_rfl) (by kernel_rfl) (by kernel_rfl) (by kernel_rfl) (fun _ _ _ h => h) (by rfl) ?hv5x9 hS0 ?h5x9
      case hv5x9 => intro u hSu; clear hSu; go_simp; (try with_reducible rfl)
      (try simp only [Act.put, List.setIfInBounds_toArray, List.set_cons_zero, List.set_cons_succ])
      refine regN_take (i := 9) (d := (some 26)) (v := ?v5x10) (l2 := #[true, true, true, true, true, true, true, true, true, true, false, false, false, false]) rfl rfl rfl (by kernel_rfl) (by kernel_rfl) (by kernel_rfl) (by kernel_rfl) (fun _ _ _ h => h) (by rfl) ?hv5x10 hS0 ?h5x10
      case hv5x10 => intro u hSu; clear hSu; go_simp; (try with_reducible rfl)
      (try simp only [Act.put, List.setIfInBounds_toArray, List.set_cons_zero, List.set_cons_succ])
      refine regN_take (i := 10) (d := (some 27)) (v := ?v5x11) (l2 := #[true, true, true, true, true, true, true, true, true, true, true, false, false, false]) rfl rfl rfl (by kernel_rfl) (by kernel_rfl) (by kernel_rfl) (by kernel_rfl) (fun _ _ _ h => h) (by rfl) ?hv5x11 hS0 ?h5x11
      case hv5x11 => rintro u ⟨y0, y1⟩; obtain ⟨⟨p0, p1, p2, p3, p4, p5⟩, q0, q1, q2, q3, q4, q5⟩ := KS.out u y1; go_simp; (try with_reducible rfl)
      (try simp only [Act.put, List.setIfInBounds_toArray, List.set_cons_zero, List.set_cons_succ])
      refine regN_ready (rs := [11]) (by kernel_rfl) (by simp) ?_
      refine (AllN.cons (i := 11) (l2 := #[true, true, true, true, true, true, true, true, true, true, true, true, false, false]) rfl rfl (fun K hK => ?_) AllN.nil)
      go_simp
      obtain ⟨y0, y1⟩ := hS0
      go_at_call 44
      (with_reducible refine (HKV.out _ y1).mono ?_)
      rintro e w2 ⟨rfl, hb1⟩
      have hSn := (show (fun u => u.heap[w.heap.size]? = some (.cells (vrow (rowI (jnL L P Q) m i)).toArray 43) ∧ Below w.heap.size w u) w2 from ⟨(hb1.block _ (lt_heap y0)).trans y0, below_on y1 hb1⟩)
      clear hb1 y0 y1
      go_simp
      have hS1 : ((fun u => u.heap[w.heap.size]? = some (.cells (vrow (rowI (jnL L P Q) m i)).toArray 43) ∧ Below w.heap.size w u) : World → Prop) _ := hSn
      refine hK _ _ (fun _ => hS1) ?_
      clear hK K
      (try simp only [Act.put, List.setIfInBounds_toArray, List.set_cons_zero, List.set_cons_succ])
      refine regN_take (i := 12) (d := (some 29)) (v := ?v5x12) (l2 := #[true, true, true, true, true, true, true, true, true, true, true, true, true, false]) rfl rfl rfl (by kernel_rfl) (by kernel_rfl) (by kernel_rfl) (by kernel_rfl) (fun _ _ _ h => h) (by rfl) ?hv5x12 hS1 ?h5x12
      case hv5x12 => intro u hSu; clear hSu; go_simp; (try with_reducible rfl)
      (try simp only [Act.put, List.setIfInBounds_toArray, List.set_cons_zero, List.set_cons_succ])
      refine regN_ready (rs := [13]) (by kernel_rfl) (by simp) ?_
      refine (AllN.cons (i := 13) (l2 := #[true, true, true, true, true, true, true, true, true, true, true, true, true, true]) rfl rfl (fun K hK => ?_) AllN.nil)
      obtain ⟨y0, y1⟩ := hS1
      have hrl : i < (rowI (jnL L P Q) m i).length := by rw [rowI_len HJL.out him]; exact hlt
      obtain ⟨⟨t0, t1, t2, t3, t4, t5⟩, ft⟩ := row_six y0 hrl
      have HS := Lib.hid (set_vt (v := v) y0 hrl)
      rw [rowI_set HJL.out hlt HV.out] at HS
      have HBN := Lib.hid (below6o y1 (Nat.le_refl _) (i * 6) (.int .i64 v.k) (.int .i64 v.n) (.int .i64 v.d) (.int .u8 v.b) (.string v.s) (.int .i64 v.p))
      go_simp
      refine hK _ _ (fun h => absurd rfl h) ?_
      clear hK K
      (try simp only [Act.put, List.setIfInBounds_toArray, List.set_cons_zero, List.set_cons_succ])
      refine regN_done (by kernel_rfl) ?_ _
      go_wp2
      go_roundw
      case rel => exact ⟨i + 1, by go_num, by omega, HS, HBN⟩
      case measure => simp [intOf]; omega
    · obtain rfl : i = m := by omega
      have HE := Lib.hid (show wr.heap[w.heap.size]? = some (.cells (vrow (jnL L P Q)).toArray 43) by
        have e := HR.out
        unfold rowI at e
        rw [Nat.sub_self, List.replicate_zero, List.append_nil, List.take_of_length_le (by rw [HJL.out]; exact Nat.le_refl _)] at e
        exact e)
      go_wp2
      go_ret
      exact ⟨_, rfl, Nat.le_refl _, HE.out, HB.out⟩
end Go.Proofs.YthifmcnemeiphaaDoor

/- Mp -/
/- Layer 18: all, of the reference (written by gen/mp.py). -/
namespace Go.Proofs.YthifmcnemeiphaaDoor
open Go.ChangeShapes Go.WideShapes Go.ChangeAt Go.RowKit Go.PlainAid Go.Maps
set_option linter.unusedSimpArgs false
set_option linter.unusedVariables false

theorem step_appV {w : World} {ops : Array Oper} {o : Oper} {a : Act} {K : Act → World → Prop} {Q : Exit → Act → World → Prop} {E : Prop} (hg : o.guard = none) (s x : Operand)
    (hop : o.op = Op.call { callee := Callee.builtin Builtin.append, args := #[s, x], argTypes := #[54, 54] })
    (base n m c : Nat) (L M : List VT) (v : Value) (ad : Addr) (hs : a.eval s = v) (hown : w.ownsRow base 43 6 v n (vrow L)) (hx : a.eval x = .slice (some ad) m c)
    (hm : M.length = m) (h0 : 0 < m) (hnews : ∀ (j : Nat) (u : Value), (vrow M)[j]? = some u → w.cell? (ad.add j) = some u) (hb : n + m ≤ 10000000) (hbase : base ≤ w.heap.size)
    (h : ∀ A' c' w', w'.ownsRow base 43 6 (.slice A' (n + m) c') (n + m) (vrow (L ++ M)) → w.grownBy w' v.ownBlock → K (a.put o.dst (.slice A' (n + m) c')) w') : if Region.wanted o (yielded ops a.tmps) = true then Oper.wp Tryd.prog o a w K Q else E := by
  obtain ⟨i0, hi, hz0, hz1, hz2⟩ := info_parts infoVT
  refine _root_.Go.step_append_lies w hg s x 54 hop base 43 i0 (.agg #[.int .i64 0, .int .i64 0, .int .i64 0, .int .u8 0, .string ⟨#[]⟩, .int .i64 0]) 6 56 Tryd.underlying54 hi hz0 hz1 hz2 rfl (by decide) v n (vrow L) hs hown ad m c (vrow M) hx (by rw [vrow_len, hm]) hnews (vrow_one M) h0 (by unfold maxLen; omega) (by omega) hbase w.heap.size rfl ?_
  intro g cap w' h1 h2 h3 h4
  exact h (some ⟨g, 0, none⟩) cap w' (by rw [vrow_app]; exact h1) h2
set_option maxRecDepth 100000 in
set_option maxHeartbeats 4000000 in
theorem all_any (A : Option Addr) (n c : Nat) (L : List CI) (A1 A2 : Option Addr) (m c1 c2 : Nat) (P Q : List VT) (w : World) (hn : L.length = n) (hc : n ≤ 1000000) (hv : VH L) (h : CIs w w.heap.size A L) (hm : m ≤ 1000) (hP : VS w w.heap.size A1 P) (hQ : VS w w.heap.size A2 Q) (lP : P.length = m) (lQ : Q.length = m) (m1 : m ≤ c1) (m2 : m ≤ c2) :
    Calls Tryd.prog 81 #[.slice A n c, .slice A1 m c1, .slice A2 m c2] w fun e w' => ∃ A' c', e = .returned (.slice A' m c') ∧ w'.ownsRow w.heap.size 43 6 (.slice A' m c') m (vrow (jnL L P Q)) ∧ Below w.heap.size w w' := by
  have HL := Lib.hid h
  have HP := Lib.hid hP
  have HQ := Lib.hid hQ
  have HLP := Lib.hid lP
  have HLQ := Lib.hid lQ
  have KV := Lib.hid (fun (a b : VT) (W : World) (hW : Below w.heap.size w W) (ha : a.s.size ≤ 9223372036854775807) (hb : b.s.size ≤ 9223372036854775807) => rvt_any A n c L a b W hn hc hv (h.up hW) ha hb)
  clear h hP hQ hn hv lP lQ
  have HJ := Lib.hid (show ∀ i a b, P[i]? = some a → Q[i]? = some b → (jnL L P Q)[i]? = some (vtJ L a b) from fun i a b ha hb => jn_get ha hb)
  have HJL := Lib.hid (jn_len (L := L) HLP.out HLQ.out)
  go_enter Tryd.func81, Tryd.ntmps81
  go_wp2
  go_loopw [7, 8] (fun vv iv wr => ∃ (i : Nat) (Ao : Option Addr) (co : Nat), vv = .slice Ao i co ∧ iv = .int .i64 i ∧ i ≤ m ∧ Hid (wr.ownsRow w.heap.size 43 6 (.slice Ao i co) i (vrow ((jnL L P Q).take i))) ∧ Hid (Below w.heap.size w wr)) (fun _ iv _ => m - (intOf iv).toNat)
  case atStart => exact ⟨0, none, 0, rfl, rfl, Nat.zero_le _, Lib.hid (by rw [List.take_zero]; exact World.ownsRow_nil _ _ _ _), Lib.hid (Below.refl _ _)⟩
  case round =>
    obtain ⟨i, Ao, co, rfl, rfl, him, HO, HB⟩ := hrel
    by_cases hlt : i < m
    · obtain ⟨a, ha⟩ : ∃ a, P[i]? = some a := ⟨_, List.getElem?_eq_getElem (by rw [HLP.out]; exact hlt)⟩
      obtain ⟨b, hb⟩ : ∃ b, Q[i]? = some b := ⟨_, List.getElem?_eq_getElem (by rw [HLQ.out]; exact hlt)⟩
      have has := HP.out.2 a (List.mem_of_getElem? ha)
      have hbs := HQ.out.2 b (List.mem_of_getElem? hb)
      have HV := Lib.hid (HJ.out i a b ha hb)
      have HKV := Lib.hid (fun (W : World) (hW : Below w.heap.size w W) => KV.out a b W hW has hbs)
      obtain ⟨v, hv⟩ : ∃ v, vtJ L a b = v := ⟨_, rfl⟩
      rw [hv] at HV HKV
      obtain ⟨g1, o1, rfl, hg1, p0, p1, p2, p3, p4, p5⟩ := HP.out.six ha
      obtain ⟨g2, o2, rfl, hg2, q0, q1, q2, q3, q4, q5⟩ := HQ.out.six hb
      have KS := Lib.hid (fun (u : World) (hu : Below w.heap.size w u) => And.intro (And.intro ((hu.cell (p := ⟨g1, o1 + i * 6, none⟩) hg1).trans p0) (And.intro ((hu.cell (p := ⟨g1, o1 + i * 6 + 1, none⟩) hg1).trans p1) (And.intro ((hu.cell (p := ⟨g1, o1 + i * 6 + 2, none⟩) hg1).trans p2) (And.intro ((hu.cell (p := ⟨g1, o1 + i * 6 + 3, none⟩) hg1).trans p3) (And.intro ((hu.cell (p := ⟨g1, o1 + i * 6 + 4, none⟩) hg1).trans p4) ((hu.cell (p := ⟨g1, o1 + i * 6 + 5, none⟩) hg1).trans p5)))))) (And.intro ((hu.cell (p := ⟨g2, o2 + i * 6, none⟩) hg2).trans q0) (And.intro ((hu.cell (p := ⟨g2, o2 + i * 6 + 1, none⟩) hg2).trans q1) (And.intro ((hu.cell (p := ⟨g2, o2 + i * 6 + 2, none⟩) hg2).trans q2) (And.intro ((hu.cell (p := ⟨g2, o2 + i * 6 + 3, none⟩) hg2).trans q3) (And.intro ((hu.cell (p := ⟨g2, o2 + i * 6 + 4, none⟩) hg2).trans q4) ((hu.cell (p := ⟨g2, o2 + i * 6 + 5, none⟩) hg2).trans q5)))))))
      have HTK := Lib.hid (show (jnL L P Q).take i ++ [v] = (jnL L P Q).take (i + 1) by
        have hiJ : i < (jnL L P Q).length := by rw [HJL.out]; exact hlt
        have e := HV.out
        rw [List.getElem?_eq_getElem hiJ] at e
        rw [List.take_succ_eq_append_getElem hiJ, Option.some.inj e])
      have HVZ := Lib.hid (show ∀ u ∈ [v], u.s.size ≤ 9223372036854775807 from fun u hu => by
        rw [List.mem_singleton.1 hu, ← hv]; exact vtJ_size HL.out has hbs)
      clear p0 p1 p2 p3 p4 p5 q0 q1 q2 q3 q4 q5 hv ha hb
      have hc1 : i < c1 := by omega
      have hc2 : i < c2 := by omega
      go_upto_region 5 with fail
      refine regN_start (N := 13) (S := (fun u => Below w.heap.size w u)) (by kernel_rfl) ?_
      change wpAnyN _ _ _ _ _ _ _ #[false, false, false, false, false, false, false, false, false, false, false, false, false, false] _ (World.drew _)
      have hS0 := (show (fun u => Below w.heap.size w u) wr.drew from HB.out.drew)
      refine regN_take (i := 0) (d := (some 15)) (v := ?v5x1) (l2 := #[true, false, false, false, false, false, false, false, false, false, false, false, false, false]) rfl rfl rfl (by kernel_rfl) (by kernel_rfl) (by kernel_rfl) (by kernel_rfl) (fun _ _ _ h => h) (by rfl) ?hv5x1 hS0 ?h5x1
      case hv5x1 => intro u hSu; clear hSu; go_simp; (try with_reducible rfl)
      (try simp only [Act.put, List.setIfInBounds_toArray, List.set_cons_zero, List.set_cons_succ])
      refine regN_take (i := 1) (d := (some 16)) (v := ?v5x2) (l2 := #[true, true, false, false, false, false, false, false, false, false, false, false, false, false]) rfl rfl rfl (by kernel_rfl) (by kernel_rfl) (by kernel_rfl) (by kernel_rfl) (fun _ _ _ h => h) (by rfl) ?hv5x2 hS0 ?h5x2
      case hv5x2 => intro u hSu; clear hSu; go_simp; (try with_reducible rfl)
      (try simp only [Act.put, List.setIfInBounds_toArray, List.set_cons_zero, List.set_cons_succ])
      refine regN_take (i := 2) (d := (some 17)) (v := ?v5x3) (l2 := #[true, true, true, false, false, false, false, false, false, false, false, false, false, false]) rfl rfl rfl (by kernel_rfl) (by kernel_rfl) (by kernel_rfl) (by kernel_rfl) (fun _ _ _ h => h) (by rfl) ?hv5x3 hS0 ?h5x3
      case hv5x3 => intro u hSu; clear hSu; go_simp; (try with_reducible rfl)
      (try simp only [Act.put, List.setIfInBounds_toArray, List.set_cons_zero, List.set_cons_succ])
      refine regN_take (i := 3) (d := (some 18)) (v := ?v5x4) (l2 := #[true, true, true, true, false, false, false, false, false, false, false, false, false, false]) rfl rfl rfl (by kernel_rfl) (by kernel_rfl) (by kernel_rfl) (by kernel_rfl) (fun _ _ _ h => h) (by rfl) ?hv5x4 hS0 ?h5x4
      case hv5x4 => intro u hSu; clear hSu; go_simp; (try with_reducible rfl)
      (try simp only [Act.put, List.setIfInBounds_toArray, List.set_cons_zero, List.set_cons_succ])
      refine regN_take (i := 4) (d := (some 19)) (v := ?v5x5) (l2 := #[true, true, true, true, true, false, false, false, false, false, false, false, false, false]) rfl rfl rfl (by kernel_rfl) (by kernel_rfl) (by kernel_rfl) (by kernel_rfl) (fun _ _ _ h => h) (by rfl) ?hv5x5 hS0 ?h5x5
      case hv5x5 => intro u hSu; clear hSu; go_simp; (try with_reducible rfl)
      (try simp only [Act.put, List.setIfInBounds_toArray, List.set_cons_zero, List.set_cons_succ])
      refine regN_take (i := 5) (d := (some 20)) (v := ?v5x6) (l2 := #[true, true, true, true, true, true, false, false, false, false, false, false, false, false]) rfl rfl rfl (by kernel_rfl) (by kernel_rfl) (by kernel_rfl) (by kernel_rfl) (fun _ _ _ h => h) (by rfl) ?hv5x6 hS0 ?h5x6
      case hv5x6 => intro u y1; obtain ⟨⟨p0, p1, p2, p3, p4, p5⟩, q0, q1, q2, q3, q4, q5⟩ := KS.out u y1; go_simp; (try with_reducible rfl)
      (try simp only [Act.put, List.setIfInBounds_toArray, List.set_cons_zero, List.set_cons_succ])
      refine regN_take (i := 6) (d := (some 21)) (v := ?v5x7) (l2 := #[true, true, true, true, true, true, true, false, false, false, false, false, false, false]) rfl rfl rfl (by kernel_rfl) (by kernel_rfl) (by kernel_rfl) (by kernel_rfl) (fun _ _ _ h => h) (by rfl) ?hv5x7 hS0 ?h5x7
      case hv5x7 => intro u hSu; clear hSu; go_simp; (try with_reducible rfl)
      (try simp only [Act.put, List.setIfInBounds_toArray, List.set_cons_zero, List.set_cons_succ])
      refine regN_take (i := 7) (d := (some 22)) (v := ?v5x8) (l2 := #[true, true, true, true, true, true, true, true, false, false, false, false, false, false]) rfl rfl rfl (by kernel_rfl) (by kernel_rfl) (by kernel_rfl) (by kernel_rfl) (fun _ _ _ h => h) (by rfl) ?hv5x8 hS0 ?h5x8
      case hv5x8 => intro u hSu; clear hSu; go_simp; (try with_reducible rfl)
      (try simp only [Act.put, List.setIfInBounds_toArray, List.set_cons_zero, List.set_cons_succ])
      refine regN_take (i := 8) (d := (some 23)) (v := ?v5x9) (l2 := #[true, true, true, true, true, true, true, true, true, false, false, false, false, false]) rfl rfl rfl (by kernel_rfl) (by kernel_rfl) (by kernel_rfl) (by kernel_rfl) (fun _ _ _ h => h) (by rfl) ?hv5x9 hS0 ?h5x9
      case hv5x9 => intro u hSu; clear hSu; go_simp; (try with_reducible rfl)
      (try simp only [Act.put, List.setIfInBounds_toArray, List.set_cons_zero, List.set_cons_succ])
      refine regN_take (i := 9) (d := (some 24)) (v := ?v5x10) (l2 := #[true, true, true, true, true, true, true, true, true, true, false, false, false, false]) rfl rfl rfl (by kernel_rfl) (by kernel_rfl) (by kernel_rfl) (by kernel_rfl) (fun _ _ _ h => h) (by rfl) ?hv5x10 hS0 ?h5x10
      case hv5x10 => intro u y1; obtain ⟨⟨p0, p1, p2, p3, p4, p5⟩, q0, q1, q2, q3, q4, q5⟩ := KS.out u y1; go_simp; (try with_reducible rfl)
      (try simp only [Act.put, List.setIfInBounds_toArray, List.set_cons_zero, List.set_cons_succ])
      refine regN_ready (rs := [10]) (by kernel_rfl) (by simp) ?_
      refine (AllN.cons (i := 10) (l2 := #[true, true, true, true, true, true, true, true, true, true, true, false, false, false]) rfl rfl (fun K hK => ?_) AllN.nil)
      go_simp
      go_at_call 45
      (with_reducible refine (HKV.out _ hS0).mono ?_)
      rintro e w2 ⟨rfl, hb1⟩
      have hSn := (show (fun u => Below w.heap.size w u) w2 from below_on hS0 hb1)
      have HON := Lib.hid (own_bel (show World.ownsRow wr.drew w.heap.size 43 6 (.slice Ao i co) i (vrow ((jnL L P Q).take i)) from HO.out) hb1)
      clear hb1
      go_simp
      have hS1 : ((fun u => Below w.heap.size w u) : World → Prop) _ := hSn
      refine hK _ _ (fun _ => hS1) ?_
      clear hK K
      (try simp only [Act.put, List.setIfInBounds_toArray, List.set_cons_zero, List.set_cons_succ])
      refine regN_ready (rs := [11]) (by kernel_rfl) (by simp) ?_
      refine (AllN.cons (i := 11) (l2 := #[true, true, true, true, true, true, true, true, true, true, true, true, false, false]) rfl rfl (fun K hK => ?_) AllN.nil)
      go_simp
      have hS2 : ((fun u => Below w.heap.size w u) : World → Prop) _ := below_al hSn (.cells #[.int .i64 v.k, .int .i64 v.n, .int .i64 v.d, .int .u8 v.b, .string v.s, .int .i64 v.p] 43)
      refine hK _ _ (fun _ => hS2) ?_
      clear hK K
      (try simp only [Act.put, List.setIfInBounds_toArray, List.set_cons_zero, List.set_cons_succ])
      refine regN_ready (rs := [12]) (by kernel_rfl) (by simp) ?_
      refine (AllN.cons (i := 12) (l2 := #[true, true, true, true, true, true, true, true, true, true, true, true, true, false]) rfl rfl (fun K hK => ?_) AllN.nil)
      refine step_appV (by rfl) _ _ (by rfl) w.heap.size i 1 1 ((jnL L P Q).take i) [v] _ _ (by rfl) (HON.out.alloc _) (by rfl) rfl (by decide) (VS.news (vs_new (L := [v]) (World.alloc_heap_new w2 (.cells #[.int .i64 v.k, .int .i64 v.n, .int .i64 v.d, .int .u8 v.b, .string v.s, .int .i64 v.p] 43)) HVZ.out)) (by omega) (by rw [World.size_alloc]; have := hSn.size; omega) ?_
      intro A3 c3 w3 ho3 hg3
      have hSm := (show (fun u => Below w.heap.size w u) w3 from (below_al hSn (.cells #[.int .i64 v.k, .int .i64 v.n, .int .i64 v.d, .int .u8 v.b, .string v.s, .int .i64 v.p] 43)).grown hg3 (by rw [World.size_alloc]; have := hSn.size; omega) (fun q hq => (HON.out.lt q hq).1))
      have hS3 : ((fun u => Below w.heap.size w u) : World → Prop) _ := hSm
      refine hK _ _ (fun _ => hS3) ?_
      clear hK K
      (try simp only [Act.put, List.setIfInBounds_toArray, List.set_cons_zero, List.set_cons_succ])
      refine regN_ready (rs := [13]) (by kernel_rfl) (by simp) ?_
      refine (AllN.cons (i := 13) (l2 := #[true, true, true, true, true, true, true, true, true, true, true, true, true, true]) rfl rfl (fun K hK => ?_) AllN.nil)
      go_simp
      refine hK _ _ (fun h => absurd rfl h) ?_
      clear hK K
      (try simp only [Act.put, List.setIfInBounds_toArray, List.set_cons_zero, List.set_cons_succ])
      refine regN_done (by kernel_rfl) ?_ _
      have HON2 := Lib.hid (show w3.ownsRow w.heap.size 43 6 (.slice A3 (i + 1) c3) (i + 1) (vrow ((jnL L P Q).take (i + 1))) by rw [← HTK.out]; exact ho3)
      have HBN := Lib.hid hSm
      clear ho3 hg3
      go_wp2
      go_roundw
      case rel => exact ⟨i + 1, A3, c3, rfl, by go_num, by omega, HON2, HBN⟩
      case measure => simp [intOf]; omega
    · obtain rfl : i = m := by omega
      have HE := Lib.hid (show wr.ownsRow w.heap.size 43 6 (.slice Ao i co) i (vrow (jnL L P Q)) by
        have e := HO.out
        rw [List.take_of_length_le (by rw [HJL.out]; exact Nat.le_refl _)] at e
        exact e)
      go_wp2
      go_ret
      exact ⟨_, _, rfl, HE.out, HB.out⟩
end Go.Proofs.YthifmcnemeiphaaDoor

/- Mw -/
/- Layer 18: Frames (written by gen/mw.py). -/
namespace Go.Proofs.YthifmcnemeiphaaDoor
open Go.ChangeShapes Go.WideShapes Go.ChangeAt Go.RowKit Go.PlainAid Go.Maps
set_option linter.unusedSimpArgs false
set_option linter.unusedVariables false

/-- a row made since W: its elements in w' -/
structure NewRow (B : Nat) (w' : World) (A : Option Addr) (m c : Nat) (J : List VT) : Prop where
  le : m ≤ c
  mx : c ≤ 9223372036854775807
  len : J.length = m
  fr : J = [] ∨ ∃ g, A = some ⟨g, 0, none⟩ ∧ B ≤ g
  vs : VS w' w'.heap.size A J
theorem NewRow.up {B m c : Nat} {w' w2 : World} {A : Option Addr} {J : List VT} (h : NewRow B w' A m c J) (hb : Below w'.heap.size w' w2) : NewRow B w2 A m c J := ⟨h.le, h.mx, h.len, h.fr, h.vs.up hb⟩
theorem NewRow.set {B m c b j : Nat} {w' : World} {A : Option Addr} {J : List VT} (h : NewRow B w' A m c J) (hb : b < B) (x : Value) : NewRow B (w'.setCell ⟨b, j, none⟩ x) A m c J := by
  refine ⟨h.le, h.mx, h.len, h.fr, ?_, h.vs.2⟩
  rcases h.vs.1 with e | ⟨g, o, hA, hg, hc⟩
  · exact Or.inl e
  · rcases h.fr with e | ⟨g', hA', hg'⟩
    · exact Or.inl e
    · rw [hA] at hA'
      have hgg : g = g' := by injection hA' with h; injection h
      refine Or.inr ⟨g, o, hA, by simpa using hg, fun k v hk q y hy => ?_⟩
      have := hc k v hk q y hy
      rw [World.cell?] at this ⊢
      rw [heap_setCell_other w' ⟨b, j, none⟩ g x (show g ≠ b by omega)]
      exact this
theorem jn_sizes {L : List CI} {A A1 A2 : Option Addr} {w : World} {B1 B2 : Nat} {P Q : List VT} (h : CIs w w.heap.size A L) (hP : VS w B1 A1 P) (hQ : VS w B2 A2 Q) : ∀ v ∈ jnL L P Q, v.s.size ≤ 9223372036854775807 := by
  intro v hv
  unfold jnL at hv
  obtain ⟨x, hx, rfl⟩ := List.mem_map.1 hv
  have := List.of_mem_zip hx
  exact vtJ_size h (hP.2 _ this.1) (hQ.2 _ this.2)
def JnRet (J : List VT) (m : Nat) (W : World) (e : Ending) (w' : World) : Prop := ∃ A' c', e = .returned (.slice A' m c') ∧ NewRow W.heap.size w' A' m c' J ∧ Below W.heap.size W w'
theorem jn_ret (A : Option Addr) (n c : Nat) (L : List CI) (A1 A2 : Option Addr) (m c1 c2 : Nat) (P Q : List VT) (w : World) (hn : L.length = n) (hc : n ≤ 1000000) (hv : VH L) (h : CIs w w.heap.size A L) (hm : m ≤ 1000) (hP : VS w w.heap.size A1 P) (hQ : VS w w.heap.size A2 Q) (lP : P.length = m) (lQ : Q.length = m) (m1 : m ≤ c1) (m2 : m ≤ c2) :
    Calls Tryd.prog 80 #[.slice A n c, .slice A1 m c1, .slice A2 m c2] w (JnRet (jnL L P Q) m w) :=
  (jn_any A n c L A1 A2 m c1 c2 P Q w hn hc hv h hm hP hQ lP lQ m1 m2).mono fun e w' ⟨g, he, hg, hh, hb⟩ =>
    ⟨_, _, he, ⟨Nat.le_refl _, by omega, jn_len lP lQ, Or.inr ⟨g, rfl, hg⟩, vs_new hh (jn_sizes h hP hQ)⟩, hb⟩
theorem all_ret (A : Option Addr) (n c : Nat) (L : List CI) (A1 A2 : Option Addr) (m c1 c2 : Nat) (P Q : List VT) (w : World) (hn : L.length = n) (hc : n ≤ 1000000) (hv : VH L) (h : CIs w w.heap.size A L) (hm : m ≤ 1000) (hP : VS w w.heap.size A1 P) (hQ : VS w w.heap.size A2 Q) (lP : P.length = m) (lQ : Q.length = m) (m1 : m ≤ c1) (m2 : m ≤ c2) :
    Calls Tryd.prog 81 #[.slice A n c, .slice A1 m c1, .slice A2 m c2] w (JnRet (jnL L P Q) m w) :=
  (all_any A n c L A1 A2 m c1 c2 P Q w hn hc hv h hm hP hQ lP lQ m1 m2).mono fun e w' ⟨A', c', he, ho, hb⟩ => by
    obtain ⟨A3, c3, e3, h1, h2⟩ := own_shape ho
    have hc3 : c' = c3 := by injection e3
    subst hc3
    refine ⟨A', c', he, ⟨h1, by unfold maxLen at h2; exact h2, jn_len lP lQ, ?_, (VS.of_own ho (jn_sizes h hP hQ)).1⟩, hb⟩
    rcases Nat.eq_zero_or_pos m with h0 | h0
    · exact Or.inl (List.eq_nil_of_length_eq_zero (by rw [jn_len lP lQ]; exact h0))
    · obtain ⟨g, c4, hv, hg1, hg⟩ := ho.form h0
      injection hv with hA _ _
      exact Or.inr ⟨g, hA, hg1⟩
/-- the frame that is answered -/
def FrsRet (J1 J2 : List VT) (m1 m2 : Nat) (u : Bool) (w : World) (e : Ending) (w' : World) : Prop := ∃ A1 c1 A2 c2, e = .returned (.tuple #[.agg #[.slice A1 m1 c1, .slice A2 m2 c2, .bool u], .int .i64 0]) ∧ NewRow w.heap.size w' A1 m1 c1 J1 ∧ NewRow w.heap.size w' A2 m2 c2 J2 ∧ Below w.heap.size w w'
set_option maxRecDepth 100000 in
set_option maxHeartbeats 4000000 in
theorem rfr_bad (V : Value) (A1 A2 A3 A4 : Option Addr) (n1 n2 n3 n4 c1 c2 c3 c4 : Nat) (u1 u2 : Bool) (w : World) (h : ((n1 : Int) != n3) = true ∨ (((n1 : Int) != n3) = false ∧ ((n2 : Int) != n4) = true)) :
    Calls Tryd.prog 48 #[V, .agg #[.slice A1 n1 c1, .slice A2 n2 c2, .bool u1], .agg #[.slice A3 n3 c3, .slice A4 n4 c4, .bool u2]] w fun e w' => e = .returned (.tuple #[frZ, .int .i64 23]) ∧ Below w.heap.size w w' := by
  rcases h with h | ⟨h0, h⟩
  all_goals
    go_enter Tryd.func48, Tryd.ntmps48
    go_upto_region 1 with fail
    obtain ⟨H0, H1, H2, hB, hz⟩ := three_laid w (.cells #[.slice A1 n1 c1, .slice A2 n2 c2, .bool u1] 56) (.cells #[.slice A3 n3 c3, .slice A4 n4 c4, .bool u2] 56) (.cells #[.slice none 0 0, .slice none 0 0, .bool false] 56)
    generalize ((w.alloc (.cells #[.slice A1 n1 c1, .slice A2 n2 c2, .bool u1] 56)).alloc (.cells #[.slice A3 n3 c3, .slice A4 n4 c4, .bool u2] 56)).alloc (.cells #[.slice none 0 0, .slice none 0 0, .bool false] 56) = W at H0 H1 H2 hB hz ⊢
    obtain ⟨xa0, xa1, xa2, fa0, fa1, fa2⟩ := three_cells H0; obtain ⟨xb0, xb1, xb2, fb0, fb1, fb2⟩ := three_cells H1; obtain ⟨xc0, xc1, xc2, fc0, fc1, fc2⟩ := three_cells H2
    go_wp2
    refine bodyPost_ret (fr_ret rfl rfl (set_three H2)) rfl ⟨rfl, ?_⟩
    exact below_st (below_st (below_st hB (by simp; omega) _) (by simp; omega) _) (by simp; omega) _
set_option maxRecDepth 100000 in
set_option maxHeartbeats 4000000 in
theorem mfs_true (V : Value) (A1 A2 A3 A4 : Option Addr) (m1 m2 c1 c2 c3 c4 : Nat) (u2 : Bool) (J1 J2 : List VT) (w : World)
    (k1 : ∀ W, Below w.heap.size w W → Calls Tryd.prog 80 #[V, .slice A1 m1 c1, .slice A3 m1 c3] W (JnRet J1 m1 W)) (k2 : ∀ W, Below w.heap.size w W → Calls Tryd.prog 80 #[V, .slice A2 m2 c2, .slice A4 m2 c4] W (JnRet J2 m2 W)) :
    Calls Tryd.prog 47 #[V, .agg #[.slice A1 m1 c1, .slice A2 m2 c2, .bool true], .agg #[.slice A3 m1 c3, .slice A4 m2 c4, .bool u2]] w (FrsRet J1 J2 m1 m2 true w) := by
  have K1 := Lib.hid k1
  have K2 := Lib.hid k2
  clear k1 k2
  go_enter Tryd.func47, Tryd.ntmps47
  go_upto_region 1 with fail
  obtain ⟨H0, H1, H2, hB, hz⟩ := three_laid w (.cells #[.slice A1 m1 c1, .slice A2 m2 c2, .bool true] 56) (.cells #[.slice A3 m1 c3, .slice A4 m2 c4, .bool u2] 56) (.cells #[.slice none 0 0, .slice none 0 0, .bool false] 56)
  generalize ((w.alloc (.cells #[.slice A1 m1 c1, .slice A2 m2 c2, .bool true] 56)).alloc (.cells #[.slice A3 m1 c3, .slice A4 m2 c4, .bool u2] 56)).alloc (.cells #[.slice none 0 0, .slice none 0 0, .bool false] 56) = W at H0 H1 H2 hB hz ⊢
  obtain ⟨xa0, xa1, xa2, fa0, fa1, fa2⟩ := three_cells H0
  obtain ⟨xb0, xb1, xb2, fb0, fb1, fb2⟩ := three_cells H1
  go_upto_region 3 with fail
  clear xa0 xa1 xa2 fa0 fa1 fa2 xb0 xb1 xb2 fb0 fb1 fb2
  have hlw1 : w.heap.size + 1 + 1 < W.drew.heap.size := lt_heap (show (World.drew W).heap[w.heap.size + 1 + 1]? = _ from H2)
  refine regN_start (N := 20) (S := (fun u => u.heap[w.heap.size]? = some (.cells #[.slice A1 m1 c1, .slice A2 m2 c2, .bool true] 56) ∧ u.heap[w.heap.size + 1]? = some (.cells #[.slice A3 m1 c3, .slice A4 m2 c4, .bool u2] 56) ∧ Below w.heap.size w u)) (by kernel_rfl) ?_
  change wpAnyN _ _ _ _ _ _ _ #[false, false, false, false, false, false, false, false, false, false, false, false, false, false, false, false, false, false, false, false, false] _ (World.drew _)
  have hS0 := (show (fun u => u.heap[w.heap.size]? = some (.cells #[.slice A1 m1 c1, .slice A2 m2 c2, .bool true] 56) ∧ u.heap[w.heap.size + 1]? = some (.cells #[.slice A3 m1 c3, .slice A4 m2 c4, .bool u2] 56) ∧ Below w.heap.size w u) W.drew from ⟨H0, H1, hB.drew⟩)
  refine regN_take (i := 0) (d := (some 25)) (v := ?v3x1) (l2 := #[true, false, false, false, false, false, false, false, false, false, false, false, false, false, false, false, false, false, false, false, false]) rfl rfl rfl (by kernel_rfl) (by kernel_rfl) (by kernel_rfl) (by kernel_rfl) (fun _ _ _ h => h) (by rfl) ?hv3x1 hS0 ?h3x1
  case hv3x1 => intro u hSu; clear hSu; go_simp; (try with_reducible rfl)
  (try simp only [Act.put, List.setIfInBounds_toArray, List.set_cons_zero, List.set_cons_succ])
  refine regN_take (i := 1) (d := (some 26)) (v := ?v3x2) (l2 := #[true, true, false, false, false, false, false, false, false, false, false, false, false, false, false, false, false, false, false, false, false]) rfl rfl rfl (by kernel_rfl) (by kernel_rfl) (by kernel_rfl) (by kernel_rfl) (fun _ _ _ h => h) (by rfl) ?hv3x2 hS0 ?h3x2
  case hv3x2 => intro u hSu; clear hSu; go_simp; (try with_reducible rfl)
  (try simp only [Act.put, List.setIfInBounds_toArray, List.set_cons_zero, List.set_cons_succ])
  refine regN_take (i := 2) (d := (some 27)) (v := ?v3x3) (l2 := #[true, true, true, false, false, false, false, false, false, false, false, false, false, false, false, false, false, false, false, false, false]) rfl rfl rfl (by kernel_rfl) (by kernel_rfl) (by kernel_rfl) (by kernel_rfl) (fun _ _ _ h => h) (by rfl) ?hv3x3 hS0 ?h3x3
  case hv3x3 => rintro u ⟨y0, y1, y2⟩; obtain ⟨xa0, xa1, xa2, fa0, fa1, fa2⟩ := three_cells y0; obtain ⟨xb0, xb1, xb2, fb0, fb1, fb2⟩ := three_cells y1; go_simp; (try with_reducible rfl)
  (try simp only [Act.put, List.setIfInBounds_toArray, List.set_cons_zero, List.set_cons_succ])
  refine regN_take (i := 3) (d := (some 28)) (v := ?v3x4) (l2 := #[true, true, true, true, false, false, false, false, false, false, false, false, false, false, false, false, false, false, false, false, false]) rfl rfl rfl (by kernel_rfl) (by kernel_rfl) (by kernel_rfl) (by kernel_rfl) (fun _ _ _ h => h) (by rfl) ?hv3x4 hS0 ?h3x4
  case hv3x4 => intro u hSu; clear hSu; go_simp; (try with_reducible rfl)
  (try simp only [Act.put, List.setIfInBounds_toArray, List.set_cons_zero, List.set_cons_succ])
  refine regN_take (i := 4) (d := (some 29)) (v := ?v3x5) (l2 := #[true, true, true, true, true, false, false, false, false, false, false, false, false, false, false, false, false, false, false, false, false]) rfl rfl rfl (by kernel_rfl) (by kernel_rfl) (by kernel_rfl) (by kernel_rfl) (fun _ _ _ h => h) (by rfl) ?hv3x5 hS0 ?h3x5
  case hv3x5 => rintro u ⟨y0, y1, y2⟩; obtain ⟨xa0, xa1, xa2, fa0, fa1, fa2⟩ := three_cells y0; obtain ⟨xb0, xb1, xb2, fb0, fb1, fb2⟩ := three_cells y1; go_simp; (try with_reducible rfl)
  (try simp only [Act.put, List.setIfInBounds_toArray, List.set_cons_zero, List.set_cons_succ])
  refine regN_take (i := 6) (d := (some 31)) (v := ?v3x6) (l2 := #[true, true, true, true, true, false, true, false, false, false, false, false, false, false, false, false, false, false, false, false, false]) rfl rfl rfl (by kernel_rfl) (by kernel_rfl) (by kernel_rfl) (by kernel_rfl) (fun _ _ _ h => h) (by rfl) ?hv3x6 hS0 ?h3x6
  case hv3x6 => intro u hSu; clear hSu; go_simp; (try with_reducible rfl)
  (try simp only [Act.put, List.setIfInBounds_toArray, List.set_cons_zero, List.set_cons_succ])
  refine regN_take (i := 7) (d := (some 32)) (v := ?v3x7) (l2 := #[true, true, true, true, true, false, true, true, false, false, false, false, false, false, false, false, false, false, false, false, false]) rfl rfl rfl (by kernel_rfl) (by kernel_rfl) (by kernel_rfl) (by kernel_rfl) (fun _ _ _ h => h) (by rfl) ?hv3x7 hS0 ?h3x7
  case hv3x7 => intro u hSu; clear hSu; go_simp; (try with_reducible rfl)
  (try simp only [Act.put, List.setIfInBounds_toArray, List.set_cons_zero, List.set_cons_succ])
  refine regN_take (i := 8) (d := (some 33)) (v := ?v3x8) (l2 := #[true, true, true, true, true, false, true, true, true, false, false, false, false, false, false, false, false, false, false, false, false]) rfl rfl rfl (by kernel_rfl) (by kernel_rfl) (by kernel_rfl) (by kernel_rfl) (fun _ _ _ h => h) (by rfl) ?hv3x8 hS0 ?h3x8
  case hv3x8 => rintro u ⟨y0, y1, y2⟩; obtain ⟨xa0, xa1, xa2, fa0, fa1, fa2⟩ := three_cells y0; obtain ⟨xb0, xb1, xb2, fb0, fb1, fb2⟩ := three_cells y1; go_simp; (try with_reducible rfl)
  (try simp only [Act.put, List.setIfInBounds_toArray, List.set_cons_zero, List.set_cons_succ])
  refine regN_take (i := 9) (d := (some 34)) (v := ?v3x9) (l2 := #[true, true, true, true, true, false, true, true, true, true, false, false, false, false, false, false, false, false, false, false, false]) rfl rfl rfl (by kernel_rfl) (by kernel_rfl) (by kernel_rfl) (by kernel_rfl) (fun _ _ _ h => h) (by rfl) ?hv3x9 hS0 ?h3x9
  case hv3x9 => intro u hSu; clear hSu; go_simp; (try with_reducible rfl)
  (try simp only [Act.put, List.setIfInBounds_toArray, List.set_cons_zero, List.set_cons_succ])
  refine regN_take (i := 10) (d := (some 35)) (v := ?v3x10) (l2 := #[true, true, true, true, true, false, true, true, true, true, true, false, false, false, false, false, false, false, false, false, false]) rfl rfl rfl (by kernel_rfl) (by kernel_rfl) (by kernel_rfl) (by kernel_rfl) (fun _ _ _ h => h) (by rfl) ?hv3x10 hS0 ?h3x10
  case hv3x10 => rintro u ⟨y0, y1, y2⟩; obtain ⟨xa0, xa1, xa2, fa0, fa1, fa2⟩ := three_cells y0; obtain ⟨xb0, xb1, xb2, fb0, fb1, fb2⟩ := three_cells y1; go_simp; (try with_reducible rfl)
  (try simp only [Act.put, List.setIfInBounds_toArray, List.set_cons_zero, List.set_cons_succ])
  refine regN_take (i := 12) (d := (some 37)) (v := ?v3x11) (l2 := #[true, true, true, true, true, false, true, true, true, true, true, false, true, false, false, false, false, false, false, false, false]) rfl rfl rfl (by kernel_rfl) (by kernel_rfl) (by kernel_rfl) (by kernel_rfl) (fun _ _ _ h => h) (by rfl) ?hv3x11 hS0 ?h3x11
  case hv3x11 => intro u hSu; clear hSu; go_simp; (try with_reducible rfl)
  (try simp only [Act.put, List.setIfInBounds_toArray, List.set_cons_zero, List.set_cons_succ])
  refine regN_take (i := 13) (d := (some 38)) (v := ?v3x12) (l2 := #[true, true, true, true, true, false, true, true, true, true, true, false, true, true, false, false, false, false, false, false, false]) rfl rfl rfl (by kernel_rfl) (by kernel_rfl) (by kernel_rfl) (by kernel_rfl) (fun _ _ _ h => h) (by rfl) ?hv3x12 hS0 ?h3x12
  case hv3x12 => rintro u ⟨y0, y1, y2⟩; obtain ⟨xa0, xa1, xa2, fa0, fa1, fa2⟩ := three_cells y0; obtain ⟨xb0, xb1, xb2, fb0, fb1, fb2⟩ := three_cells y1; go_simp; (try with_reducible rfl)
  (try simp only [Act.put, List.setIfInBounds_toArray, List.set_cons_zero, List.set_cons_succ])
  refine regN_ready (rs := [5]) (by kernel_rfl) (by simp) ?_
  refine (AllN.cons (i := 5) (l2 := #[true, true, true, true, true, true, true, true, true, true, true, false, true, true, false, false, false, false, false, false, false]) rfl rfl (fun K hK => ?_) AllN.nil)
  go_simp
  obtain ⟨y0, y1, y2⟩ := hS0
  go_at_call 80
  (with_reducible refine (K1.out _ y2).mono ?_)
  rintro e w1 ⟨B1, d1, rfl, hr1, hb1⟩
  have HR1 := Lib.hid hr1
  replace H2 := (hb1.block _ (lt_heap (show (World.drew W).heap[w.heap.size + 1 + 1]? = _ from H2))).trans (show (World.drew W).heap[w.heap.size + 1 + 1]? = _ from H2)
  have hSn1 := (show (fun u => u.heap[w.heap.size]? = some (.cells #[.slice A1 m1 c1, .slice A2 m2 c2, .bool true] 56) ∧ u.heap[w.heap.size + 1]? = some (.cells #[.slice A3 m1 c3, .slice A4 m2 c4, .bool u2] 56) ∧ Below w.heap.size w u) w1 from ⟨(hb1.block _ (lt_heap y0)).trans y0, (hb1.block _ (lt_heap y1)).trans y1, below_on y2 hb1⟩)
  clear hb1 y0 y1 y2 hr1
  go_simp
  have hS1 : ((fun u => u.heap[w.heap.size]? = some (.cells #[.slice A1 m1 c1, .slice A2 m2 c2, .bool true] 56) ∧ u.heap[w.heap.size + 1]? = some (.cells #[.slice A3 m1 c3, .slice A4 m2 c4, .bool u2] 56) ∧ Below w.heap.size w u) : World → Prop) _ := hSn1
  refine hK _ _ (fun _ => hS1) ?_
  clear hK K
  (try simp only [Act.put, List.setIfInBounds_toArray, List.set_cons_zero, List.set_cons_succ])
  refine regN_ready (rs := [11]) (by kernel_rfl) (by simp) ?_
  refine (AllN.cons (i := 11) (l2 := #[true, true, true, true, true, true, true, true, true, true, true, true, true, true, false, false, false, false, false, false, false]) rfl rfl (fun K hK => ?_) AllN.nil)
  go_simp
  obtain ⟨y0, y1, y2⟩ := hS1
  go_at_call 80
  (with_reducible refine (K2.out _ y2).mono ?_)
  rintro e w2 ⟨B2, d2, rfl, hr2, hb1⟩
  have HR2 := Lib.hid hr2
  have hlw2 : w.heap.size + 1 + 1 < w1.heap.size := lt_heap H2
  replace H2 := (hb1.block _ (lt_heap H2)).trans H2
  have HR1b := Lib.hid (HR1.out.up hb1)
  have hSn2 := (show (fun u => u.heap[w.heap.size]? = some (.cells #[.slice A1 m1 c1, .slice A2 m2 c2, .bool true] 56) ∧ u.heap[w.heap.size + 1]? = some (.cells #[.slice A3 m1 c3, .slice A4 m2 c4, .bool u2] 56) ∧ Below w.heap.size w u) w2 from ⟨(hb1.block _ (lt_heap y0)).trans y0, (hb1.block _ (lt_heap y1)).trans y1, below_on y2 hb1⟩)
  clear hb1 y0 y1 y2 hr2
  go_simp
  have hS2 : ((fun u => u.heap[w.heap.size]? = some (.cells #[.slice A1 m1 c1, .slice A2 m2 c2, .bool true] 56) ∧ u.heap[w.heap.size + 1]? = some (.cells #[.slice A3 m1 c3, .slice A4 m2 c4, .bool u2] 56) ∧ Below w.heap.size w u) : World → Prop) _ := hSn2
  refine hK _ _ (fun _ => hS2) ?_
  clear hK K
  (try simp only [Act.put, List.setIfInBounds_toArray, List.set_cons_zero, List.set_cons_succ])
  refine regN_take (i := 14) (d := (some 39)) (v := ?v3x13) (l2 := #[true, true, true, true, true, true, true, true, true, true, true, true, true, true, true, false, false, false, false, false, false]) rfl rfl rfl (by kernel_rfl) (by kernel_rfl) (by kernel_rfl) (by kernel_rfl) (fun _ _ _ h => h) (by rfl) ?hv3x13 hS2 ?h3x13
  case hv3x13 => intro u hSu; clear hSu; go_simp; (try with_reducible rfl)
  (try simp only [Act.put, List.setIfInBounds_toArray, List.set_cons_zero, List.set_cons_succ])
  refine regN_skip (i := 15) (d := (some 40)) (l2 := #[true, true, true, true, true, true, true, true, true, true, true, true, true, true, true, true, false, false, false, false, false]) rfl rfl rfl (by kernel_rfl) (by kernel_rfl) (by kernel_rfl) (by kernel_rfl) (fun _ _ _ h => h) (by rfl) hS2 ?_
  (try simp only [Act.put, List.setIfInBounds_toArray, List.set_cons_zero, List.set_cons_succ])
  refine regN_skip (i := 16) (d := (some 41)) (l2 := #[true, true, true, true, true, true, true, true, true, true, true, true, true, true, true, true, true, false, false, false, false]) rfl rfl rfl (by kernel_rfl) (by kernel_rfl) (by kernel_rfl) (by kernel_rfl) (fun _ _ _ h => h) (by rfl) hS2 ?_
  (try simp only [Act.put, List.setIfInBounds_toArray, List.set_cons_zero, List.set_cons_succ])
  refine regN_take (i := 17) (d := (some 42)) (v := ?v3x14) (l2 := #[true, true, true, true, true, true, true, true, true, true, true, true, true, true, true, true, true, true, false, false, false]) rfl rfl rfl (by kernel_rfl) (by kernel_rfl) (by kernel_rfl) (by kernel_rfl) (fun _ _ _ h => h) (by rfl) ?hv3x14 hS2 ?h3x14
  case hv3x14 => intro u hSu; clear hSu; go_simp; (try with_reducible rfl)
  (try simp only [Act.put, List.setIfInBounds_toArray, List.set_cons_zero, List.set_cons_succ])
  refine regN_take (i := 18) (d := (some 43)) (v := ?v3x15) (l2 := #[true, true, true, true, true, true, true, true, true, true, true, true, true, true, true, true, true, true, true, false, false]) rfl rfl rfl (by kernel_rfl) (by kernel_rfl) (by kernel_rfl) (by kernel_rfl) (fun _ _ _ h => h) (by rfl) ?hv3x15 hS2 ?h3x15
  case hv3x15 => intro u hSu; clear hSu; go_simp; (try with_reducible rfl)
  (try simp only [Act.put, List.setIfInBounds_toArray, List.set_cons_zero, List.set_cons_succ])
  refine regN_ready (rs := [19]) (by kernel_rfl) (by simp) ?_
  refine (AllN.cons (i := 19) (l2 := #[true, true, true, true, true, true, true, true, true, true, true, true, true, true, true, true, true, true, true, true, false]) rfl rfl (fun K hK => ?_) AllN.nil)
  obtain ⟨y0, y1, y2⟩ := hS2
  obtain ⟨xc0, xc1, xc2, fc0, fc1, fc2⟩ := three_cells H2
  have hlt : w.heap.size + 1 + 1 < w2.heap.size := lt_heap H2
  have HZ := Lib.hid (set_three (a := .slice B1 m1 d1) (b := .slice B2 m2 d2) (c := .bool true) H2)
  have HN1 := Lib.hid (((HR1b.out.set (b := w.heap.size + 1 + 1) (j := 0) hlw1 (.slice B1 m1 d1)).set (b := w.heap.size + 1 + 1) (j := 1) hlw1 (.slice B2 m2 d2)).set (b := w.heap.size + 1 + 1) (j := 2) hlw1 (.bool true))
  have HN2 := Lib.hid (((HR2.out.set (b := w.heap.size + 1 + 1) (j := 0) hlw2 (.slice B1 m1 d1)).set (b := w.heap.size + 1 + 1) (j := 1) hlw2 (.slice B2 m2 d2)).set (b := w.heap.size + 1 + 1) (j := 2) hlw2 (.bool true))
  have HBZ := Lib.hid (below_st (below_st (below_st y2 (p := ⟨w.heap.size + 1 + 1, 0, none⟩) (show w.heap.size ≤ w.heap.size + 1 + 1 by omega) (.slice B1 m1 d1)) (p := ⟨w.heap.size + 1 + 1, 1, none⟩) (show w.heap.size ≤ w.heap.size + 1 + 1 by omega) (.slice B2 m2 d2)) (p := ⟨w.heap.size + 1 + 1, 2, none⟩) (show w.heap.size ≤ w.heap.size + 1 + 1 by omega) (.bool true))
  have hSz := (show (fun u => u.heap[w.heap.size]? = some (.cells #[.slice A1 m1 c1, .slice A2 m2 c2, .bool true] 56) ∧ u.heap[w.heap.size + 1]? = some (.cells #[.slice A3 m1 c3, .slice A4 m2 c4, .bool u2] 56) ∧ Below w.heap.size w u) _ from ⟨(heap_setCell_other _ ⟨w.heap.size + 1 + 1, 2, none⟩ _ (.bool true) (show w.heap.size ≠ w.heap.size + 1 + 1 by omega)).trans ((heap_setCell_other _ ⟨w.heap.size + 1 + 1, 1, none⟩ _ (.slice B2 m2 d2) (show w.heap.size ≠ w.heap.size + 1 + 1 by omega)).trans ((heap_setCell_other _ ⟨w.heap.size + 1 + 1, 0, none⟩ _ (.slice B1 m1 d1) (show w.heap.size ≠ w.heap.size + 1 + 1 by omega)).trans y0)), (heap_setCell_other _ ⟨w.heap.size + 1 + 1, 2, none⟩ _ (.bool true) (show w.heap.size + 1 ≠ w.heap.size + 1 + 1 by omega)).trans ((heap_setCell_other _ ⟨w.heap.size + 1 + 1, 1, none⟩ _ (.slice B2 m2 d2) (show w.heap.size + 1 ≠ w.heap.size + 1 + 1 by omega)).trans ((heap_setCell_other _ ⟨w.heap.size + 1 + 1, 0, none⟩ _ (.slice B1 m1 d1) (show w.heap.size + 1 ≠ w.heap.size + 1 + 1 by omega)).trans y1)), HBZ.out⟩)
  go_simp
  have hS3 : ((fun u => u.heap[w.heap.size]? = some (.cells #[.slice A1 m1 c1, .slice A2 m2 c2, .bool true] 56) ∧ u.heap[w.heap.size + 1]? = some (.cells #[.slice A3 m1 c3, .slice A4 m2 c4, .bool u2] 56) ∧ Below w.heap.size w u) : World → Prop) _ := hSz
  refine hK _ _ (fun _ => hS3) ?_
  clear hK K
  (try simp only [Act.put, List.setIfInBounds_toArray, List.set_cons_zero, List.set_cons_succ])
  refine regN_ready (rs := [20]) (by kernel_rfl) (by simp) ?_
  refine (AllN.cons (i := 20) (l2 := #[true, true, true, true, true, true, true, true, true, true, true, true, true, true, true, true, true, true, true, true, true]) rfl rfl (fun K hK => ?_) AllN.nil)
  go_simp
  refine hK _ _ (fun h => absurd rfl h) ?_
  clear hK K
  (try simp only [Act.put, List.setIfInBounds_toArray, List.set_cons_zero, List.set_cons_succ])
  refine regN_done (by kernel_rfl) ?_ _
  go_wp2
  refine bodyPost_ret (fr_ret rfl rfl HZ.out) rfl ⟨B1, d1, B2, d2, rfl, ⟨HN1.out.le, HN1.out.mx, HN1.out.len, HN1.out.fr.imp id fun ⟨g, e, h⟩ => ⟨g, e, by omega⟩, HN1.out.vs⟩, ⟨HN2.out.le, HN2.out.mx, HN2.out.len, HN2.out.fr.imp id fun ⟨g, e, h⟩ => ⟨g, e, by omega⟩, HN2.out.vs⟩, HBZ.out⟩
set_option maxRecDepth 100000 in
set_option maxHeartbeats 4000000 in
theorem mfs_false (V : Value) (A1 A2 A3 A4 : Option Addr) (m1 m2 c1 c2 c3 c4 : Nat) (u2 : Bool) (J1 J2 : List VT) (w : World)
    (k1 : ∀ W, Below w.heap.size w W → Calls Tryd.prog 80 #[V, .slice A1 m1 c1, .slice A3 m1 c3] W (JnRet J1 m1 W)) (k2 : ∀ W, Below w.heap.size w W → Calls Tryd.prog 80 #[V, .slice A2 m2 c2, .slice A4 m2 c4] W (JnRet J2 m2 W)) :
    Calls Tryd.prog 47 #[V, .agg #[.slice A1 m1 c1, .slice A2 m2 c2, .bool false], .agg #[.slice A3 m1 c3, .slice A4 m2 c4, .bool u2]] w (FrsRet J1 J2 m1 m2 u2 w) := by
  have K1 := Lib.hid k1
  have K2 := Lib.hid k2
  clear k1 k2
  go_enter Tryd.func47, Tryd.ntmps47
  go_upto_region 1 with fail
  obtain ⟨H0, H1, H2, hB, hz⟩ := three_laid w (.cells #[.slice A1 m1 c1, .slice A2 m2 c2, .bool false] 56) (.cells #[.slice A3 m1 c3, .slice A4 m2 c4, .bool u2] 56) (.cells #[.slice none 0 0, .slice none 0 0, .bool false] 56)
  generalize ((w.alloc (.cells #[.slice A1 m1 c1, .slice A2 m2 c2, .bool false] 56)).alloc (.cells #[.slice A3 m1 c3, .slice A4 m2 c4, .bool u2] 56)).alloc (.cells #[.slice none 0 0, .slice none 0 0, .bool false] 56) = W at H0 H1 H2 hB hz ⊢
  obtain ⟨xa0, xa1, xa2, fa0, fa1, fa2⟩ := three_cells H0
  obtain ⟨xb0, xb1, xb2, fb0, fb1, fb2⟩ := three_cells H1
  go_upto_region 3 with fail
  clear xa0 xa1 xa2 fa0 fa1 fa2 xb0 xb1 xb2 fb0 fb1 fb2
  have hlw1 : w.heap.size + 1 + 1 < W.drew.heap.size := lt_heap (show (World.drew W).heap[w.heap.size + 1 + 1]? = _ from H2)
  refine regN_start (N := 20) (S := (fun u => u.heap[w.heap.size]? = some (.cells #[.slice A1 m1 c1, .slice A2 m2 c2, .bool false] 56) ∧ u.heap[w.heap.size + 1]? = some (.cells #[.slice A3 m1 c3, .slice A4 m2 c4, .bool u2] 56) ∧ Below w.heap.size w u)) (by kernel_rfl) ?_
  change wpAnyN _ _ _ _ _ _ _ #[false, false, false, false, false, false, false, false, false, false, false, false, false, false, false, false, false, false, false, false, false] _ (World.drew _)
  have hS0 := (show (fun u => u.heap[w.heap.size]? = some (.cells #[.slice A1 m1 c1, .slice A2 m2 c2, .bool false] 56) ∧ u.heap[w.heap.size + 1]? = some (.cells #[.slice A3 m1 c3, .slice A4 m2 c4, .bool u2] 56) ∧ Below w.heap.size w u) W.drew from ⟨H0, H1, hB.drew⟩)
  refine regN_take (i := 0) (d := (some 25)) (v := ?v3x1) (l2 := #[true, false, false, false, false, false, false, false, false, false, false, false, false, false, false, false, false, false, false, false, false]) rfl rfl rfl (by kernel_rfl) (by kernel_rfl) (by kernel_rfl) (by kernel_rfl) (fun _ _ _ h => h) (by rfl) ?hv3x1 hS0 ?h3x1
  case hv3x1 => intro u hSu; clear hSu; go_simp; (try with_reducible rfl)
  (try simp only [Act.put, List.setIfInBounds_toArray, List.set_cons_zero, List.set_cons_succ])
  refine regN_take (i := 1) (d := (some 26)) (v := ?v3x2) (l2 := #[true, true, false, false, false, false, false, false, false, false, false, false, false, false, false, false, false, false, false, false, false]) rfl rfl rfl (by kernel_rfl) (by kernel_rfl) (by kernel_rfl) (by kernel_rfl) (fun _ _ _ h => h) (by rfl) ?hv3x2 hS0 ?h3x2
  case hv3x2 => intro u hSu; clear hSu; go_simp; (try with_reducible rfl)
  (try simp only [Act.put, List.setIfInBounds_toArray, List.set_cons_zero, List.set_cons_succ])
  refine regN_take (i := 2) (d := (some 27)) (v := ?v3x3) (l2 := #[true, true, true, false, false, false, false, false, false, false, false, false, false, false, false, false, false, false, false, false, false]) rfl rfl rfl (by kernel_rfl) (by kernel_rfl) (by kernel_rfl) (by kernel_rfl) (fun _ _ _ h => h) (by rfl) ?hv3x3 hS0 ?h3x3
  case hv3x3 => rintro u ⟨y0, y1, y2⟩; obtain ⟨xa0, xa1, xa2, fa0, fa1, fa2⟩ := three_cells y0; obtain ⟨xb0, xb1, xb2, fb0, fb1, fb2⟩ := three_cells y1; go_simp; (try with_reducible rfl)
  (try simp only [Act.put, List.setIfInBounds_toArray, List.set_cons_zero, List.set_cons_succ])
  refine regN_take (i := 3) (d := (some 28)) (v := ?v3x4) (l2 := #[true, true, true, true, false, false, false, false, false, false, false, false, false, false, false, false, false, false, false, false, false]) rfl rfl rfl (by kernel_rfl) (by kernel_rfl) (by kernel_rfl) (by kernel_rfl) (fun _ _ _ h => h) (by rfl) ?hv3x4 hS0 ?h3x4
  case hv3x4 => intro u hSu; clear hSu; go_simp; (try with_reducible rfl)
  (try simp only [Act.put, List.setIfInBounds_toArray, List.set_cons_zero, List.set_cons_succ])
  refine regN_take (i := 4) (d := (some 29)) (v := ?v3x5) (l2 := #[true, true, true, true, true, false, false, false, false, false, false, false, false, false, false, false, false, false, false, false, false]) rfl rfl rfl (by kernel_rfl) (by kernel_rfl) (by kernel_rfl) (by kernel_rfl) (fun _ _ _ h => h) (by rfl) ?hv3x5 hS0 ?h3x5
  case hv3x5 => rintro u ⟨y0, y1, y2⟩; obtain ⟨xa0, xa1, xa2, fa0, fa1, fa2⟩ := three_cells y0; obtain ⟨xb0, xb1, xb2, fb0, fb1, fb2⟩ := three_cells y1; go_simp; (try with_reducible rfl)
  (try simp only [Act.put, List.setIfInBounds_toArray, List.set_cons_zero, List.set_cons_succ])
  refine regN_take (i := 6) (d := (some 31)) (v := ?v3x6) (l2 := #[true, true, true, true, true, false, true, false, false, false, false, false, false, false, false, false, false, false, false, false, false]) rfl rfl rfl (by kernel_rfl) (by kernel_rfl) (by kernel_rfl) (by kernel_rfl) (fun _ _ _ h => h) (by rfl) ?hv3x6 hS0 ?h3x6
  case hv3x6 => intro u hSu; clear hSu; go_simp; (try with_reducible rfl)
  (try simp only [Act.put, List.setIfInBounds_toArray, List.set_cons_zero, List.set_cons_succ])
  refine regN_take (i := 7) (d := (some 32)) (v := ?v3x7) (l2 := #[true, true, true, true, true, false, true, true, false, false, false, false, false, false, false, false, false, false, false, false, false]) rfl rfl rfl (by kernel_rfl) (by kernel_rfl) (by kernel_rfl) (by kernel_rfl) (fun _ _ _ h => h) (by rfl) ?hv3x7 hS0 ?h3x7
  case hv3x7 => intro u hSu; clear hSu; go_simp; (try with_reducible rfl)
  (try simp only [Act.put, List.setIfInBounds_toArray, List.set_cons_zero, List.set_cons_succ])
  refine regN_take (i := 8) (d := (some 33)) (v := ?v3x8) (l2 := #[true, true, true, true, true, false, true, true, true, false, false, false, false, false, false, false, false, false, false, false, false]) rfl rfl rfl (by kernel_rfl) (by kernel_rfl) (by kernel_rfl) (by kernel_rfl) (fun _ _ _ h => h) (by rfl) ?hv3x8 hS0 ?h3x8
  case hv3x8 => rintro u ⟨y0, y1, y2⟩; obtain ⟨xa0, xa1, xa2, fa0, fa1, fa2⟩ := three_cells y0; obtain ⟨xb0, xb1, xb2, fb0, fb1, fb2⟩ := three_cells y1; go_simp; (try with_reducible rfl)
  (try simp only [Act.put, List.setIfInBounds_toArray, List.set_cons_zero, List.set_cons_succ])
  refine regN_take (i := 9) (d := (some 34)) (v := ?v3x9) (l2 := #[true, true, true, true, true, false, true, true, true, true, false, false, false, false, false, false, false, false, false, false, false]) rfl rfl rfl (by kernel_rfl) (by kernel_rfl) (by kernel_rfl) (by kernel_rfl) (fun _ _ _ h => h) (by rfl) ?hv3x9 hS0 ?h3x9
  case hv3x9 => intro u hSu; clear hSu; go_simp; (try with_reducible rfl)
  (try simp only [Act.put, List.setIfInBounds_toArray, List.set_cons_zero, List.set_cons_succ])
  refine regN_take (i := 10) (d := (some 35)) (v := ?v3x10) (l2 := #[true, true, true, true, true, false, true, true, true, true, true, false, false, false, false, false, false, false, false, false, false]) rfl rfl rfl (by kernel_rfl) (by kernel_rfl) (by kernel_rfl) (by kernel_rfl) (fun _ _ _ h => h) (by rfl) ?hv3x10 hS0 ?h3x10
  case hv3x10 => rintro u ⟨y0, y1, y2⟩; obtain ⟨xa0, xa1, xa2, fa0, fa1, fa2⟩ := three_cells y0; obtain ⟨xb0, xb1, xb2, fb0, fb1, fb2⟩ := three_cells y1; go_simp; (try with_reducible rfl)
  (try simp only [Act.put, List.setIfInBounds_toArray, List.set_cons_zero, List.set_cons_succ])
  refine regN_take (i := 12) (d := (some 37)) (v := ?v3x11) (l2 := #[true, true, true, true, true, false, true, true, true, true, true, false, true, false, false, false, false, false, false, false, false]) rfl rfl rfl (by kernel_rfl) (by kernel_rfl) (by kernel_rfl) (by kernel_rfl) (fun _ _ _ h => h) (by rfl) ?hv3x11 hS0 ?h3x11
  case hv3x11 => intro u hSu; clear hSu; go_simp; (try with_reducible rfl)
  (try simp only [Act.put, List.setIfInBounds_toArray, List.set_cons_zero, List.set_cons_succ])
  refine regN_take (i := 13) (d := (some 38)) (v := ?v3x12) (l2 := #[true, true, true, true, true, false, true, true, true, true, true, false, true, true, false, false, false, false, false, false, false]) rfl rfl rfl (by kernel_rfl) (by kernel_rfl) (by kernel_rfl) (by kernel_rfl) (fun _ _ _ h => h) (by rfl) ?hv3x12 hS0 ?h3x12
  case hv3x12 => rintro u ⟨y0, y1, y2⟩; obtain ⟨xa0, xa1, xa2, fa0, fa1, fa2⟩ := three_cells y0; obtain ⟨xb0, xb1, xb2, fb0, fb1, fb2⟩ := three_cells y1; go_simp; (try with_reducible rfl)
  (try simp only [Act.put, List.setIfInBounds_toArray, List.set_cons_zero, List.set_cons_succ])
  refine regN_ready (rs := [5]) (by kernel_rfl) (by simp) ?_
  refine (AllN.cons (i := 5) (l2 := #[true, true, true, true, true, true, true, true, true, true, true, false, true, true, false, false, false, false, false, false, false]) rfl rfl (fun K hK => ?_) AllN.nil)
  go_simp
  obtain ⟨y0, y1, y2⟩ := hS0
  go_at_call 80
  (with_reducible refine (K1.out _ y2).mono ?_)
  rintro e w1 ⟨B1, d1, rfl, hr1, hb1⟩
  have HR1 := Lib.hid hr1
  replace H2 := (hb1.block _ (lt_heap (show (World.drew W).heap[w.heap.size + 1 + 1]? = _ from H2))).trans (show (World.drew W).heap[w.heap.size + 1 + 1]? = _ from H2)
  have hSn1 := (show (fun u => u.heap[w.heap.size]? = some (.cells #[.slice A1 m1 c1, .slice A2 m2 c2, .bool false] 56) ∧ u.heap[w.heap.size + 1]? = some (.cells #[.slice A3 m1 c3, .slice A4 m2 c4, .bool u2] 56) ∧ Below w.heap.size w u) w1 from ⟨(hb1.block _ (lt_heap y0)).trans y0, (hb1.block _ (lt_heap y1)).trans y1, below_on y2 hb1⟩)
  clear hb1 y0 y1 y2 hr1
  go_simp
  have hS1 : ((fun u => u.heap[w.heap.size]? = some (.cells #[.slice A1 m1 c1, .slice A2 m2 c2, .bool false] 56) ∧ u.heap[w.heap.size + 1]? = some (.cells #[.slice A3 m1 c3, .slice A4 m2 c4, .bool u2] 56) ∧ Below w.heap.size w u) : World → Prop) _ := hSn1
  refine hK _ _ (fun _ => hS1) ?_
  clear hK K
  (try simp only [Act.put, List.setIfInBounds_toArray, List.set_cons_zero, List.set_cons_succ])
  refine regN_ready (rs := [11]) (by kernel_rfl) (by simp) ?_
  refine (AllN.cons (i := 11) (l2 := #[true, true, true, true, true, true, true, true, true, true, true, true, true, true, false, false, false, false, false, false, false]) rfl rfl (fun K hK => ?_) AllN.nil)
  go_simp
  obtain ⟨y0, y1, y2⟩ := hS1
  go_at_call 80
  (with_reducible refine (K2.out _ y2).mono ?_)
  rintro e w2 ⟨B2, d2, rfl, hr2, hb1⟩
  have HR2 := Lib.hid hr2
  have hlw2 : w.heap.size + 1 + 1 < w1.heap.size := lt_heap H2
  replace H2 := (hb1.block _ (lt_heap H2)).trans H2
  have HR1b := Lib.hid (HR1.out.up hb1)
  have hSn2 := (show (fun u => u.heap[w.heap.size]? = some (.cells #[.slice A1 m1 c1, .slice A2 m2 c2, .bool false] 56) ∧ u.heap[w.heap.size + 1]? = some (.cells #[.slice A3 m1 c3, .slice A4 m2 c4, .bool u2] 56) ∧ Below w.heap.size w u) w2 from ⟨(hb1.block _ (lt_heap y0)).trans y0, (hb1.block _ (lt_heap y1)).trans y1, below_on y2 hb1⟩)
  clear hb1 y0 y1 y2 hr2
  go_simp
  have hS2 : ((fun u => u.heap[w.heap.size]? = some (.cells #[.slice A1 m1 c1, .slice A2 m2 c2, .bool false] 56) ∧ u.heap[w.heap.size + 1]? = some (.cells #[.slice A3 m1 c3, .slice A4 m2 c4, .bool u2] 56) ∧ Below w.heap.size w u) : World → Prop) _ := hSn2
  refine hK _ _ (fun _ => hS2) ?_
  clear hK K
  (try simp only [Act.put, List.setIfInBounds_toArray, List.set_cons_zero, List.set_cons_succ])
  refine regN_take (i := 14) (d := (some 39)) (v := ?v3x13) (l2 := #[true, true, true, true, true, true, true, true, true, true, true, true, true, true, true, false, false, false, false, false, false]) rfl rfl rfl (by kernel_rfl) (by kernel_rfl) (by kernel_rfl) (by kernel_rfl) (fun _ _ _ h => h) (by rfl) ?hv3x13 hS2 ?h3x13
  case hv3x13 => intro u hSu; clear hSu; go_simp; (try with_reducible rfl)
  (try simp only [Act.put, List.setIfInBounds_toArray, List.set_cons_zero, List.set_cons_succ])
  refine regN_take (i := 15) (d := (some 40)) (v := ?v3x14) (l2 := #[true, true, true, true, true, true, true, true, true, true, true, true, true, true, true, true, false, false, false, false, false]) rfl rfl rfl (by kernel_rfl) (by kernel_rfl) (by kernel_rfl) (by kernel_rfl) (fun _ _ _ h => h) (by rfl) ?hv3x14 hS2 ?h3x14
  case hv3x14 => intro u hSu; clear hSu; go_simp; (try with_reducible rfl)
  (try simp only [Act.put, List.setIfInBounds_toArray, List.set_cons_zero, List.set_cons_succ])
  refine regN_take (i := 16) (d := (some 41)) (v := ?v3x15) (l2 := #[true, true, true, true, true, true, true, true, true, true, true, true, true, true, true, true, true, false, false, false, false]) rfl rfl rfl (by kernel_rfl) (by kernel_rfl) (by kernel_rfl) (by kernel_rfl) (fun _ _ _ h => h) (by rfl) ?hv3x15 hS2 ?h3x15
  case hv3x15 => rintro u ⟨y0, y1, y2⟩; obtain ⟨xa0, xa1, xa2, fa0, fa1, fa2⟩ := three_cells y0; obtain ⟨xb0, xb1, xb2, fb0, fb1, fb2⟩ := three_cells y1; go_simp; (try with_reducible rfl)
  (try simp only [Act.put, List.setIfInBounds_toArray, List.set_cons_zero, List.set_cons_succ])
  refine regN_take (i := 17) (d := (some 42)) (v := ?v3x16) (l2 := #[true, true, true, true, true, true, true, true, true, true, true, true, true, true, true, true, true, true, false, false, false]) rfl rfl rfl (by kernel_rfl) (by kernel_rfl) (by kernel_rfl) (by kernel_rfl) (fun _ _ _ h => h) (by rfl) ?hv3x16 hS2 ?h3x16
  case hv3x16 => intro u hSu; clear hSu; go_simp; (try with_reducible rfl)
  (try simp only [Act.put, List.setIfInBounds_toArray, List.set_cons_zero, List.set_cons_succ])
  refine regN_take (i := 18) (d := (some 43)) (v := ?v3x17) (l2 := #[true, true, true, true, true, true, true, true, true, true, true, true, true, true, true, true, true, true, true, false, false]) rfl rfl rfl (by kernel_rfl) (by kernel_rfl) (by kernel_rfl) (by kernel_rfl) (fun _ _ _ h => h) (by rfl) ?hv3x17 hS2 ?h3x17
  case hv3x17 => intro u hSu; clear hSu; go_simp; (try with_reducible rfl)
  (try simp only [Act.put, List.setIfInBounds_toArray, List.set_cons_zero, List.set_cons_succ])
  refine regN_ready (rs := [19]) (by kernel_rfl) (by simp) ?_
  refine (AllN.cons (i := 19) (l2 := #[true, true, true, true, true, true, true, true, true, true, true, true, true, true, true, true, true, true, true, true, false]) rfl rfl (fun K hK => ?_) AllN.nil)
  obtain ⟨y0, y1, y2⟩ := hS2
  obtain ⟨xc0, xc1, xc2, fc0, fc1, fc2⟩ := three_cells H2
  have hlt : w.heap.size + 1 + 1 < w2.heap.size := lt_heap H2
  have HZ := Lib.hid (set_three (a := .slice B1 m1 d1) (b := .slice B2 m2 d2) (c := .bool u2) H2)
  have HN1 := Lib.hid (((HR1b.out.set (b := w.heap.size + 1 + 1) (j := 0) hlw1 (.slice B1 m1 d1)).set (b := w.heap.size + 1 + 1) (j := 1) hlw1 (.slice B2 m2 d2)).set (b := w.heap.size + 1 + 1) (j := 2) hlw1 (.bool u2))
  have HN2 := Lib.hid (((HR2.out.set (b := w.heap.size + 1 + 1) (j := 0) hlw2 (.slice B1 m1 d1)).set (b := w.heap.size + 1 + 1) (j := 1) hlw2 (.slice B2 m2 d2)).set (b := w.heap.size + 1 + 1) (j := 2) hlw2 (.bool u2))
  have HBZ := Lib.hid (below_st (below_st (below_st y2 (p := ⟨w.heap.size + 1 + 1, 0, none⟩) (show w.heap.size ≤ w.heap.size + 1 + 1 by omega) (.slice B1 m1 d1)) (p := ⟨w.heap.size + 1 + 1, 1, none⟩) (show w.heap.size ≤ w.heap.size + 1 + 1 by omega) (.slice B2 m2 d2)) (p := ⟨w.heap.size + 1 + 1, 2, none⟩) (show w.heap.size ≤ w.heap.size + 1 + 1 by omega) (.bool u2))
  have hSz := (show (fun u => u.heap[w.heap.size]? = some (.cells #[.slice A1 m1 c1, .slice A2 m2 c2, .bool false] 56) ∧ u.heap[w.heap.size + 1]? = some (.cells #[.slice A3 m1 c3, .slice A4 m2 c4, .bool u2] 56) ∧ Below w.heap.size w u) _ from ⟨(heap_setCell_other _ ⟨w.heap.size + 1 + 1, 2, none⟩ _ (.bool u2) (show w.heap.size ≠ w.heap.size + 1 + 1 by omega)).trans ((heap_setCell_other _ ⟨w.heap.size + 1 + 1, 1, none⟩ _ (.slice B2 m2 d2) (show w.heap.size ≠ w.heap.size + 1 + 1 by omega)).trans ((heap_setCell_other _ ⟨w.heap.size + 1 + 1, 0, none⟩ _ (.slice B1 m1 d1) (show w.heap.size ≠ w.heap.size + 1 + 1 by omega)).trans y0)), (heap_setCell_other _ ⟨w.heap.size + 1 + 1, 2, none⟩ _ (.bool u2) (show w.heap.size + 1 ≠ w.heap.size + 1 + 1 by omega)).trans ((heap_setCell_other _ ⟨w.heap.size + 1 + 1, 1, none⟩ _ (.slice B2 m2 d2) (show w.heap.size + 1 ≠ w.heap.size + 1 + 1 by omega)).trans ((heap_setCell_other _ ⟨w.heap.size + 1 + 1, 0, none⟩ _ (.slice B1 m1 d1) (show w.heap.size + 1 ≠ w.heap.size + 1 + 1 by omega)).trans y1)), HBZ.out⟩)
  go_simp
  have hS3 : ((fun u => u.heap[w.heap.size]? = some (.cells #[.slice A1 m1 c1, .slice A2 m2 c2, .bool false] 56) ∧ u.heap[w.heap.size + 1]? = some (.cells #[.slice A3 m1 c3, .slice A4 m2 c4, .bool u2] 56) ∧ Below w.heap.size w u) : World → Prop) _ := hSz
  refine hK _ _ (fun _ => hS3) ?_
  clear hK K
  (try simp only [Act.put, List.setIfInBounds_toArray, List.set_cons_zero, List.set_cons_succ])
  refine regN_ready (rs := [20]) (by kernel_rfl) (by simp) ?_
  refine (AllN.cons (i := 20) (l2 := #[true, true, true, true, true, true, true, true, true, true, true, true, true, true, true, true, true, true, true, true, true]) rfl rfl (fun K hK => ?_) AllN.nil)
  go_simp
  refine hK _ _ (fun h => absurd rfl h) ?_
  clear hK K
  (try simp only [Act.put, List.setIfInBounds_toArray, List.set_cons_zero, List.set_cons_succ])
  refine regN_done (by kernel_rfl) ?_ _
  go_wp2
  refine bodyPost_ret (fr_ret rfl rfl HZ.out) rfl ⟨B1, d1, B2, d2, rfl, ⟨HN1.out.le, HN1.out.mx, HN1.out.len, HN1.out.fr.imp id fun ⟨g, e, h⟩ => ⟨g, e, by omega⟩, HN1.out.vs⟩, ⟨HN2.out.le, HN2.out.mx, HN2.out.len, HN2.out.fr.imp id fun ⟨g, e, h⟩ => ⟨g, e, by omega⟩, HN2.out.vs⟩, HBZ.out⟩
set_option maxRecDepth 100000 in
set_option maxHeartbeats 4000000 in
theorem rfs_true (V : Value) (A1 A2 A3 A4 : Option Addr) (m1 m2 c1 c2 c3 c4 : Nat) (u2 : Bool) (J1 J2 : List VT) (w : World)
    (k1 : ∀ W, Below w.heap.size w W → Calls Tryd.prog 81 #[V, .slice A1 m1 c1, .slice A3 m1 c3] W (JnRet J1 m1 W)) (k2 : ∀ W, Below w.heap.size w W → Calls Tryd.prog 81 #[V, .slice A2 m2 c2, .slice A4 m2 c4] W (JnRet J2 m2 W)) :
    Calls Tryd.prog 48 #[V, .agg #[.slice A1 m1 c1, .slice A2 m2 c2, .bool true], .agg #[.slice A3 m1 c3, .slice A4 m2 c4, .bool u2]] w (FrsRet J1 J2 m1 m2 true w) := by
  have K1 := Lib.hid k1
  have K2 := Lib.hid k2
  clear k1 k2
  go_enter Tryd.func48, Tryd.ntmps48
  go_upto_region 1 with fail
  obtain ⟨H0, H1, H2, hB, hz⟩ := three_laid w (.cells #[.slice A1 m1 c1, .slice A2 m2 c2, .bool true] 56) (.cells #[.slice A3 m1 c3, .slice A4 m2 c4, .bool u2] 56) (.cells #[.slice none 0 0, .slice none 0 0, .bool false] 56)
  generalize ((w.alloc (.cells #[.slice A1 m1 c1, .slice A2 m2 c2, .bool true] 56)).alloc (.cells #[.slice A3 m1 c3, .slice A4 m2 c4, .bool u2] 56)).alloc (.cells #[.slice none 0 0, .slice none 0 0, .bool false] 56) = W at H0 H1 H2 hB hz ⊢
  obtain ⟨xa0, xa1, xa2, fa0, fa1, fa2⟩ := three_cells H0
  obtain ⟨xb0, xb1, xb2, fb0, fb1, fb2⟩ := three_cells H1
  go_upto_region 3 with fail
  clear xa0 xa1 xa2 fa0 fa1 fa2 xb0 xb1 xb2 fb0 fb1 fb2
  have hlw1 : w.heap.size + 1 + 1 < W.drew.heap.size := lt_heap (show (World.drew W).heap[w.heap.size + 1 + 1]? = _ from H2)
  refine regN_start (N := 20) (S := (fun u => u.heap[w.heap.size]? = some (.cells #[.slice A1 m1 c1, .slice A2 m2 c2, .bool true] 56) ∧ u.heap[w.heap.size + 1]? = some (.cells #[.slice A3 m1 c3, .slice A4 m2 c4, .bool u2] 56) ∧ Below w.heap.size w u)) (by kernel_rfl) ?_
  change wpAnyN _ _ _ _ _ _ _ #[false, false, false, false, false, false, false, false, false, false, false, false, false, false, false, false, false, false, false, false, false] _ (World.drew _)
  have hS0 := (show (fun u => u.heap[w.heap.size]? = some (.cells #[.slice A1 m1 c1, .slice A2 m2 c2, .bool true] 56) ∧ u.heap[w.heap.size + 1]? = some (.cells #[.slice A3 m1 c3, .slice A4 m2 c4, .bool u2] 56) ∧ Below w.heap.size w u) W.drew from ⟨H0, H1, hB.drew⟩)
  refine regN_take (i := 0) (d := (some 25)) (v := ?v3x1) (l2 := #[true, false, false, false, false, false, false, false, false, false, false, false, false, false, false, false, false, false, false, false, false]) rfl rfl rfl (by kernel_rfl) (by kernel_rfl) (by kernel_rfl) (by kernel_rfl) (fun _ _ _ h => h) (by rfl) ?hv3x1 hS0 ?h3x1
  case hv3x1 => intro u hSu; clear hSu; go_simp; (try with_reducible rfl)
  (try simp only [Act.put, List.setIfInBounds_toArray, List.set_cons_zero, List.set_cons_succ])
  refine regN_take (i := 1) (d := (some 26)) (v := ?v3x2) (l2 := #[true, true, false, false, false, false, false, false, false, false, false, false, false, false, false, false, false, false, false, false, false]) rfl rfl rfl (by kernel_rfl) (by kernel_rfl) (by kernel_rfl) (by kernel_rfl) (fun _ _ _ h => h) (by rfl) ?hv3x2 hS0 ?h3x2
  case hv3x2 => intro u hSu; clear hSu; go_simp; (try with_reducible rfl)
  (try simp only [Act.put, List.setIfInBounds_toArray, List.set_cons_zero, List.set_cons_succ])
  refine regN_take (i := 2) (d := (some 27)) (v := ?v3x3) (l2 := #[true, true, true, false, false, false, false, false, false, false, false, false, false, false, false, false, false, false, false, false, false]) rfl rfl rfl (by kernel_rfl) (by kernel_rfl) (by kernel_rfl) (by kernel_rfl) (fun _ _ _ h => h) (by rfl) ?hv3x3 hS0 ?h3x3
  case hv3x3 => rintro u ⟨y0, y1, y2⟩; obtain ⟨xa0, xa1, xa2, fa0, fa1, fa2⟩ := three_cells y0; obtain ⟨xb0, xb1, xb2, fb0, fb1, fb2⟩ := three_cells y1; go_simp; (try with_reducible rfl)
  (try simp only [Act.put, List.setIfInBounds_toArray, List.set_cons_zero, List.set_cons_succ])
  refine regN_take (i := 3) (d := (some 28)) (v := ?v3x4) (l2 := #[true, true, true, true, false, false, false, false, false, false, false, false, false, false, false, false, false, false, false, false, false]) rfl rfl rfl (by kernel_rfl) (by kernel_rfl) (by kernel_rfl) (by kernel_rfl) (fun _ _ _ h => h) (by rfl) ?hv3x4 hS0 ?h3x4
  case hv3x4 => intro u hSu; clear hSu; go_simp; (try with_reducible rfl)
  (try simp only [Act.put, List.setIfInBounds_toArray, List.set_cons_zero, List.set_cons_succ])
  refine regN_take (i := 4) (d := (some 29)) (v := ?v3x5) (l2 := #[true, true, true, true, true, false, false, false, false, false, false, false, false, false, false, false, false, false, false, false, false]) rfl rfl rfl (by kernel_rfl) (by kernel_rfl) (by kernel_rfl) (by kernel_rfl) (fun _ _ _ h => h) (by rfl) ?hv3x5 hS0 ?h3x5
  case hv3x5 => rintro u ⟨y0, y1, y2⟩; obtain ⟨xa0, xa1, xa2, fa0, fa1, fa2⟩ := three_cells y0; obtain ⟨xb0, xb1, xb2, fb0, fb1, fb2⟩ := three_cells y1; go_simp; (try with_reducible rfl)
  (try simp only [Act.put, List.setIfInBounds_toArray, List.set_cons_zero, List.set_cons_succ])
  refine regN_take (i := 6) (d := (some 31)) (v := ?v3x6) (l2 := #[true, true, true, true, true, false, true, false, false, false, false, false, false, false, false, false, false, false, false, false, false]) rfl rfl rfl (by kernel_rfl) (by kernel_rfl) (by kernel_rfl) (by kernel_rfl) (fun _ _ _ h => h) (by rfl) ?hv3x6 hS0 ?h3x6
  case hv3x6 => intro u hSu; clear hSu; go_simp; (try with_reducible rfl)
  (try simp only [Act.put, List.setIfInBounds_toArray, List.set_cons_zero, List.set_cons_succ])
  refine regN_take (i := 7) (d := (some 32)) (v := ?v3x7) (l2 := #[true, true, true, true, true, false, true, true, false, false, false, false, false, false, false, false, false, false, false, false, false]) rfl rfl rfl (by kernel_rfl) (by kernel_rfl) (by kernel_rfl) (by kernel_rfl) (fun _ _ _ h => h) (by rfl) ?hv3x7 hS0 ?h3x7
  case hv3x7 => intro u hSu; clear hSu; go_simp; (try with_reducible rfl)
  (try simp only [Act.put, List.setIfInBounds_toArray, List.set_cons_zero, List.set_cons_succ])
  refine regN_take (i := 8) (d := (some 33)) (v := ?v3x8) (l2 := #[true, true, true, true, true, false, true, true, true, false, false, false, false, false, false, false, false, false, false, false, false]) rfl rfl rfl (by kernel_rfl) (by kernel_rfl) (by kernel_rfl) (by kernel_rfl) (fun _ _ _ h => h) (by rfl) ?hv3x8 hS0 ?h3x8
  case hv3x8 => rintro u ⟨y0, y1, y2⟩; obtain ⟨xa0, xa1, xa2, fa0, fa1, fa2⟩ := three_cells y0; obtain ⟨xb0, xb1, xb2, fb0, fb1, fb2⟩ := three_cells y1; go_simp; (try with_reducible rfl)
  (try simp only [Act.put, List.setIfInBounds_toArray, List.set_cons_zero, List.set_cons_succ])
  refine regN_take (i := 9) (d := (some 34)) (v := ?v3x9) (l2 := #[true, true, true, true, true, false, true, true, true, true, false, false, false, false, false, false, false, false, false, false, false]) rfl rfl rfl (by kernel_rfl) (by kernel_rfl) (by kernel_rfl) (by kernel_rfl) (fun _ _ _ h => h) (by rfl) ?hv3x9 hS0 ?h3x9
  case hv3x9 => intro u hSu; clear hSu; go_simp; (try with_reducible rfl)
  (try simp only [Act.put, List.setIfInBounds_toArray, List.set_cons_zero, List.set_cons_succ])
  refine regN_take (i := 10) (d := (some 35)) (v := ?v3x10) (l2 := #[true, true, true, true, true, false, true, true, true, true, true, false, false, false, false, false, false, false, false, false, false]) rfl rfl rfl (by kernel_rfl) (by kernel_rfl) (by kernel_rfl) (by kernel_rfl) (fun _ _ _ h => h) (by rfl) ?hv3x10 hS0 ?h3x10
  case hv3x10 => rintro u ⟨y0, y1, y2⟩; obtain ⟨xa0, xa1, xa2, fa0, fa1, fa2⟩ := three_cells y0; obtain ⟨xb0, xb1, xb2, fb0, fb1, fb2⟩ := three_cells y1; go_simp; (try with_reducible rfl)
  (try simp only [Act.put, List.setIfInBounds_toArray, List.set_cons_zero, List.set_cons_succ])
  refine regN_take (i := 12) (d := (some 37)) (v := ?v3x11) (l2 := #[true, true, true, true, true, false, true, true, true, true, true, false, true, false, false, false, false, false, false, false, false]) rfl rfl rfl (by kernel_rfl) (by kernel_rfl) (by kernel_rfl) (by kernel_rfl) (fun _ _ _ h => h) (by rfl) ?hv3x11 hS0 ?h3x11
  case hv3x11 => intro u hSu; clear hSu; go_simp; (try with_reducible rfl)
  (try simp only [Act.put, List.setIfInBounds_toArray, List.set_cons_zero, List.set_cons_succ])
  refine regN_take (i := 13) (d := (some 38)) (v := ?v3x12) (l2 := #[true, true, true, true, true, false, true, true, true, true, true, false, true, true, false, false, false, false, false, false, false]) rfl rfl rfl (by kernel_rfl) (by kernel_rfl) (by kernel_rfl) (by kernel_rfl) (fun _ _ _ h => h) (by rfl) ?hv3x12 hS0 ?h3x12
  case hv3x12 => rintro u ⟨y0, y1, y2⟩; obtain ⟨xa0, xa1, xa2, fa0, fa1, fa2⟩ := three_cells y0; obtain ⟨xb0, xb1, xb2, fb0, fb1, fb2⟩ := three_cells y1; go_simp; (try with_reducible rfl)
  (try simp only [Act.put, List.setIfInBounds_toArray, List.set_cons_zero, List.set_cons_succ])
  refine regN_ready (rs := [5]) (by kernel_rfl) (by simp) ?_
  refine (AllN.cons (i := 5) (l2 := #[true, true, true, true, true, true, true, true, true, true, true, false, true, true, false, false, false, false, false, false, false]) rfl rfl (fun K hK => ?_) AllN.nil)
  go_simp
  obtain ⟨y0, y1, y2⟩ := hS0
  go_at_call 81
  (with_reducible refine (K1.out _ y2).mono ?_)
  rintro e w1 ⟨B1, d1, rfl, hr1, hb1⟩
  have HR1 := Lib.hid hr1
  replace H2 := (hb1.block _ (lt_heap (show (World.drew W).heap[w.heap.size + 1 + 1]? = _ from H2))).trans (show (World.drew W).heap[w.heap.size + 1 + 1]? = _ from H2)
  have hSn1 := (show (fun u => u.heap[w.heap.size]? = some (.cells #[.slice A1 m1 c1, .slice A2 m2 c2, .bool true] 56) ∧ u.heap[w.heap.size + 1]? = some (.cells #[.slice A3 m1 c3, .slice A4 m2 c4, .bool u2] 56) ∧ Below w.heap.size w u) w1 from ⟨(hb1.block _ (lt_heap y0)).trans y0, (hb1.block _ (lt_heap y1)).trans y1, below_on y2 hb1⟩)
  clear hb1 y0 y1 y2 hr1
  go_simp
  have hS1 : ((fun u => u.heap[w.heap.size]? = some (.cells #[.slice A1 m1 c1, .slice A2 m2 c2, .bool true] 56) ∧ u.heap[w.heap.size + 1]? = some (.cells #[.slice A3 m1 c3, .slice A4 m2 c4, .bool u2] 56) ∧ Below w.heap.size w u) : World → Prop) _ := hSn1
  refine hK _ _ (fun _ => hS1) ?_
  clear hK K
  (try simp only [Act.put, List.setIfInBounds_toArray, List.set_cons_zero, List.set_cons_succ])
  refine regN_ready (rs := [11]) (by kernel_rfl) (by simp) ?_
  refine (AllN.cons (i := 11) (l2 := #[true, true, true, true, true, true, true, true, true, true, true, true, true, true, false, false, false, false, false, false, false]) rfl rfl (fun K hK => ?_) AllN.nil)
  go_simp
  obtain ⟨y0, y1, y2⟩ := hS1
  go_at_call 81
  (with_reducible refine (K2.out _ y2).mono ?_)
  rintro e w2 ⟨B2, d2, rfl, hr2, hb1⟩
  have HR2 := Lib.hid hr2
  have hlw2 : w.heap.size + 1 + 1 < w1.heap.size := lt_heap H2
  replace H2 := (hb1.block _ (lt_heap H2)).trans H2
  have HR1b := Lib.hid (HR1.out.up hb1)
  have hSn2 := (show (fun u => u.heap[w.heap.size]? = some (.cells #[.slice A1 m1 c1, .slice A2 m2 c2, .bool true] 56) ∧ u.heap[w.heap.size + 1]? = some (.cells #[.slice A3 m1 c3, .slice A4 m2 c4, .bool u2] 56) ∧ Below w.heap.size w u) w2 from ⟨(hb1.block _ (lt_heap y0)).trans y0, (hb1.block _ (lt_heap y1)).trans y1, below_on y2 hb1⟩)
  clear hb1 y0 y1 y2 hr2
  go_simp
  have hS2 : ((fun u => u.heap[w.heap.size]? = some (.cells #[.slice A1 m1 c1, .slice A2 m2 c2, .bool true] 56) ∧ u.heap[w.heap.size + 1]? = some (.cells #[.slice A3 m1 c3, .slice A4 m2 c4, .bool u2] 56) ∧ Below w.heap.size w u) : World → Prop) _ := hSn2
  refine hK _ _ (fun _ => hS2) ?_
  clear hK K
  (try simp only [Act.put, List.setIfInBounds_toArray, List.set_cons_zero, List.set_cons_succ])
  refine regN_take (i := 14) (d := (some 39)) (v := ?v3x13) (l2 := #[true, true, true, true, true, true, true, true, true, true, true, true, true, true, true, false, false, false, false, false, false]) rfl rfl rfl (by kernel_rfl) (by kernel_rfl) (by kernel_rfl) (by kernel_rfl) (fun _ _ _ h => h) (by rfl) ?hv3x13 hS2 ?h3x13
  case hv3x13 => intro u hSu; clear hSu; go_simp; (try with_reducible rfl)
  (try simp only [Act.put, List.setIfInBounds_toArray, List.set_cons_zero, List.set_cons_succ])
  refine regN_skip (i := 15) (d := (some 40)) (l2 := #[true, true, true, true, true, true, true, true, true, true, true, true, true, true, true, true, false, false, false, false, false]) rfl rfl rfl (by kernel_rfl) (by kernel_rfl) (by kernel_rfl) (by kernel_rfl) (fun _ _ _ h => h) (by rfl) hS2 ?_
  (try simp only [Act.put, List.setIfInBounds_toArray, List.set_cons_zero, List.set_cons_succ])
  refine regN_skip (i := 16) (d := (some 41)) (l2 := #[true, true, true, true, true, true, true, true, true, true, true, true, true, true, true, true, true, false, false, false, false]) rfl rfl rfl (by kernel_rfl) (by kernel_rfl) (by kernel_rfl) (by kernel_rfl) (fun _ _ _ h => h) (by rfl) hS2 ?_
  (try simp only [Act.put, List.setIfInBounds_toArray, List.set_cons_zero, List.set_cons_succ])
  refine regN_take (i := 17) (d := (some 42)) (v := ?v3x14) (l2 := #[true, true, true, true, true, true, true, true, true, true, true, true, true, true, true, true, true, true, false, false, false]) rfl rfl rfl (by kernel_rfl) (by kernel_rfl) (by kernel_rfl) (by kernel_rfl) (fun _ _ _ h => h) (by rfl) ?hv3x14 hS2 ?h3x14
  case hv3x14 => intro u hSu; clear hSu; go_simp; (try with_reducible rfl)
  (try simp only [Act.put, List.setIfInBounds_toArray, List.set_cons_zero, List.set_cons_succ])
  refine regN_take (i := 18) (d := (some 43)) (v := ?v3x15) (l2 := #[true, true, true, true, true, true, true, true, true, true, true, true, true, true, true, true, true, true, true, false, false]) rfl rfl rfl (by kernel_rfl) (by kernel_rfl) (by kernel_rfl) (by kernel_rfl) (fun _ _ _ h => h) (by rfl) ?hv3x15 hS2 ?h3x15
  case hv3x15 => intro u hSu; clear hSu; go_simp; (try with_reducible rfl)
  (try simp only [Act.put, List.setIfInBounds_toArray, List.set_cons_zero, List.set_cons_succ])
  refine regN_ready (rs := [19]) (by kernel_rfl) (by simp) ?_
  refine (AllN.cons (i := 19) (l2 := #[true, true, true, true, true, true, true, true, true, true, true, true, true, true, true, true, true, true, true, true, false]) rfl rfl (fun K hK => ?_) AllN.nil)
  obtain ⟨y0, y1, y2⟩ := hS2
  obtain ⟨xc0, xc1, xc2, fc0, fc1, fc2⟩ := three_cells H2
  have hlt : w.heap.size + 1 + 1 < w2.heap.size := lt_heap H2
  have HZ := Lib.hid (set_three (a := .slice B1 m1 d1) (b := .slice B2 m2 d2) (c := .bool true) H2)
  have HN1 := Lib.hid (((HR1b.out.set (b := w.heap.size + 1 + 1) (j := 0) hlw1 (.slice B1 m1 d1)).set (b := w.heap.size + 1 + 1) (j := 1) hlw1 (.slice B2 m2 d2)).set (b := w.heap.size + 1 + 1) (j := 2) hlw1 (.bool true))
  have HN2 := Lib.hid (((HR2.out.set (b := w.heap.size + 1 + 1) (j := 0) hlw2 (.slice B1 m1 d1)).set (b := w.heap.size + 1 + 1) (j := 1) hlw2 (.slice B2 m2 d2)).set (b := w.heap.size + 1 + 1) (j := 2) hlw2 (.bool true))
  have HBZ := Lib.hid (below_st (below_st (below_st y2 (p := ⟨w.heap.size + 1 + 1, 0, none⟩) (show w.heap.size ≤ w.heap.size + 1 + 1 by omega) (.slice B1 m1 d1)) (p := ⟨w.heap.size + 1 + 1, 1, none⟩) (show w.heap.size ≤ w.heap.size + 1 + 1 by omega) (.slice B2 m2 d2)) (p := ⟨w.heap.size + 1 + 1, 2, none⟩) (show w.heap.size ≤ w.heap.size + 1 + 1 by omega) (.bool true))
  have hSz := (show (fun u => u.heap[w.heap.size]? = some (.cells #[.slice A1 m1 c1, .slice A2 m2 c2, .bool true] 56) ∧ u.heap[w.heap.size + 1]? = some (.cells #[.slice A3 m1 c3, .slice A4 m2 c4, .bool u2] 56) ∧ Below w.heap.size w u) _ from ⟨(heap_setCell_other _ ⟨w.heap.size + 1 + 1, 2, none⟩ _ (.bool true) (show w.heap.size ≠ w.heap.size + 1 + 1 by omega)).trans ((heap_setCell_other _ ⟨w.heap.size + 1 + 1, 1, none⟩ _ (.slice B2 m2 d2) (show w.heap.size ≠ w.heap.size + 1 + 1 by omega)).trans ((heap_setCell_other _ ⟨w.heap.size + 1 + 1, 0, none⟩ _ (.slice B1 m1 d1) (show w.heap.size ≠ w.heap.size + 1 + 1 by omega)).trans y0)), (heap_setCell_other _ ⟨w.heap.size + 1 + 1, 2, none⟩ _ (.bool true) (show w.heap.size + 1 ≠ w.heap.size + 1 + 1 by omega)).trans ((heap_setCell_other _ ⟨w.heap.size + 1 + 1, 1, none⟩ _ (.slice B2 m2 d2) (show w.heap.size + 1 ≠ w.heap.size + 1 + 1 by omega)).trans ((heap_setCell_other _ ⟨w.heap.size + 1 + 1, 0, none⟩ _ (.slice B1 m1 d1) (show w.heap.size + 1 ≠ w.heap.size + 1 + 1 by omega)).trans y1)), HBZ.out⟩)
  go_simp
  have hS3 : ((fun u => u.heap[w.heap.size]? = some (.cells #[.slice A1 m1 c1, .slice A2 m2 c2, .bool true] 56) ∧ u.heap[w.heap.size + 1]? = some (.cells #[.slice A3 m1 c3, .slice A4 m2 c4, .bool u2] 56) ∧ Below w.heap.size w u) : World → Prop) _ := hSz
  refine hK _ _ (fun _ => hS3) ?_
  clear hK K
  (try simp only [Act.put, List.setIfInBounds_toArray, List.set_cons_zero, List.set_cons_succ])
  refine regN_ready (rs := [20]) (by kernel_rfl) (by simp) ?_
  refine (AllN.cons (i := 20) (l2 := #[true, true, true, true, true, true, true, true, true, true, true, true, true, true, true, true, true, true, true, true, true]) rfl rfl (fun K hK => ?_) AllN.nil)
  go_simp
  refine hK _ _ (fun h => absurd rfl h) ?_
  clear hK K
  (try simp only [Act.put, List.setIfInBounds_toArray, List.set_cons_zero, List.set_cons_succ])
  refine regN_done (by kernel_rfl) ?_ _
  go_wp2
  refine bodyPost_ret (fr_ret rfl rfl HZ.out) rfl ⟨B1, d1, B2, d2, rfl, ⟨HN1.out.le, HN1.out.mx, HN1.out.len, HN1.out.fr.imp id fun ⟨g, e, h⟩ => ⟨g, e, by omega⟩, HN1.out.vs⟩, ⟨HN2.out.le, HN2.out.mx, HN2.out.len, HN2.out.fr.imp id fun ⟨g, e, h⟩ => ⟨g, e, by omega⟩, HN2.out.vs⟩, HBZ.out⟩
set_option maxRecDepth 100000 in
set_option maxHeartbeats 4000000 in
theorem rfs_false (V : Value) (A1 A2 A3 A4 : Option Addr) (m1 m2 c1 c2 c3 c4 : Nat) (u2 : Bool) (J1 J2 : List VT) (w : World)
    (k1 : ∀ W, Below w.heap.size w W → Calls Tryd.prog 81 #[V, .slice A1 m1 c1, .slice A3 m1 c3] W (JnRet J1 m1 W)) (k2 : ∀ W, Below w.heap.size w W → Calls Tryd.prog 81 #[V, .slice A2 m2 c2, .slice A4 m2 c4] W (JnRet J2 m2 W)) :
    Calls Tryd.prog 48 #[V, .agg #[.slice A1 m1 c1, .slice A2 m2 c2, .bool false], .agg #[.slice A3 m1 c3, .slice A4 m2 c4, .bool u2]] w (FrsRet J1 J2 m1 m2 u2 w) := by
  have K1 := Lib.hid k1
  have K2 := Lib.hid k2
  clear k1 k2
  go_enter Tryd.func48, Tryd.ntmps48
  go_upto_region 1 with fail
  obtain ⟨H0, H1, H2, hB, hz⟩ := three_laid w (.cells #[.slice A1 m1 c1, .slice A2 m2 c2, .bool false] 56) (.cells #[.slice A3 m1 c3, .slice A4 m2 c4, .bool u2] 56) (.cells #[.slice none 0 0, .slice none 0 0, .bool false] 56)
  generalize ((w.alloc (.cells #[.slice A1 m1 c1, .slice A2 m2 c2, .bool false] 56)).alloc (.cells #[.slice A3 m1 c3, .slice A4 m2 c4, .bool u2] 56)).alloc (.cells #[.slice none 0 0, .slice none 0 0, .bool false] 56) = W at H0 H1 H2 hB hz ⊢
  obtain ⟨xa0, xa1, xa2, fa0, fa1, fa2⟩ := three_cells H0
  obtain ⟨xb0, xb1, xb2, fb0, fb1, fb2⟩ := three_cells H1
  go_upto_region 3 with fail
  clear xa0 xa1 xa2 fa0 fa1 fa2 xb0 xb1 xb2 fb0 fb1 fb2
  have hlw1 : w.heap.size + 1 + 1 < W.drew.heap.size := lt_heap (show (World.drew W).heap[w.heap.size + 1 + 1]? = _ from H2)
  refine regN_start (N := 20) (S := (fun u => u.heap[w.heap.size]? = some (.cells #[.slice A1 m1 c1, .slice A2 m2 c2, .bool false] 56) ∧ u.heap[w.heap.size + 1]? = some (.cells #[.slice A3 m1 c3, .slice A4 m2 c4, .bool u2] 56) ∧ Below w.heap.size w u)) (by kernel_rfl) ?_
  change wpAnyN _ _ _ _ _ _ _ #[false, false, false, false, false, false, false, false, false, false, false, false, false, false, false, false, false, false, false, false, false] _ (World.drew _)
  have hS0 := (show (fun u => u.heap[w.heap.size]? = some (.cells #[.slice A1 m1 c1, .slice A2 m2 c2, .bool false] 56) ∧ u.heap[w.heap.size + 1]? = some (.cells #[.slice A3 m1 c3, .slice A4 m2 c4, .bool u2] 56) ∧ Below w.heap.size w u) W.drew from ⟨H0, H1, hB.drew⟩)
  refine regN_take (i := 0) (d := (some 25)) (v := ?v3x1) (l2 := #[true, false, false, false, false, false, false, false, false, false, false, false, false, false, false, false, false, false, false, false, false]) rfl rfl rfl (by kernel_rfl) (by kernel_rfl) (by kernel_rfl) (by kernel_rfl) (fun _ _ _ h => h) (by rfl) ?hv3x1 hS0 ?h3x1
  case hv3x1 => intro u hSu; clear hSu; go_simp; (try with_reducible rfl)
  (try simp only [Act.put, List.setIfInBounds_toArray, List.set_cons_zero, List.set_cons_succ])
  refine regN_take (i := 1) (d := (some 26)) (v := ?v3x2) (l2 := #[true, true, false, false, false, false, false, false, false, false, false, false, false, false, false, false, false, false, false, false, false]) rfl rfl rfl (by kernel_rfl) (by kernel_rfl) (by kernel_rfl) (by kernel_rfl) (fun _ _ _ h => h) (by rfl) ?hv3x2 hS0 ?h3x2
  case hv3x2 => intro u hSu; clear hSu; go_simp; (try with_reducible rfl)
  (try simp only [Act.put, List.setIfInBounds_toArray, List.set_cons_zero, List.set_cons_succ])
  refine regN_take (i := 2) (d := (some 27)) (v := ?v3x3) (l2 := #[true, true, true, false, false, false, false, false, false, false, false, false, false, false, false, false, false, false, false, false, false]) rfl rfl rfl (by kernel_rfl) (by kernel_rfl) (by kernel_rfl) (by kernel_rfl) (fun _ _ _ h => h) (by rfl) ?hv3x3 hS0 ?h3x3
  case hv3x3 => rintro u ⟨y0, y1, y2⟩; obtain ⟨xa0, xa1, xa2, fa0, fa1, fa2⟩ := three_cells y0; obtain ⟨xb0, xb1, xb2, fb0, fb1, fb2⟩ := three_cells y1; go_simp; (try with_reducible rfl)
  (try simp only [Act.put, List.setIfInBounds_toArray, List.set_cons_zero, List.set_cons_succ])
  refine regN_take (i := 3) (d := (some 28)) (v := ?v3x4) (l2 := #[true, true, true, true, false, false, false, false, false, false, false, false, false, false, false, false, false, false, false, false, false]) rfl rfl rfl (by kernel_rfl) (by kernel_rfl) (by kernel_rfl) (by kernel_rfl) (fun _ _ _ h => h) (by rfl) ?hv3x4 hS0 ?h3x4
  case hv3x4 => intro u hSu; clear hSu; go_simp; (try with_reducible rfl)
  (try simp only [Act.put, List.setIfInBounds_toArray, List.set_cons_zero, List.set_cons_succ])
  refine regN_take (i := 4) (d := (some 29)) (v := ?v3x5) (l2 := #[true, true, true, true, true, false, false, false, false, false, false, false, false, false, false, false, false, false, false, false, false]) rfl rfl rfl (by kernel_rfl) (by kernel_rfl) (by kernel_rfl) (by kernel_rfl) (fun _ _ _ h => h) (by rfl) ?hv3x5 hS0 ?h3x5
  case hv3x5 => rintro u ⟨y0, y1, y2⟩; obtain ⟨xa0, xa1, xa2, fa0, fa1, fa2⟩ := three_cells y0; obtain ⟨xb0, xb1, xb2, fb0, fb1, fb2⟩ := three_cells y1; go_simp; (try with_reducible rfl)
  (try simp only [Act.put, List.setIfInBounds_toArray, List.set_cons_zero, List.set_cons_succ])
  refine regN_take (i := 6) (d := (some 31)) (v := ?v3x6) (l2 := #[true, true, true, true, true, false, true, false, false, false, false, false, false, false, false, false, false, false, false, false, false]) rfl rfl rfl (by kernel_rfl) (by kernel_rfl) (by kernel_rfl) (by kernel_rfl) (fun _ _ _ h => h) (by rfl) ?hv3x6 hS0 ?h3x6
  case hv3x6 => intro u hSu; clear hSu; go_simp; (try with_reducible rfl)
  (try simp only [Act.put, List.setIfInBounds_toArray, List.set_cons_zero, List.set_cons_succ])
  refine regN_take (i := 7) (d := (some 32)) (v := ?v3x7) (l2 := #[true, true, true, true, true, false, true, true, false, false, false, false, false, false, false, false, false, false, false, false, false]) rfl rfl rfl (by kernel_rfl) (by kernel_rfl) (by kernel_rfl) (by kernel_rfl) (fun _ _ _ h => h) (by rfl) ?hv3x7 hS0 ?h3x7
  case hv3x7 => intro u hSu; clear hSu; go_simp; (try with_reducible rfl)
  (try simp only [Act.put, List.setIfInBounds_toArray, List.set_cons_zero, List.set_cons_succ])
  refine regN_take (i := 8) (d := (some 33)) (v := ?v3x8) (l2 := #[true, true, true, true, true, false, true, true, true, false, false, false, false, false, false, false, false, false, false, false, false]) rfl rfl rfl (by kernel_rfl) (by kernel_rfl) (by kernel_rfl) (by kernel_rfl) (fun _ _ _ h => h) (by rfl) ?hv3x8 hS0 ?h3x8
  case hv3x8 => rintro u ⟨y0, y1, y2⟩; obtain ⟨xa0, xa1, xa2, fa0, fa1, fa2⟩ := three_cells y0; obtain ⟨xb0, xb1, xb2, fb0, fb1, fb2⟩ := three_cells y1; go_simp; (try with_reducible rfl)
  (try simp only [Act.put, List.setIfInBounds_toArray, List.set_cons_zero, List.set_cons_succ])
  refine regN_take (i := 9) (d := (some 34)) (v := ?v3x9) (l2 := #[true, true, true, true, true, false, true, true, true, true, false, false, false, false, false, false, false, false, false, false, false]) rfl rfl rfl (by kernel_rfl) (by kernel_rfl) (by kernel_rfl) (by kernel_rfl) (fun _ _ _ h => h) (by rfl) ?hv3x9 hS0 ?h3x9
  case hv3x9 => intro u hSu; clear hSu; go_simp; (try with_reducible rfl)
  (try simp only [Act.put, List.setIfInBounds_toArray, List.set_cons_zero, List.set_cons_succ])
  refine regN_take (i := 10) (d := (some 35)) (v := ?v3x10) (l2 := #[true, true, true, true, true, false, true, true, true, true, true, false, false, false, false, false, false, false, false, false, false]) rfl rfl rfl (by kernel_rfl) (by kernel_rfl) (by kernel_rfl) (by kernel_rfl) (fun _ _ _ h => h) (by rfl) ?hv3x10 hS0 ?h3x10
  case hv3x10 => rintro u ⟨y0, y1, y2⟩; obtain ⟨xa0, xa1, xa2, fa0, fa1, fa2⟩ := three_cells y0; obtain ⟨xb0, xb1, xb2, fb0, fb1, fb2⟩ := three_cells y1; go_simp; (try with_reducible rfl)
  (try simp only [Act.put, List.setIfInBounds_toArray, List.set_cons_zero, List.set_cons_succ])
  refine regN_take (i := 12) (d := (some 37)) (v := ?v3x11) (l2 := #[true, true, true, true, true, false, true, true, true, true, true, false, true, false, false, false, false, false, false, false, false]) rfl rfl rfl (by kernel_rfl) (by kernel_rfl) (by kernel_rfl) (by kernel_rfl) (fun _ _ _ h => h) (by rfl) ?hv3x11 hS0 ?h3x11
  case hv3x11 => intro u hSu; clear hSu; go_simp; (try with_reducible rfl)
  (try simp only [Act.put, List.setIfInBounds_toArray, List.set_cons_zero, List.set_cons_succ])
  refine regN_take (i := 13) (d := (some 38)) (v := ?v3x12) (l2 := #[true, true, true, true, true, false, true, true, true, true, true, false, true, true, false, false, false, false, false, false, false]) rfl rfl rfl (by kernel_rfl) (by kernel_rfl) (by kernel_rfl) (by kernel_rfl) (fun _ _ _ h => h) (by rfl) ?hv3x12 hS0 ?h3x12
  case hv3x12 => rintro u ⟨y0, y1, y2⟩; obtain ⟨xa0, xa1, xa2, fa0, fa1, fa2⟩ := three_cells y0; obtain ⟨xb0, xb1, xb2, fb0, fb1, fb2⟩ := three_cells y1; go_simp; (try with_reducible rfl)
  (try simp only [Act.put, List.setIfInBounds_toArray, List.set_cons_zero, List.set_cons_succ])
  refine regN_ready (rs := [5]) (by kernel_rfl) (by simp) ?_
  refine (AllN.cons (i := 5) (l2 := #[true, true, true, true, true, true, true, true, true, true, true, false, true, true, false, false, false, false, false, false, false]) rfl rfl (fun K hK => ?_) AllN.nil)
  go_simp
  obtain ⟨y0, y1, y2⟩ := hS0
  go_at_call 81
  (with_reducible refine (K1.out _ y2).mono ?_)
  rintro e w1 ⟨B1, d1, rfl, hr1, hb1⟩
  have HR1 := Lib.hid hr1
  replace H2 := (hb1.block _ (lt_heap (show (World.drew W).heap[w.heap.size + 1 + 1]? = _ from H2))).trans (show (World.drew W).heap[w.heap.size + 1 + 1]? = _ from H2)
  have hSn1 := (show (fun u => u.heap[w.heap.size]? = some (.cells #[.slice A1 m1 c1, .slice A2 m2 c2, .bool false] 56) ∧ u.heap[w.heap.size + 1]? = some (.cells #[.slice A3 m1 c3, .slice A4 m2 c4, .bool u2] 56) ∧ Below w.heap.size w u) w1 from ⟨(hb1.block _ (lt_heap y0)).trans y0, (hb1.block _ (lt_heap y1)).trans y1, below_on y2 hb1⟩)
  clear hb1 y0 y1 y2 hr1
  go_simp
  have hS1 : ((fun u => u.heap[w.heap.size]? = some (.cells #[.slice A1 m1 c1, .slice A2 m2 c2, .bool false] 56) ∧ u.heap[w.heap.size + 1]? = some (.cells #[.slice A3 m1 c3, .slice A4 m2 c4, .bool u2] 56) ∧ Below w.heap.size w u) : World → Prop) _ := hSn1
  refine hK _ _ (fun _ => hS1) ?_
  clear hK K
  (try simp only [Act.put, List.setIfInBounds_toArray, List.set_cons_zero, List.set_cons_succ])
  refine regN_ready (rs := [11]) (by kernel_rfl) (by simp) ?_
  refine (AllN.cons (i := 11) (l2 := #[true, true, true, true, true, true, true, true, true, true, true, true, true, true, false, false, false, false, false, false, false]) rfl rfl (fun K hK => ?_) AllN.nil)
  go_simp
  obtain ⟨y0, y1, y2⟩ := hS1
  go_at_call 81
  (with_reducible refine (K2.out _ y2).mono ?_)
  rintro e w2 ⟨B2, d2, rfl, hr2, hb1⟩
  have HR2 := Lib.hid hr2
  have hlw2 : w.heap.size + 1 + 1 < w1.heap.size := lt_heap H2
  replace H2 := (hb1.block _ (lt_heap H2)).trans H2
  have HR1b := Lib.hid (HR1.out.up hb1)
  have hSn2 := (show (fun u => u.heap[w.heap.size]? = some (.cells #[.slice A1 m1 c1, .slice A2 m2 c2, .bool false] 56) ∧ u.heap[w.heap.size + 1]? = some (.cells #[.slice A3 m1 c3, .slice A4 m2 c4, .bool u2] 56) ∧ Below w.heap.size w u) w2 from ⟨(hb1.block _ (lt_heap y0)).trans y0, (hb1.block _ (lt_heap y1)).trans y1, below_on y2 hb1⟩)
  clear hb1 y0 y1 y2 hr2
  go_simp
  have hS2 : ((fun u => u.heap[w.heap.size]? = some (.cells #[.slice A1 m1 c1, .slice A2 m2 c2, .bool false] 56) ∧ u.heap[w.heap.size + 1]? = some (.cells #[.slice A3 m1 c3, .slice A4 m2 c4, .bool u2] 56) ∧ Below w.heap.size w u) : World → Prop) _ := hSn2
  refine hK _ _ (fun _ => hS2) ?_
  clear hK K
  (try simp only [Act.put, List.setIfInBounds_toArray, List.set_cons_zero, List.set_cons_succ])
  refine regN_take (i := 14) (d := (some 39)) (v := ?v3x13) (l2 := #[true, true, true, true, true, true, true, true, true, true, true, true, true, true, true, false, false, false, false, false, false]) rfl rfl rfl (by kernel_rfl) (by kernel_rfl) (by kernel_rfl) (by kernel_rfl) (fun _ _ _ h => h) (by rfl) ?hv3x13 hS2 ?h3x13
  case hv3x13 => intro u hSu; clear hSu; go_simp; (try with_reducible rfl)
  (try simp only [Act.put, List.setIfInBounds_toArray, List.set_cons_zero, List.set_cons_succ])
  refine regN_take (i := 15) (d := (some 40)) (v := ?v3x14) (l2 := #[true, true, true, true, true, true, true, true, true, true, true, true, true, true, true, true, false, false, false, false, false]) rfl rfl rfl (by kernel_rfl) (by kernel_rfl) (by kernel_rfl) (by kernel_rfl) (fun _ _ _ h => h) (by rfl) ?hv3x14 hS2 ?h3x14
  case hv3x14 => intro u hSu; clear hSu; go_simp; (try with_reducible rfl)
  (try simp only [Act.put, List.setIfInBounds_toArray, List.set_cons_zero, List.set_cons_succ])
  refine regN_take (i := 16) (d := (some 41)) (v := ?v3x15) (l2 := #[true, true, true, true, true, true, true, true, true, true, true, true, true, true, true, true, true, false, false, false, false]) rfl rfl rfl (by kernel_rfl) (by kernel_rfl) (by kernel_rfl) (by kernel_rfl) (fun _ _ _ h => h) (by rfl) ?hv3x15 hS2 ?h3x15
  case hv3x15 => rintro u ⟨y0, y1, y2⟩; obtain ⟨xa0, xa1, xa2, fa0, fa1, fa2⟩ := three_cells y0; obtain ⟨xb0, xb1, xb2, fb0, fb1, fb2⟩ := three_cells y1; go_simp; (try with_reducible rfl)
  (try simp only [Act.put, List.setIfInBounds_toArray, List.set_cons_zero, List.set_cons_succ])
  refine regN_take (i := 17) (d := (some 42)) (v := ?v3x16) (l2 := #[true, true, true, true, true, true, true, true, true, true, true, true, true, true, true, true, true, true, false, false, false]) rfl rfl rfl (by kernel_rfl) (by kernel_rfl) (by kernel_rfl) (by kernel_rfl) (fun _ _ _ h => h) (by rfl) ?hv3x16 hS2 ?h3x16
  case hv3x16 => intro u hSu; clear hSu; go_simp; (try with_reducible rfl)
  (try simp only [Act.put, List.setIfInBounds_toArray, List.set_cons_zero, List.set_cons_succ])
  refine regN_take (i := 18) (d := (some 43)) (v := ?v3x17) (l2 := #[true, true, true, true, true, true, true, true, true, true, true, true, true, true, true, true, true, true, true, false, false]) rfl rfl rfl (by kernel_rfl) (by kernel_rfl) (by kernel_rfl) (by kernel_rfl) (fun _ _ _ h => h) (by rfl) ?hv3x17 hS2 ?h3x17
  case hv3x17 => intro u hSu; clear hSu; go_simp; (try with_reducible rfl)
  (try simp only [Act.put, List.setIfInBounds_toArray, List.set_cons_zero, List.set_cons_succ])
  refine regN_ready (rs := [19]) (by kernel_rfl) (by simp) ?_
  refine (AllN.cons (i := 19) (l2 := #[true, true, true, true, true, true, true, true, true, true, true, true, true, true, true, true, true, true, true, true, false]) rfl rfl (fun K hK => ?_) AllN.nil)
  obtain ⟨y0, y1, y2⟩ := hS2
  obtain ⟨xc0, xc1, xc2, fc0, fc1, fc2⟩ := three_cells H2
  have hlt : w.heap.size + 1 + 1 < w2.heap.size := lt_heap H2
  have HZ := Lib.hid (set_three (a := .slice B1 m1 d1) (b := .slice B2 m2 d2) (c := .bool u2) H2)
  have HN1 := Lib.hid (((HR1b.out.set (b := w.heap.size + 1 + 1) (j := 0) hlw1 (.slice B1 m1 d1)).set (b := w.heap.size + 1 + 1) (j := 1) hlw1 (.slice B2 m2 d2)).set (b := w.heap.size + 1 + 1) (j := 2) hlw1 (.bool u2))
  have HN2 := Lib.hid (((HR2.out.set (b := w.heap.size + 1 + 1) (j := 0) hlw2 (.slice B1 m1 d1)).set (b := w.heap.size + 1 + 1) (j := 1) hlw2 (.slice B2 m2 d2)).set (b := w.heap.size + 1 + 1) (j := 2) hlw2 (.bool u2))
  have HBZ := Lib.hid (below_st (below_st (below_st y2 (p := ⟨w.heap.size + 1 + 1, 0, none⟩) (show w.heap.size ≤ w.heap.size + 1 + 1 by omega) (.slice B1 m1 d1)) (p := ⟨w.heap.size + 1 + 1, 1, none⟩) (show w.heap.size ≤ w.heap.size + 1 + 1 by omega) (.slice B2 m2 d2)) (p := ⟨w.heap.size + 1 + 1, 2, none⟩) (show w.heap.size ≤ w.heap.size + 1 + 1 by omega) (.bool u2))
  have hSz := (show (fun u => u.heap[w.heap.size]? = some (.cells #[.slice A1 m1 c1, .slice A2 m2 c2, .bool false] 56) ∧ u.heap[w.heap.size + 1]? = some (.cells #[.slice A3 m1 c3, .slice A4 m2 c4, .bool u2] 56) ∧ Below w.heap.size w u) _ from ⟨(heap_setCell_other _ ⟨w.heap.size + 1 + 1, 2, none⟩ _ (.bool u2) (show w.heap.size ≠ w.heap.size + 1 + 1 by omega)).trans ((heap_setCell_other _ ⟨w.heap.size + 1 + 1, 1, none⟩ _ (.slice B2 m2 d2) (show w.heap.size ≠ w.heap.size + 1 + 1 by omega)).trans ((heap_setCell_other _ ⟨w.heap.size + 1 + 1, 0, none⟩ _ (.slice B1 m1 d1) (show w.heap.size ≠ w.heap.size + 1 + 1 by omega)).trans y0)), (heap_setCell_other _ ⟨w.heap.size + 1 + 1, 2, none⟩ _ (.bool u2) (show w.heap.size + 1 ≠ w.heap.size + 1 + 1 by omega)).trans ((heap_setCell_other _ ⟨w.heap.size + 1 + 1, 1, none⟩ _ (.slice B2 m2 d2) (show w.heap.size + 1 ≠ w.heap.size + 1 + 1 by omega)).trans ((heap_setCell_other _ ⟨w.heap.size + 1 + 1, 0, none⟩ _ (.slice B1 m1 d1) (show w.heap.size + 1 ≠ w.heap.size + 1 + 1 by omega)).trans y1)), HBZ.out⟩)
  go_simp
  have hS3 : ((fun u => u.heap[w.heap.size]? = some (.cells #[.slice A1 m1 c1, .slice A2 m2 c2, .bool false] 56) ∧ u.heap[w.heap.size + 1]? = some (.cells #[.slice A3 m1 c3, .slice A4 m2 c4, .bool u2] 56) ∧ Below w.heap.size w u) : World → Prop) _ := hSz
  refine hK _ _ (fun _ => hS3) ?_
  clear hK K
  (try simp only [Act.put, List.setIfInBounds_toArray, List.set_cons_zero, List.set_cons_succ])
  refine regN_ready (rs := [20]) (by kernel_rfl) (by simp) ?_
  refine (AllN.cons (i := 20) (l2 := #[true, true, true, true, true, true, true, true, true, true, true, true, true, true, true, true, true, true, true, true, true]) rfl rfl (fun K hK => ?_) AllN.nil)
  go_simp
  refine hK _ _ (fun h => absurd rfl h) ?_
  clear hK K
  (try simp only [Act.put, List.setIfInBounds_toArray, List.set_cons_zero, List.set_cons_succ])
  refine regN_done (by kernel_rfl) ?_ _
  go_wp2
  refine bodyPost_ret (fr_ret rfl rfl HZ.out) rfl ⟨B1, d1, B2, d2, rfl, ⟨HN1.out.le, HN1.out.mx, HN1.out.len, HN1.out.fr.imp id fun ⟨g, e, h⟩ => ⟨g, e, by omega⟩, HN1.out.vs⟩, ⟨HN2.out.le, HN2.out.mx, HN2.out.len, HN2.out.fr.imp id fun ⟨g, e, h⟩ => ⟨g, e, by omega⟩, HN2.out.vs⟩, HBZ.out⟩
end Go.Proofs.YthifmcnemeiphaaDoor

/- Mq -/
/- Layer 17 with a hierarchy: TypeAssignable (written by gen/mq.py). -/
namespace Go.Proofs.YthifmcnemeiphaaDoor
open Go.ChangeShapes Go.WideShapes Go.ChangeAt Go.RowKit Go.PlainAid Go.Maps
set_option linter.unusedSimpArgs false
set_option linter.unusedVariables false

theorem two_laid (w : World) (o1 o2 : Obj) : ((w.alloc o1).alloc o2).heap[w.heap.size]? = some o1 ∧ ((w.alloc o1).alloc o2).heap[w.heap.size + 1]? = some o2 ∧ Below w.heap.size w ((w.alloc o1).alloc o2) := by
  have e1 : (w.alloc o1).heap.size = w.heap.size + 1 := by simp
  refine ⟨laid_old (World.alloc_heap_new w o1), ?_, below_al (below_al (Below.refl _ w) o1) o2⟩
  have := World.alloc_heap_new (w.alloc o1) o2
  rw [e1] at this
  exact this
set_option maxRecDepth 100000 in
set_option maxHeartbeats 4000000 in
theorem mta_1 (V : Value) (b1 b2 d1 d2 : Int) (s1 s2 : ByteArray) (w : World) (hz1 : s1.size ≤ 9223372036854775807) (hz2 : s2.size ≤ 9223372036854775807) (h1 : validB d1 b1 s1 = false) :
    Calls Tryd.prog 63 #[V, .agg #[.int .i64 d1, .int .u8 b1, .string s1], .agg #[.int .i64 d2, .int .u8 b2, .string s2]] w fun e w' => e = .returned (.bool false) ∧ Below w.heap.size w w' := by
  go_enter Tryd.func63, Tryd.ntmps63
  go_upto_region 1 with fail
  obtain ⟨H0, H1, hB⟩ := two_laid w (.cells #[.int .i64 d1, .int .u8 b1, .string s1] 41) (.cells #[.int .i64 d2, .int .u8 b2, .string s2] 41)
  generalize (w.alloc (.cells #[.int .i64 d1, .int .u8 b1, .string s1] 41)).alloc (.cells #[.int .i64 d2, .int .u8 b2, .string s2] 41) = W at H0 H1 hB ⊢
  obtain ⟨xa0, xa1, xa2, fa0, fa1, fa2⟩ := three_cells H0; obtain ⟨xb0, xb1, xb2, fb0, fb1, fb2⟩ := three_cells H1
  go_wp2_with (first | (go_at_call 65; (with_reducible refine (valid_any _ _ _ _).mono ?_); rintro e w1 ⟨rfl, hb1⟩; (rw [h1]); replace H0 := (hb1.block _ (lt_heap H0)).trans H0; replace H1 := (hb1.block _ (lt_heap H1)).trans H1; replace hB := below_on hB hb1; clear hb1 xa0 xa1 xa2 fa0 fa1 fa2 xb0 xb1 xb2 fb0 fb1 fb2; obtain ⟨xa0, xa1, xa2, fa0, fa1, fa2⟩ := three_cells H0; obtain ⟨xb0, xb1, xb2, fb0, fb1, fb2⟩ := three_cells H1))
  all_goals (go_ret; exact ⟨rfl, hB⟩)
set_option maxRecDepth 100000 in
set_option maxHeartbeats 4000000 in
theorem mta_2 (V : Value) (b1 b2 d1 d2 : Int) (s1 s2 : ByteArray) (w : World) (hz1 : s1.size ≤ 9223372036854775807) (hz2 : s2.size ≤ 9223372036854775807) (h1 : validB d1 b1 s1 = true) (h2 : validB d2 b2 s2 = false) :
    Calls Tryd.prog 63 #[V, .agg #[.int .i64 d1, .int .u8 b1, .string s1], .agg #[.int .i64 d2, .int .u8 b2, .string s2]] w fun e w' => e = .returned (.bool false) ∧ Below w.heap.size w w' := by
  go_enter Tryd.func63, Tryd.ntmps63
  go_upto_region 1 with fail
  obtain ⟨H0, H1, hB⟩ := two_laid w (.cells #[.int .i64 d1, .int .u8 b1, .string s1] 41) (.cells #[.int .i64 d2, .int .u8 b2, .string s2] 41)
  generalize (w.alloc (.cells #[.int .i64 d1, .int .u8 b1, .string s1] 41)).alloc (.cells #[.int .i64 d2, .int .u8 b2, .string s2] 41) = W at H0 H1 hB ⊢
  obtain ⟨xa0, xa1, xa2, fa0, fa1, fa2⟩ := three_cells H0; obtain ⟨xb0, xb1, xb2, fb0, fb1, fb2⟩ := three_cells H1
  go_wp2_with (first | (go_at_call 65; (with_reducible refine (valid_any _ _ _ _).mono ?_); rintro e w1 ⟨rfl, hb1⟩; (first | rw [h1] | rw [h2]); replace H0 := (hb1.block _ (lt_heap H0)).trans H0; replace H1 := (hb1.block _ (lt_heap H1)).trans H1; replace hB := below_on hB hb1; clear hb1 xa0 xa1 xa2 fa0 fa1 fa2 xb0 xb1 xb2 fb0 fb1 fb2; obtain ⟨xa0, xa1, xa2, fa0, fa1, fa2⟩ := three_cells H0; obtain ⟨xb0, xb1, xb2, fb0, fb1, fb2⟩ := three_cells H1))
  all_goals (go_ret; exact ⟨rfl, hB⟩)
set_option maxRecDepth 100000 in
set_option maxHeartbeats 4000000 in
theorem mta_3 (V : Value) (b2 d1 d2 : Int) (s1 s2 : ByteArray) (w : World) (hz1 : s1.size ≤ 9223372036854775807) (hz2 : s2.size ≤ 9223372036854775807) (h1 : validB d1 86 s1 = true) (h2 : validB d2 b2 s2 = true) :
    Calls Tryd.prog 63 #[V, .agg #[.int .i64 d1, .int .u8 86, .string s1], .agg #[.int .i64 d2, .int .u8 b2, .string s2]] w fun e w' => e = .returned (.bool false) ∧ Below w.heap.size w w' := by
  go_enter Tryd.func63, Tryd.ntmps63
  go_upto_region 1 with fail
  obtain ⟨H0, H1, hB⟩ := two_laid w (.cells #[.int .i64 d1, .int .u8 86, .string s1] 41) (.cells #[.int .i64 d2, .int .u8 b2, .string s2] 41)
  generalize (w.alloc (.cells #[.int .i64 d1, .int .u8 86, .string s1] 41)).alloc (.cells #[.int .i64 d2, .int .u8 b2, .string s2] 41) = W at H0 H1 hB ⊢
  obtain ⟨xa0, xa1, xa2, fa0, fa1, fa2⟩ := three_cells H0; obtain ⟨xb0, xb1, xb2, fb0, fb1, fb2⟩ := three_cells H1
  go_wp2_with (first | (go_at_call 65; (with_reducible refine (valid_any _ _ _ _).mono ?_); rintro e w1 ⟨rfl, hb1⟩; (first | rw [h1] | rw [h2]); replace H0 := (hb1.block _ (lt_heap H0)).trans H0; replace H1 := (hb1.block _ (lt_heap H1)).trans H1; replace hB := below_on hB hb1; clear hb1 xa0 xa1 xa2 fa0 fa1 fa2 xb0 xb1 xb2 fb0 fb1 fb2; obtain ⟨xa0, xa1, xa2, fa0, fa1, fa2⟩ := three_cells H0; obtain ⟨xb0, xb1, xb2, fb0, fb1, fb2⟩ := three_cells H1))
  all_goals (go_ret; exact ⟨rfl, hB⟩)
set_option maxRecDepth 100000 in
set_option maxHeartbeats 4000000 in
theorem mta_4 (V : Value) (b1 d1 d2 : Int) (s1 s2 : ByteArray) (w : World) (hz1 : s1.size ≤ 9223372036854775807) (hz2 : s2.size ≤ 9223372036854775807) (h1 : validB d1 b1 s1 = true) (h2 : validB d2 86 s2 = true) (n1 : ¬ b1 = 86) :
    Calls Tryd.prog 63 #[V, .agg #[.int .i64 d1, .int .u8 b1, .string s1], .agg #[.int .i64 d2, .int .u8 86, .string s2]] w fun e w' => e = .returned (.bool false) ∧ Below w.heap.size w w' := by
  go_enter Tryd.func63, Tryd.ntmps63
  go_upto_region 1 with fail
  obtain ⟨H0, H1, hB⟩ := two_laid w (.cells #[.int .i64 d1, .int .u8 b1, .string s1] 41) (.cells #[.int .i64 d2, .int .u8 86, .string s2] 41)
  generalize (w.alloc (.cells #[.int .i64 d1, .int .u8 b1, .string s1] 41)).alloc (.cells #[.int .i64 d2, .int .u8 86, .string s2] 41) = W at H0 H1 hB ⊢
  obtain ⟨xa0, xa1, xa2, fa0, fa1, fa2⟩ := three_cells H0; obtain ⟨xb0, xb1, xb2, fb0, fb1, fb2⟩ := three_cells H1
  go_wp2_with (first | (go_at_call 65; (with_reducible refine (valid_any _ _ _ _).mono ?_); rintro e w1 ⟨rfl, hb1⟩; (first | rw [h1] | rw [h2]); replace H0 := (hb1.block _ (lt_heap H0)).trans H0; replace H1 := (hb1.block _ (lt_heap H1)).trans H1; replace hB := below_on hB hb1; clear hb1 xa0 xa1 xa2 fa0 fa1 fa2 xb0 xb1 xb2 fb0 fb1 fb2; obtain ⟨xa0, xa1, xa2, fa0, fa1, fa2⟩ := three_cells H0; obtain ⟨xb0, xb1, xb2, fb0, fb1, fb2⟩ := three_cells H1))
  all_goals (go_ret; exact ⟨rfl, hB⟩)
set_option maxRecDepth 100000 in
set_option maxHeartbeats 4000000 in
theorem mta_5 (V : Value) (b1 b2 d1 d2 : Int) (s1 s2 : ByteArray) (w : World) (hz1 : s1.size ≤ 9223372036854775807) (hz2 : s2.size ≤ 9223372036854775807) (h1 : validB d1 b1 s1 = true) (h2 : validB d2 b2 s2 = true) (n1 : ¬ b1 = 86) (n2 : ¬ b2 = 86) (hE : tyE (TY.mk d1 b1 s1) (TY.mk d2 b2 s2) = true) :
    Calls Tryd.prog 63 #[V, .agg #[.int .i64 d1, .int .u8 b1, .string s1], .agg #[.int .i64 d2, .int .u8 b2, .string s2]] w fun e w' => e = .returned (.bool true) ∧ Below w.heap.size w w' := by
  have e1 := fun w => ty_eqP hE w
  have m1 : (b1 == 86) = false := by simpa using n1
  have m2 : (b2 == 86) = false := by simpa using n2
  go_enter Tryd.func63, Tryd.ntmps63
  go_upto_region 1 with fail
  obtain ⟨H0, H1, hB⟩ := two_laid w (.cells #[.int .i64 d1, .int .u8 b1, .string s1] 41) (.cells #[.int .i64 d2, .int .u8 b2, .string s2] 41)
  generalize (w.alloc (.cells #[.int .i64 d1, .int .u8 b1, .string s1] 41)).alloc (.cells #[.int .i64 d2, .int .u8 b2, .string s2] 41) = W at H0 H1 hB ⊢
  obtain ⟨xa0, xa1, xa2, fa0, fa1, fa2⟩ := three_cells H0; obtain ⟨xb0, xb1, xb2, fb0, fb1, fb2⟩ := three_cells H1
  go_wp2_with (first | (go_at_call 65; (with_reducible refine (valid_any _ _ _ _).mono ?_); rintro e w1 ⟨rfl, hb1⟩; (first | rw [h1] | rw [h2]); replace H0 := (hb1.block _ (lt_heap H0)).trans H0; replace H1 := (hb1.block _ (lt_heap H1)).trans H1; replace hB := below_on hB hb1; clear hb1 xa0 xa1 xa2 fa0 fa1 fa2 xb0 xb1 xb2 fb0 fb1 fb2; obtain ⟨xa0, xa1, xa2, fa0, fa1, fa2⟩ := three_cells H0; obtain ⟨xb0, xb1, xb2, fb0, fb1, fb2⟩ := three_cells H1))
  all_goals (go_ret; exact ⟨rfl, hB⟩)
set_option maxRecDepth 100000 in
set_option maxHeartbeats 4000000 in
theorem mta_6 (V : Value) (b1 b2 d1 d2 : Int) (s1 s2 : ByteArray) (w : World) (hz1 : s1.size ≤ 9223372036854775807) (hz2 : s2.size ≤ 9223372036854775807) (h1 : validB d1 b1 s1 = true) (h2 : validB d2 b2 s2 = true) (n1 : ¬ b1 = 86) (n2 : ¬ b2 = 86) (hE : tyE (TY.mk d1 b1 s1) (TY.mk d2 b2 s2) = false) (hr : (decide (0 < d1) || (b1 == 76)) = false) :
    Calls Tryd.prog 63 #[V, .agg #[.int .i64 d1, .int .u8 b1, .string s1], .agg #[.int .i64 d2, .int .u8 b2, .string s2]] w fun e w' => e = .returned (.bool false) ∧ Below w.heap.size w w' := by
  have e1 := fun w => ty_eqP hE w
  have m1 : (b1 == 86) = false := by simpa using n1
  have m2 : (b2 == 86) = false := by simpa using n2
  go_enter Tryd.func63, Tryd.ntmps63
  go_upto_region 1 with fail
  obtain ⟨H0, H1, hB⟩ := two_laid w (.cells #[.int .i64 d1, .int .u8 b1, .string s1] 41) (.cells #[.int .i64 d2, .int .u8 b2, .string s2] 41)
  generalize (w.alloc (.cells #[.int .i64 d1, .int .u8 b1, .string s1] 41)).alloc (.cells #[.int .i64 d2, .int .u8 b2, .string s2] 41) = W at H0 H1 hB ⊢
  obtain ⟨xa0, xa1, xa2, fa0, fa1, fa2⟩ := three_cells H0; obtain ⟨xb0, xb1, xb2, fb0, fb1, fb2⟩ := three_cells H1
  go_wp2_with (first | (go_at_call 65; (with_reducible refine (valid_any _ _ _ _).mono ?_); rintro e w1 ⟨rfl, hb1⟩; (first | rw [h1] | rw [h2]); replace H0 := (hb1.block _ (lt_heap H0)).trans H0; replace H1 := (hb1.block _ (lt_heap H1)).trans H1; replace hB := below_on hB hb1; clear hb1 xa0 xa1 xa2 fa0 fa1 fa2 xb0 xb1 xb2 fb0 fb1 fb2; obtain ⟨xa0, xa1, xa2, fa0, fa1, fa2⟩ := three_cells H0; obtain ⟨xb0, xb1, xb2, fb0, fb1, fb2⟩ := three_cells H1) | (go_at_call 66; (with_reducible refine (isref_any _ _ _ _).mono ?_); rintro e w1 ⟨rfl, hb1⟩; rw [hr]; replace H0 := (hb1.block _ (lt_heap H0)).trans H0; replace H1 := (hb1.block _ (lt_heap H1)).trans H1; replace hB := below_on hB hb1; clear hb1 xa0 xa1 xa2 fa0 fa1 fa2 xb0 xb1 xb2 fb0 fb1 fb2; obtain ⟨xa0, xa1, xa2, fa0, fa1, fa2⟩ := three_cells H0; obtain ⟨xb0, xb1, xb2, fb0, fb1, fb2⟩ := three_cells H1))
  all_goals (go_ret; exact ⟨rfl, hB⟩)
set_option maxRecDepth 100000 in
set_option maxHeartbeats 4000000 in
theorem mta_7 (V : Value) (b1 b2 d1 d2 : Int) (s1 s2 : ByteArray) (w : World) (hz1 : s1.size ≤ 9223372036854775807) (hz2 : s2.size ≤ 9223372036854775807) (h1 : validB d1 b1 s1 = true) (h2 : validB d2 b2 s2 = true) (n1 : ¬ b1 = 86) (n2 : ¬ b2 = 86) (hE : tyE (TY.mk d1 b1 s1) (TY.mk d2 b2 s2) = false) (hr : (decide (0 < d1) || (b1 == 76)) = true) (n3 : ¬ b2 = 76) :
    Calls Tryd.prog 63 #[V, .agg #[.int .i64 d1, .int .u8 b1, .string s1], .agg #[.int .i64 d2, .int .u8 b2, .string s2]] w fun e w' => e = .returned (.bool false) ∧ Below w.heap.size w w' := by
  have e1 := fun w => ty_eqP hE w
  have m1 : (b1 == 86) = false := by simpa using n1
  have m2 : (b2 == 86) = false := by simpa using n2
  go_enter Tryd.func63, Tryd.ntmps63
  go_upto_region 1 with fail
  obtain ⟨H0, H1, hB⟩ := two_laid w (.cells #[.int .i64 d1, .int .u8 b1, .string s1] 41) (.cells #[.int .i64 d2, .int .u8 b2, .string s2] 41)
  generalize (w.alloc (.cells #[.int .i64 d1, .int .u8 b1, .string s1] 41)).alloc (.cells #[.int .i64 d2, .int .u8 b2, .string s2] 41) = W at H0 H1 hB ⊢
  obtain ⟨xa0, xa1, xa2, fa0, fa1, fa2⟩ := three_cells H0; obtain ⟨xb0, xb1, xb2, fb0, fb1, fb2⟩ := three_cells H1
  go_wp2_with (first | (go_at_call 65; (with_reducible refine (valid_any _ _ _ _).mono ?_); rintro e w1 ⟨rfl, hb1⟩; (first | rw [h1] | rw [h2]); replace H0 := (hb1.block _ (lt_heap H0)).trans H0; replace H1 := (hb1.block _ (lt_heap H1)).trans H1; replace hB := below_on hB hb1; clear hb1 xa0 xa1 xa2 fa0 fa1 fa2 xb0 xb1 xb2 fb0 fb1 fb2; obtain ⟨xa0, xa1, xa2, fa0, fa1, fa2⟩ := three_cells H0; obtain ⟨xb0, xb1, xb2, fb0, fb1, fb2⟩ := three_cells H1) | (go_at_call 66; (with_reducible refine (isref_any _ _ _ _).mono ?_); rintro e w1 ⟨rfl, hb1⟩; rw [hr]; replace H0 := (hb1.block _ (lt_heap H0)).trans H0; replace H1 := (hb1.block _ (lt_heap H1)).trans H1; replace hB := below_on hB hb1; clear hb1 xa0 xa1 xa2 fa0 fa1 fa2 xb0 xb1 xb2 fb0 fb1 fb2; obtain ⟨xa0, xa1, xa2, fa0, fa1, fa2⟩ := three_cells H0; obtain ⟨xb0, xb1, xb2, fb0, fb1, fb2⟩ := three_cells H1))
  all_goals (go_ret; exact ⟨rfl, hB⟩)
set_option maxRecDepth 100000 in
set_option maxHeartbeats 4000000 in
theorem mta_8 (V : Value) (b1 d1 : Int) (s1 s2 : ByteArray) (w : World) (hz1 : s1.size ≤ 9223372036854775807) (hz2 : s2.size ≤ 9223372036854775807) (h1 : validB d1 b1 s1 = true) (h2 : validB 0 76 s2 = true) (n1 : ¬ b1 = 86) (hE : tyE (TY.mk d1 b1 s1) (TY.mk 0 76 s2) = false) (hr : (decide (0 < d1) || (b1 == 76)) = true) (ht : (s2.toList == rootL) = true) :
    Calls Tryd.prog 63 #[V, .agg #[.int .i64 d1, .int .u8 b1, .string s1], .agg #[.int .i64 0, .int .u8 76, .string s2]] w fun e w' => e = .returned (.bool true) ∧ Below w.heap.size w w' := by
  have e1 := fun w => ty_eqP hE w
  go_enter Tryd.func63, Tryd.ntmps63
  go_upto_region 1 with fail
  obtain ⟨H0, H1, hB⟩ := two_laid w (.cells #[.int .i64 d1, .int .u8 b1, .string s1] 41) (.cells #[.int .i64 0, .int .u8 76, .string s2] 41)
  generalize (w.alloc (.cells #[.int .i64 d1, .int .u8 b1, .string s1] 41)).alloc (.cells #[.int .i64 0, .int .u8 76, .string s2] 41) = W at H0 H1 hB ⊢
  obtain ⟨xa0, xa1, xa2, fa0, fa1, fa2⟩ := three_cells H0; obtain ⟨xb0, xb1, xb2, fb0, fb1, fb2⟩ := three_cells H1
  go_wp2_with (first | (go_at_call 65; (with_reducible refine (valid_any _ _ _ _).mono ?_); rintro e w1 ⟨rfl, hb1⟩; (first | rw [h1] | rw [h2]); replace H0 := (hb1.block _ (lt_heap H0)).trans H0; replace H1 := (hb1.block _ (lt_heap H1)).trans H1; replace hB := below_on hB hb1; clear hb1 xa0 xa1 xa2 fa0 fa1 fa2 xb0 xb1 xb2 fb0 fb1 fb2; obtain ⟨xa0, xa1, xa2, fa0, fa1, fa2⟩ := three_cells H0; obtain ⟨xb0, xb1, xb2, fb0, fb1, fb2⟩ := three_cells H1) | (go_at_call 66; (with_reducible refine (isref_any _ _ _ _).mono ?_); rintro e w1 ⟨rfl, hb1⟩; rw [hr]; replace H0 := (hb1.block _ (lt_heap H0)).trans H0; replace H1 := (hb1.block _ (lt_heap H1)).trans H1; replace hB := below_on hB hb1; clear hb1 xa0 xa1 xa2 fa0 fa1 fa2 xb0 xb1 xb2 fb0 fb1 fb2; obtain ⟨xa0, xa1, xa2, fa0, fa1, fa2⟩ := three_cells H0; obtain ⟨xb0, xb1, xb2, fb0, fb1, fb2⟩ := three_cells H1))
  all_goals (go_ret; exact ⟨rfl, hB⟩)
set_option maxRecDepth 100000 in
set_option maxHeartbeats 4000000 in
theorem mta_9r (V : Value) (d : Int) (s1 s2 : ByteArray) (w : World) (hz1 : s1.size ≤ 9223372036854775807) (hz2 : s2.size ≤ 9223372036854775807) (h1 : validB d 76 s1 = true) (h2 : validB d 76 s2 = true) (hE : tyE (TY.mk d 76 s1) (TY.mk d 76 s2) = false) (ht : (s2.toList == rootL) = true) (nz : ¬ d = 0) (r : Bool) (KC : ∀ W, Below w.heap.size w W → Calls Tryd.prog 97 #[V, .string s1, .string s2] W fun e w' => e = .returned (.bool r) ∧ Below W.heap.size W w') :
    Calls Tryd.prog 63 #[V, .agg #[.int .i64 d, .int .u8 76, .string s1], .agg #[.int .i64 d, .int .u8 76, .string s2]] w fun e w' => e = .returned (.bool r) ∧ Below w.heap.size w w' := by
  have e1 := fun w => ty_eqP hE w
  go_enter Tryd.func63, Tryd.ntmps63
  go_upto_region 1 with fail
  obtain ⟨H0, H1, hB⟩ := two_laid w (.cells #[.int .i64 d, .int .u8 76, .string s1] 41) (.cells #[.int .i64 d, .int .u8 76, .string s2] 41)
  generalize (w.alloc (.cells #[.int .i64 d, .int .u8 76, .string s1] 41)).alloc (.cells #[.int .i64 d, .int .u8 76, .string s2] 41) = W at H0 H1 hB ⊢
  obtain ⟨xa0, xa1, xa2, fa0, fa1, fa2⟩ := three_cells H0; obtain ⟨xb0, xb1, xb2, fb0, fb1, fb2⟩ := three_cells H1
  go_wp2_with (first | (go_at_call 65; (with_reducible refine (valid_any _ _ _ _).mono ?_); rintro e w1 ⟨rfl, hb1⟩; (first | rw [h1] | rw [h2]); replace H0 := (hb1.block _ (lt_heap H0)).trans H0; replace H1 := (hb1.block _ (lt_heap H1)).trans H1; replace hB := below_on hB hb1; clear hb1 xa0 xa1 xa2 fa0 fa1 fa2 xb0 xb1 xb2 fb0 fb1 fb2; obtain ⟨xa0, xa1, xa2, fa0, fa1, fa2⟩ := three_cells H0; obtain ⟨xb0, xb1, xb2, fb0, fb1, fb2⟩ := three_cells H1) | (go_at_call 66; (with_reducible refine (isref_any _ _ _ _).mono ?_); rintro e w1 ⟨rfl, hb1⟩; rw [show (decide (0 < d) || ((76 : Int) == 76)) = true by simp]; replace H0 := (hb1.block _ (lt_heap H0)).trans H0; replace H1 := (hb1.block _ (lt_heap H1)).trans H1; replace hB := below_on hB hb1; clear hb1 xa0 xa1 xa2 fa0 fa1 fa2 xb0 xb1 xb2 fb0 fb1 fb2; obtain ⟨xa0, xa1, xa2, fa0, fa1, fa2⟩ := three_cells H0; obtain ⟨xb0, xb1, xb2, fb0, fb1, fb2⟩ := three_cells H1) | (go_at_call 97; (with_reducible refine (KC _ hB).mono ?_); rintro e w1 ⟨rfl, hb1⟩; replace H0 := (hb1.block _ (lt_heap H0)).trans H0; replace H1 := (hb1.block _ (lt_heap H1)).trans H1; replace hB := below_on hB hb1; clear hb1 xa0 xa1 xa2 fa0 fa1 fa2 xb0 xb1 xb2 fb0 fb1 fb2; obtain ⟨xa0, xa1, xa2, fa0, fa1, fa2⟩ := three_cells H0; obtain ⟨xb0, xb1, xb2, fb0, fb1, fb2⟩ := three_cells H1))
  all_goals (go_ret; exact ⟨rfl, hB⟩)
set_option maxRecDepth 100000 in
set_option maxHeartbeats 4000000 in
theorem mta_9xr (V : Value) (b1 d : Int) (s1 s2 : ByteArray) (w : World) (hz1 : s1.size ≤ 9223372036854775807) (hz2 : s2.size ≤ 9223372036854775807) (h1 : validB d b1 s1 = true) (h2 : validB d 76 s2 = true) (n1 : ¬ b1 = 86) (n3 : ¬ b1 = 76) (hE : tyE (TY.mk d b1 s1) (TY.mk d 76 s2) = false) (hr : (decide (0 < d) || (b1 == 76)) = true) (ht : (s2.toList == rootL) = true) (nz : ¬ d = 0) :
    Calls Tryd.prog 63 #[V, .agg #[.int .i64 d, .int .u8 b1, .string s1], .agg #[.int .i64 d, .int .u8 76, .string s2]] w fun e w' => e = .returned (.bool false) ∧ Below w.heap.size w w' := by
  have e1 := fun w => ty_eqP hE w
  go_enter Tryd.func63, Tryd.ntmps63
  go_upto_region 1 with fail
  obtain ⟨H0, H1, hB⟩ := two_laid w (.cells #[.int .i64 d, .int .u8 b1, .string s1] 41) (.cells #[.int .i64 d, .int .u8 76, .string s2] 41)
  generalize (w.alloc (.cells #[.int .i64 d, .int .u8 b1, .string s1] 41)).alloc (.cells #[.int .i64 d, .int .u8 76, .string s2] 41) = W at H0 H1 hB ⊢
  obtain ⟨xa0, xa1, xa2, fa0, fa1, fa2⟩ := three_cells H0; obtain ⟨xb0, xb1, xb2, fb0, fb1, fb2⟩ := three_cells H1
  go_wp2_with (first | (go_at_call 65; (with_reducible refine (valid_any _ _ _ _).mono ?_); rintro e w1 ⟨rfl, hb1⟩; (first | rw [h1] | rw [h2]); replace H0 := (hb1.block _ (lt_heap H0)).trans H0; replace H1 := (hb1.block _ (lt_heap H1)).trans H1; replace hB := below_on hB hb1; clear hb1 xa0 xa1 xa2 fa0 fa1 fa2 xb0 xb1 xb2 fb0 fb1 fb2; obtain ⟨xa0, xa1, xa2, fa0, fa1, fa2⟩ := three_cells H0; obtain ⟨xb0, xb1, xb2, fb0, fb1, fb2⟩ := three_cells H1) | (go_at_call 66; (with_reducible refine (isref_any _ _ _ _).mono ?_); rintro e w1 ⟨rfl, hb1⟩; rw [hr]; replace H0 := (hb1.block _ (lt_heap H0)).trans H0; replace H1 := (hb1.block _ (lt_heap H1)).trans H1; replace hB := below_on hB hb1; clear hb1 xa0 xa1 xa2 fa0 fa1 fa2 xb0 xb1 xb2 fb0 fb1 fb2; obtain ⟨xa0, xa1, xa2, fa0, fa1, fa2⟩ := three_cells H0; obtain ⟨xb0, xb1, xb2, fb0, fb1, fb2⟩ := three_cells H1))
  all_goals (go_ret; exact ⟨rfl, hB⟩)
set_option maxRecDepth 100000 in
set_option maxHeartbeats 4000000 in
theorem mta_10rg (V : Value) (b1 d1 d2 : Int) (s1 s2 : ByteArray) (w : World) (hz1 : s1.size ≤ 9223372036854775807) (hz2 : s2.size ≤ 9223372036854775807) (h1 : validB d1 b1 s1 = true) (h2 : validB d2 76 s2 = true) (n1 : ¬ b1 = 86) (hE : tyE (TY.mk d1 b1 s1) (TY.mk d2 76 s2) = false) (hr : (decide (0 < d1) || (b1 == 76)) = true) (ht : (s2.toList == rootL) = true) (nz : ¬ d2 = 0) (nd : ¬ d1 = d2) (hg : d2 < d1) :
    Calls Tryd.prog 63 #[V, .agg #[.int .i64 d1, .int .u8 b1, .string s1], .agg #[.int .i64 d2, .int .u8 76, .string s2]] w fun e w' => e = .returned (.bool true) ∧ Below w.heap.size w w' := by
  have e1 := fun w => ty_eqP hE w
  go_enter Tryd.func63, Tryd.ntmps63
  go_upto_region 1 with fail
  obtain ⟨H0, H1, hB⟩ := two_laid w (.cells #[.int .i64 d1, .int .u8 b1, .string s1] 41) (.cells #[.int .i64 d2, .int .u8 76, .string s2] 41)
  generalize (w.alloc (.cells #[.int .i64 d1, .int .u8 b1, .string s1] 41)).alloc (.cells #[.int .i64 d2, .int .u8 76, .string s2] 41) = W at H0 H1 hB ⊢
  obtain ⟨xa0, xa1, xa2, fa0, fa1, fa2⟩ := three_cells H0; obtain ⟨xb0, xb1, xb2, fb0, fb1, fb2⟩ := three_cells H1
  go_wp2_with (first | (go_at_call 65; (with_reducible refine (valid_any _ _ _ _).mono ?_); rintro e w1 ⟨rfl, hb1⟩; (first | rw [h1] | rw [h2]); replace H0 := (hb1.block _ (lt_heap H0)).trans H0; replace H1 := (hb1.block _ (lt_heap H1)).trans H1; replace hB := below_on hB hb1; clear hb1 xa0 xa1 xa2 fa0 fa1 fa2 xb0 xb1 xb2 fb0 fb1 fb2; obtain ⟨xa0, xa1, xa2, fa0, fa1, fa2⟩ := three_cells H0; obtain ⟨xb0, xb1, xb2, fb0, fb1, fb2⟩ := three_cells H1) | (go_at_call 66; (with_reducible refine (isref_any _ _ _ _).mono ?_); rintro e w1 ⟨rfl, hb1⟩; rw [hr]; replace H0 := (hb1.block _ (lt_heap H0)).trans H0; replace H1 := (hb1.block _ (lt_heap H1)).trans H1; replace hB := below_on hB hb1; clear hb1 xa0 xa1 xa2 fa0 fa1 fa2 xb0 xb1 xb2 fb0 fb1 fb2; obtain ⟨xa0, xa1, xa2, fa0, fa1, fa2⟩ := three_cells H0; obtain ⟨xb0, xb1, xb2, fb0, fb1, fb2⟩ := three_cells H1))
  all_goals (go_ret; exact ⟨rfl, hB⟩)
set_option maxRecDepth 100000 in
set_option maxHeartbeats 4000000 in
theorem mta_10rl (V : Value) (b1 d1 d2 : Int) (s1 s2 : ByteArray) (w : World) (hz1 : s1.size ≤ 9223372036854775807) (hz2 : s2.size ≤ 9223372036854775807) (h1 : validB d1 b1 s1 = true) (h2 : validB d2 76 s2 = true) (n1 : ¬ b1 = 86) (hE : tyE (TY.mk d1 b1 s1) (TY.mk d2 76 s2) = false) (hr : (decide (0 < d1) || (b1 == 76)) = true) (ht : (s2.toList == rootL) = true) (nz : ¬ d2 = 0) (nd : ¬ d1 = d2) (hg : ¬ d2 < d1) :
    Calls Tryd.prog 63 #[V, .agg #[.int .i64 d1, .int .u8 b1, .string s1], .agg #[.int .i64 d2, .int .u8 76, .string s2]] w fun e w' => e = .returned (.bool false) ∧ Below w.heap.size w w' := by
  have e1 := fun w => ty_eqP hE w
  go_enter Tryd.func63, Tryd.ntmps63
  go_upto_region 1 with fail
  obtain ⟨H0, H1, hB⟩ := two_laid w (.cells #[.int .i64 d1, .int .u8 b1, .string s1] 41) (.cells #[.int .i64 d2, .int .u8 76, .string s2] 41)
  generalize (w.alloc (.cells #[.int .i64 d1, .int .u8 b1, .string s1] 41)).alloc (.cells #[.int .i64 d2, .int .u8 76, .string s2] 41) = W at H0 H1 hB ⊢
  obtain ⟨xa0, xa1, xa2, fa0, fa1, fa2⟩ := three_cells H0; obtain ⟨xb0, xb1, xb2, fb0, fb1, fb2⟩ := three_cells H1
  go_wp2_with (first | (go_at_call 65; (with_reducible refine (valid_any _ _ _ _).mono ?_); rintro e w1 ⟨rfl, hb1⟩; (first | rw [h1] | rw [h2]); replace H0 := (hb1.block _ (lt_heap H0)).trans H0; replace H1 := (hb1.block _ (lt_heap H1)).trans H1; replace hB := below_on hB hb1; clear hb1 xa0 xa1 xa2 fa0 fa1 fa2 xb0 xb1 xb2 fb0 fb1 fb2; obtain ⟨xa0, xa1, xa2, fa0, fa1, fa2⟩ := three_cells H0; obtain ⟨xb0, xb1, xb2, fb0, fb1, fb2⟩ := three_cells H1) | (go_at_call 66; (with_reducible refine (isref_any _ _ _ _).mono ?_); rintro e w1 ⟨rfl, hb1⟩; rw [hr]; replace H0 := (hb1.block _ (lt_heap H0)).trans H0; replace H1 := (hb1.block _ (lt_heap H1)).trans H1; replace hB := below_on hB hb1; clear hb1 xa0 xa1 xa2 fa0 fa1 fa2 xb0 xb1 xb2 fb0 fb1 fb2; obtain ⟨xa0, xa1, xa2, fa0, fa1, fa2⟩ := three_cells H0; obtain ⟨xb0, xb1, xb2, fb0, fb1, fb2⟩ := three_cells H1))
  all_goals (go_ret; exact ⟨rfl, hB⟩)
set_option maxRecDepth 100000 in
set_option maxHeartbeats 4000000 in
theorem mta_9n (V : Value) (d : Int) (s1 s2 : ByteArray) (w : World) (hz1 : s1.size ≤ 9223372036854775807) (hz2 : s2.size ≤ 9223372036854775807) (h1 : validB d 76 s1 = true) (h2 : validB d 76 s2 = true) (hE : tyE (TY.mk d 76 s1) (TY.mk d 76 s2) = false) (ht : (s2.toList == rootL) = false) (r : Bool) (KC : ∀ W, Below w.heap.size w W → Calls Tryd.prog 97 #[V, .string s1, .string s2] W fun e w' => e = .returned (.bool r) ∧ Below W.heap.size W w') :
    Calls Tryd.prog 63 #[V, .agg #[.int .i64 d, .int .u8 76, .string s1], .agg #[.int .i64 d, .int .u8 76, .string s2]] w fun e w' => e = .returned (.bool r) ∧ Below w.heap.size w w' := by
  have e1 := fun w => ty_eqP hE w
  go_enter Tryd.func63, Tryd.ntmps63
  go_upto_region 1 with fail
  obtain ⟨H0, H1, hB⟩ := two_laid w (.cells #[.int .i64 d, .int .u8 76, .string s1] 41) (.cells #[.int .i64 d, .int .u8 76, .string s2] 41)
  generalize (w.alloc (.cells #[.int .i64 d, .int .u8 76, .string s1] 41)).alloc (.cells #[.int .i64 d, .int .u8 76, .string s2] 41) = W at H0 H1 hB ⊢
  obtain ⟨xa0, xa1, xa2, fa0, fa1, fa2⟩ := three_cells H0; obtain ⟨xb0, xb1, xb2, fb0, fb1, fb2⟩ := three_cells H1
  go_wp2_with (first | (go_at_call 65; (with_reducible refine (valid_any _ _ _ _).mono ?_); rintro e w1 ⟨rfl, hb1⟩; (first | rw [h1] | rw [h2]); replace H0 := (hb1.block _ (lt_heap H0)).trans H0; replace H1 := (hb1.block _ (lt_heap H1)).trans H1; replace hB := below_on hB hb1; clear hb1 xa0 xa1 xa2 fa0 fa1 fa2 xb0 xb1 xb2 fb0 fb1 fb2; obtain ⟨xa0, xa1, xa2, fa0, fa1, fa2⟩ := three_cells H0; obtain ⟨xb0, xb1, xb2, fb0, fb1, fb2⟩ := three_cells H1) | (go_at_call 66; (with_reducible refine (isref_any _ _ _ _).mono ?_); rintro e w1 ⟨rfl, hb1⟩; rw [show (decide (0 < d) || ((76 : Int) == 76)) = true by simp]; replace H0 := (hb1.block _ (lt_heap H0)).trans H0; replace H1 := (hb1.block _ (lt_heap H1)).trans H1; replace hB := below_on hB hb1; clear hb1 xa0 xa1 xa2 fa0 fa1 fa2 xb0 xb1 xb2 fb0 fb1 fb2; obtain ⟨xa0, xa1, xa2, fa0, fa1, fa2⟩ := three_cells H0; obtain ⟨xb0, xb1, xb2, fb0, fb1, fb2⟩ := three_cells H1) | (go_at_call 97; (with_reducible refine (KC _ hB).mono ?_); rintro e w1 ⟨rfl, hb1⟩; replace H0 := (hb1.block _ (lt_heap H0)).trans H0; replace H1 := (hb1.block _ (lt_heap H1)).trans H1; replace hB := below_on hB hb1; clear hb1 xa0 xa1 xa2 fa0 fa1 fa2 xb0 xb1 xb2 fb0 fb1 fb2; obtain ⟨xa0, xa1, xa2, fa0, fa1, fa2⟩ := three_cells H0; obtain ⟨xb0, xb1, xb2, fb0, fb1, fb2⟩ := three_cells H1))
  all_goals (go_ret; exact ⟨rfl, hB⟩)
set_option maxRecDepth 100000 in
set_option maxHeartbeats 4000000 in
theorem mta_9xn (V : Value) (b1 d : Int) (s1 s2 : ByteArray) (w : World) (hz1 : s1.size ≤ 9223372036854775807) (hz2 : s2.size ≤ 9223372036854775807) (h1 : validB d b1 s1 = true) (h2 : validB d 76 s2 = true) (n1 : ¬ b1 = 86) (n3 : ¬ b1 = 76) (hE : tyE (TY.mk d b1 s1) (TY.mk d 76 s2) = false) (hr : (decide (0 < d) || (b1 == 76)) = true) (ht : (s2.toList == rootL) = false) :
    Calls Tryd.prog 63 #[V, .agg #[.int .i64 d, .int .u8 b1, .string s1], .agg #[.int .i64 d, .int .u8 76, .string s2]] w fun e w' => e = .returned (.bool false) ∧ Below w.heap.size w w' := by
  have e1 := fun w => ty_eqP hE w
  go_enter Tryd.func63, Tryd.ntmps63
  go_upto_region 1 with fail
  obtain ⟨H0, H1, hB⟩ := two_laid w (.cells #[.int .i64 d, .int .u8 b1, .string s1] 41) (.cells #[.int .i64 d, .int .u8 76, .string s2] 41)
  generalize (w.alloc (.cells #[.int .i64 d, .int .u8 b1, .string s1] 41)).alloc (.cells #[.int .i64 d, .int .u8 76, .string s2] 41) = W at H0 H1 hB ⊢
  obtain ⟨xa0, xa1, xa2, fa0, fa1, fa2⟩ := three_cells H0; obtain ⟨xb0, xb1, xb2, fb0, fb1, fb2⟩ := three_cells H1
  go_wp2_with (first | (go_at_call 65; (with_reducible refine (valid_any _ _ _ _).mono ?_); rintro e w1 ⟨rfl, hb1⟩; (first | rw [h1] | rw [h2]); replace H0 := (hb1.block _ (lt_heap H0)).trans H0; replace H1 := (hb1.block _ (lt_heap H1)).trans H1; replace hB := below_on hB hb1; clear hb1 xa0 xa1 xa2 fa0 fa1 fa2 xb0 xb1 xb2 fb0 fb1 fb2; obtain ⟨xa0, xa1, xa2, fa0, fa1, fa2⟩ := three_cells H0; obtain ⟨xb0, xb1, xb2, fb0, fb1, fb2⟩ := three_cells H1) | (go_at_call 66; (with_reducible refine (isref_any _ _ _ _).mono ?_); rintro e w1 ⟨rfl, hb1⟩; rw [hr]; replace H0 := (hb1.block _ (lt_heap H0)).trans H0; replace H1 := (hb1.block _ (lt_heap H1)).trans H1; replace hB := below_on hB hb1; clear hb1 xa0 xa1 xa2 fa0 fa1 fa2 xb0 xb1 xb2 fb0 fb1 fb2; obtain ⟨xa0, xa1, xa2, fa0, fa1, fa2⟩ := three_cells H0; obtain ⟨xb0, xb1, xb2, fb0, fb1, fb2⟩ := three_cells H1))
  all_goals (go_ret; exact ⟨rfl, hB⟩)
set_option maxRecDepth 100000 in
set_option maxHeartbeats 4000000 in
theorem mta_10ng (V : Value) (b1 d1 d2 : Int) (s1 s2 : ByteArray) (w : World) (hz1 : s1.size ≤ 9223372036854775807) (hz2 : s2.size ≤ 9223372036854775807) (h1 : validB d1 b1 s1 = true) (h2 : validB d2 76 s2 = true) (n1 : ¬ b1 = 86) (hE : tyE (TY.mk d1 b1 s1) (TY.mk d2 76 s2) = false) (hr : (decide (0 < d1) || (b1 == 76)) = true) (ht : (s2.toList == rootL) = false) (nd : ¬ d1 = d2) (hg : d2 < d1) :
    Calls Tryd.prog 63 #[V, .agg #[.int .i64 d1, .int .u8 b1, .string s1], .agg #[.int .i64 d2, .int .u8 76, .string s2]] w fun e w' => e = .returned (.bool false) ∧ Below w.heap.size w w' := by
  have e1 := fun w => ty_eqP hE w
  go_enter Tryd.func63, Tryd.ntmps63
  go_upto_region 1 with fail
  obtain ⟨H0, H1, hB⟩ := two_laid w (.cells #[.int .i64 d1, .int .u8 b1, .string s1] 41) (.cells #[.int .i64 d2, .int .u8 76, .string s2] 41)
  generalize (w.alloc (.cells #[.int .i64 d1, .int .u8 b1, .string s1] 41)).alloc (.cells #[.int .i64 d2, .int .u8 76, .string s2] 41) = W at H0 H1 hB ⊢
  obtain ⟨xa0, xa1, xa2, fa0, fa1, fa2⟩ := three_cells H0; obtain ⟨xb0, xb1, xb2, fb0, fb1, fb2⟩ := three_cells H1
  go_wp2_with (first | (go_at_call 65; (with_reducible refine (valid_any _ _ _ _).mono ?_); rintro e w1 ⟨rfl, hb1⟩; (first | rw [h1] | rw [h2]); replace H0 := (hb1.block _ (lt_heap H0)).trans H0; replace H1 := (hb1.block _ (lt_heap H1)).trans H1; replace hB := below_on hB hb1; clear hb1 xa0 xa1 xa2 fa0 fa1 fa2 xb0 xb1 xb2 fb0 fb1 fb2; obtain ⟨xa0, xa1, xa2, fa0, fa1, fa2⟩ := three_cells H0; obtain ⟨xb0, xb1, xb2, fb0, fb1, fb2⟩ := three_cells H1) | (go_at_call 66; (with_reducible refine (isref_any _ _ _ _).mono ?_); rintro e w1 ⟨rfl, hb1⟩; rw [hr]; replace H0 := (hb1.block _ (lt_heap H0)).trans H0; replace H1 := (hb1.block _ (lt_heap H1)).trans H1; replace hB := below_on hB hb1; clear hb1 xa0 xa1 xa2 fa0 fa1 fa2 xb0 xb1 xb2 fb0 fb1 fb2; obtain ⟨xa0, xa1, xa2, fa0, fa1, fa2⟩ := three_cells H0; obtain ⟨xb0, xb1, xb2, fb0, fb1, fb2⟩ := three_cells H1))
  all_goals (go_ret; exact ⟨rfl, hB⟩)
set_option maxRecDepth 100000 in
set_option maxHeartbeats 4000000 in
theorem mta_10nl (V : Value) (b1 d1 d2 : Int) (s1 s2 : ByteArray) (w : World) (hz1 : s1.size ≤ 9223372036854775807) (hz2 : s2.size ≤ 9223372036854775807) (h1 : validB d1 b1 s1 = true) (h2 : validB d2 76 s2 = true) (n1 : ¬ b1 = 86) (hE : tyE (TY.mk d1 b1 s1) (TY.mk d2 76 s2) = false) (hr : (decide (0 < d1) || (b1 == 76)) = true) (ht : (s2.toList == rootL) = false) (nd : ¬ d1 = d2) (hg : ¬ d2 < d1) :
    Calls Tryd.prog 63 #[V, .agg #[.int .i64 d1, .int .u8 b1, .string s1], .agg #[.int .i64 d2, .int .u8 76, .string s2]] w fun e w' => e = .returned (.bool false) ∧ Below w.heap.size w w' := by
  have e1 := fun w => ty_eqP hE w
  go_enter Tryd.func63, Tryd.ntmps63
  go_upto_region 1 with fail
  obtain ⟨H0, H1, hB⟩ := two_laid w (.cells #[.int .i64 d1, .int .u8 b1, .string s1] 41) (.cells #[.int .i64 d2, .int .u8 76, .string s2] 41)
  generalize (w.alloc (.cells #[.int .i64 d1, .int .u8 b1, .string s1] 41)).alloc (.cells #[.int .i64 d2, .int .u8 76, .string s2] 41) = W at H0 H1 hB ⊢
  obtain ⟨xa0, xa1, xa2, fa0, fa1, fa2⟩ := three_cells H0; obtain ⟨xb0, xb1, xb2, fb0, fb1, fb2⟩ := three_cells H1
  go_wp2_with (first | (go_at_call 65; (with_reducible refine (valid_any _ _ _ _).mono ?_); rintro e w1 ⟨rfl, hb1⟩; (first | rw [h1] | rw [h2]); replace H0 := (hb1.block _ (lt_heap H0)).trans H0; replace H1 := (hb1.block _ (lt_heap H1)).trans H1; replace hB := below_on hB hb1; clear hb1 xa0 xa1 xa2 fa0 fa1 fa2 xb0 xb1 xb2 fb0 fb1 fb2; obtain ⟨xa0, xa1, xa2, fa0, fa1, fa2⟩ := three_cells H0; obtain ⟨xb0, xb1, xb2, fb0, fb1, fb2⟩ := three_cells H1) | (go_at_call 66; (with_reducible refine (isref_any _ _ _ _).mono ?_); rintro e w1 ⟨rfl, hb1⟩; rw [hr]; replace H0 := (hb1.block _ (lt_heap H0)).trans H0; replace H1 := (hb1.block _ (lt_heap H1)).trans H1; replace hB := below_on hB hb1; clear hb1 xa0 xa1 xa2 fa0 fa1 fa2 xb0 xb1 xb2 fb0 fb1 fb2; obtain ⟨xa0, xa1, xa2, fa0, fa1, fa2⟩ := three_cells H0; obtain ⟨xb0, xb1, xb2, fb0, fb1, fb2⟩ := three_cells H1))
  all_goals (go_ret; exact ⟨rfl, hB⟩)
end Go.Proofs.YthifmcnemeiphaaDoor

/- Mr -/
/- Layer 17 with a hierarchy: TypeAssignable (written by gen/mq.py). -/
namespace Go.Proofs.YthifmcnemeiphaaDoor
open Go.ChangeShapes Go.WideShapes Go.ChangeAt Go.RowKit Go.PlainAid Go.Maps
set_option linter.unusedSimpArgs false
set_option linter.unusedVariables false

set_option maxRecDepth 100000 in
set_option maxHeartbeats 4000000 in
theorem rta_1 (V : Value) (b1 b2 d1 d2 : Int) (s1 s2 : ByteArray) (w : World) (hz1 : s1.size ≤ 9223372036854775807) (hz2 : s2.size ≤ 9223372036854775807) (h1 : validB d1 b1 s1 = false) :
    Calls Tryd.prog 117 #[V, .agg #[.int .i64 d1, .int .u8 b1, .string s1], .agg #[.int .i64 d2, .int .u8 b2, .string s2]] w fun e w' => e = .returned (.bool false) ∧ Below w.heap.size w w' := by
  go_enter Tryd.func117, Tryd.ntmps117
  go_upto_region 1 with fail
  obtain ⟨H0, H1, hB⟩ := two_laid w (.cells #[.int .i64 d1, .int .u8 b1, .string s1] 41) (.cells #[.int .i64 d2, .int .u8 b2, .string s2] 41)
  generalize (w.alloc (.cells #[.int .i64 d1, .int .u8 b1, .string s1] 41)).alloc (.cells #[.int .i64 d2, .int .u8 b2, .string s2] 41) = W at H0 H1 hB ⊢
  obtain ⟨xa0, xa1, xa2, fa0, fa1, fa2⟩ := three_cells H0; obtain ⟨xb0, xb1, xb2, fb0, fb1, fb2⟩ := three_cells H1
  go_wp2_with (first | (go_at_call 67; (with_reducible refine (rvalid_any _ _ _ (by assumption) _).mono ?_); rintro e w1 ⟨rfl, hb1⟩; (rw [h1]); replace H0 := (hb1.block _ (lt_heap H0)).trans H0; replace H1 := (hb1.block _ (lt_heap H1)).trans H1; replace hB := below_on hB hb1; clear hb1 xa0 xa1 xa2 fa0 fa1 fa2 xb0 xb1 xb2 fb0 fb1 fb2; obtain ⟨xa0, xa1, xa2, fa0, fa1, fa2⟩ := three_cells H0; obtain ⟨xb0, xb1, xb2, fb0, fb1, fb2⟩ := three_cells H1))
  all_goals (go_ret; exact ⟨rfl, hB⟩)
set_option maxRecDepth 100000 in
set_option maxHeartbeats 4000000 in
theorem rta_2 (V : Value) (b1 b2 d1 d2 : Int) (s1 s2 : ByteArray) (w : World) (hz1 : s1.size ≤ 9223372036854775807) (hz2 : s2.size ≤ 9223372036854775807) (h1 : validB d1 b1 s1 = true) (h2 : validB d2 b2 s2 = false) :
    Calls Tryd.prog 117 #[V, .agg #[.int .i64 d1, .int .u8 b1, .string s1], .agg #[.int .i64 d2, .int .u8 b2, .string s2]] w fun e w' => e = .returned (.bool false) ∧ Below w.heap.size w w' := by
  go_enter Tryd.func117, Tryd.ntmps117
  go_upto_region 1 with fail
  obtain ⟨H0, H1, hB⟩ := two_laid w (.cells #[.int .i64 d1, .int .u8 b1, .string s1] 41) (.cells #[.int .i64 d2, .int .u8 b2, .string s2] 41)
  generalize (w.alloc (.cells #[.int .i64 d1, .int .u8 b1, .string s1] 41)).alloc (.cells #[.int .i64 d2, .int .u8 b2, .string s2] 41) = W at H0 H1 hB ⊢
  obtain ⟨xa0, xa1, xa2, fa0, fa1, fa2⟩ := three_cells H0; obtain ⟨xb0, xb1, xb2, fb0, fb1, fb2⟩ := three_cells H1
  go_wp2_with (first | (go_at_call 67; (with_reducible refine (rvalid_any _ _ _ (by assumption) _).mono ?_); rintro e w1 ⟨rfl, hb1⟩; (first | rw [h1] | rw [h2]); replace H0 := (hb1.block _ (lt_heap H0)).trans H0; replace H1 := (hb1.block _ (lt_heap H1)).trans H1; replace hB := below_on hB hb1; clear hb1 xa0 xa1 xa2 fa0 fa1 fa2 xb0 xb1 xb2 fb0 fb1 fb2; obtain ⟨xa0, xa1, xa2, fa0, fa1, fa2⟩ := three_cells H0; obtain ⟨xb0, xb1, xb2, fb0, fb1, fb2⟩ := three_cells H1))
  all_goals (go_ret; exact ⟨rfl, hB⟩)
set_option maxRecDepth 100000 in
set_option maxHeartbeats 4000000 in
theorem rta_3 (V : Value) (b2 d1 d2 : Int) (s1 s2 : ByteArray) (w : World) (hz1 : s1.size ≤ 9223372036854775807) (hz2 : s2.size ≤ 9223372036854775807) (h1 : validB d1 86 s1 = true) (h2 : validB d2 b2 s2 = true) :
    Calls Tryd.prog 117 #[V, .agg #[.int .i64 d1, .int .u8 86, .string s1], .agg #[.int .i64 d2, .int .u8 b2, .string s2]] w fun e w' => e = .returned (.bool false) ∧ Below w.heap.size w w' := by
  go_enter Tryd.func117, Tryd.ntmps117
  go_upto_region 1 with fail
  obtain ⟨H0, H1, hB⟩ := two_laid w (.cells #[.int .i64 d1, .int .u8 86, .string s1] 41) (.cells #[.int .i64 d2, .int .u8 b2, .string s2] 41)
  generalize (w.alloc (.cells #[.int .i64 d1, .int .u8 86, .string s1] 41)).alloc (.cells #[.int .i64 d2, .int .u8 b2, .string s2] 41) = W at H0 H1 hB ⊢
  obtain ⟨xa0, xa1, xa2, fa0, fa1, fa2⟩ := three_cells H0; obtain ⟨xb0, xb1, xb2, fb0, fb1, fb2⟩ := three_cells H1
  go_wp2_with (first | (go_at_call 67; (with_reducible refine (rvalid_any _ _ _ (by assumption) _).mono ?_); rintro e w1 ⟨rfl, hb1⟩; (first | rw [h1] | rw [h2]); replace H0 := (hb1.block _ (lt_heap H0)).trans H0; replace H1 := (hb1.block _ (lt_heap H1)).trans H1; replace hB := below_on hB hb1; clear hb1 xa0 xa1 xa2 fa0 fa1 fa2 xb0 xb1 xb2 fb0 fb1 fb2; obtain ⟨xa0, xa1, xa2, fa0, fa1, fa2⟩ := three_cells H0; obtain ⟨xb0, xb1, xb2, fb0, fb1, fb2⟩ := three_cells H1))
  all_goals (go_ret; exact ⟨rfl, hB⟩)
set_option maxRecDepth 100000 in
set_option maxHeartbeats 4000000 in
theorem rta_4 (V : Value) (b1 d1 d2 : Int) (s1 s2 : ByteArray) (w : World) (hz1 : s1.size ≤ 9223372036854775807) (hz2 : s2.size ≤ 9223372036854775807) (h1 : validB d1 b1 s1 = true) (h2 : validB d2 86 s2 = true) (n1 : ¬ b1 = 86) :
    Calls Tryd.prog 117 #[V, .agg #[.int .i64 d1, .int .u8 b1, .string s1], .agg #[.int .i64 d2, .int .u8 86, .string s2]] w fun e w' => e = .returned (.bool false) ∧ Below w.heap.size w w' := by
  go_enter Tryd.func117, Tryd.ntmps117
  go_upto_region 1 with fail
  obtain ⟨H0, H1, hB⟩ := two_laid w (.cells #[.int .i64 d1, .int .u8 b1, .string s1] 41) (.cells #[.int .i64 d2, .int .u8 86, .string s2] 41)
  generalize (w.alloc (.cells #[.int .i64 d1, .int .u8 b1, .string s1] 41)).alloc (.cells #[.int .i64 d2, .int .u8 86, .string s2] 41) = W at H0 H1 hB ⊢
  obtain ⟨xa0, xa1, xa2, fa0, fa1, fa2⟩ := three_cells H0; obtain ⟨xb0, xb1, xb2, fb0, fb1, fb2⟩ := three_cells H1
  go_wp2_with (first | (go_at_call 67; (with_reducible refine (rvalid_any _ _ _ (by assumption) _).mono ?_); rintro e w1 ⟨rfl, hb1⟩; (first | rw [h1] | rw [h2]); replace H0 := (hb1.block _ (lt_heap H0)).trans H0; replace H1 := (hb1.block _ (lt_heap H1)).trans H1; replace hB := below_on hB hb1; clear hb1 xa0 xa1 xa2 fa0 fa1 fa2 xb0 xb1 xb2 fb0 fb1 fb2; obtain ⟨xa0, xa1, xa2, fa0, fa1, fa2⟩ := three_cells H0; obtain ⟨xb0, xb1, xb2, fb0, fb1, fb2⟩ := three_cells H1))
  all_goals (go_ret; exact ⟨rfl, hB⟩)
set_option maxRecDepth 100000 in
set_option maxHeartbeats 4000000 in
theorem rta_5 (V : Value) (b1 b2 d1 d2 : Int) (s1 s2 : ByteArray) (w : World) (hz1 : s1.size ≤ 9223372036854775807) (hz2 : s2.size ≤ 9223372036854775807) (h1 : validB d1 b1 s1 = true) (h2 : validB d2 b2 s2 = true) (n1 : ¬ b1 = 86) (n2 : ¬ b2 = 86) (hE : tyE (TY.mk d1 b1 s1) (TY.mk d2 b2 s2) = true) :
    Calls Tryd.prog 117 #[V, .agg #[.int .i64 d1, .int .u8 b1, .string s1], .agg #[.int .i64 d2, .int .u8 b2, .string s2]] w fun e w' => e = .returned (.bool true) ∧ Below w.heap.size w w' := by
  have e1 := fun w => ty_eqP hE w
  have m1 : (b1 == 86) = false := by simpa using n1
  have m2 : (b2 == 86) = false := by simpa using n2
  go_enter Tryd.func117, Tryd.ntmps117
  go_upto_region 1 with fail
  obtain ⟨H0, H1, hB⟩ := two_laid w (.cells #[.int .i64 d1, .int .u8 b1, .string s1] 41) (.cells #[.int .i64 d2, .int .u8 b2, .string s2] 41)
  generalize (w.alloc (.cells #[.int .i64 d1, .int .u8 b1, .string s1] 41)).alloc (.cells #[.int .i64 d2, .int .u8 b2, .string s2] 41) = W at H0 H1 hB ⊢
  obtain ⟨xa0, xa1, xa2, fa0, fa1, fa2⟩ := three_cells H0; obtain ⟨xb0, xb1, xb2, fb0, fb1, fb2⟩ := three_cells H1
  go_wp2_with (first | (go_at_call 67; (with_reducible refine (rvalid_any _ _ _ (by assumption) _).mono ?_); rintro e w1 ⟨rfl, hb1⟩; (first | rw [h1] | rw [h2]); replace H0 := (hb1.block _ (lt_heap H0)).trans H0; replace H1 := (hb1.block _ (lt_heap H1)).trans H1; replace hB := below_on hB hb1; clear hb1 xa0 xa1 xa2 fa0 fa1 fa2 xb0 xb1 xb2 fb0 fb1 fb2; obtain ⟨xa0, xa1, xa2, fa0, fa1, fa2⟩ := three_cells H0; obtain ⟨xb0, xb1, xb2, fb0, fb1, fb2⟩ := three_cells H1))
  all_goals (go_ret; exact ⟨rfl, hB⟩)
set_option maxRecDepth 100000 in
set_option maxHeartbeats 4000000 in
theorem rta_6 (V : Value) (b1 b2 d1 d2 : Int) (s1 s2 : ByteArray) (w : World) (hz1 : s1.size ≤ 9223372036854775807) (hz2 : s2.size ≤ 9223372036854775807) (h1 : validB d1 b1 s1 = true) (h2 : validB d2 b2 s2 = true) (n1 : ¬ b1 = 86) (n2 : ¬ b2 = 86) (hE : tyE (TY.mk d1 b1 s1) (TY.mk d2 b2 s2) = false) (hr : (decide (0 < d1) || (b1 == 76)) = false) :
    Calls Tryd.prog 117 #[V, .agg #[.int .i64 d1, .int .u8 b1, .string s1], .agg #[.int .i64 d2, .int .u8 b2, .string s2]] w fun e w' => e = .returned (.bool false) ∧ Below w.heap.size w w' := by
  have e1 := fun w => ty_eqP hE w
  have m1 : (b1 == 86) = false := by simpa using n1
  have m2 : (b2 == 86) = false := by simpa using n2
  go_enter Tryd.func117, Tryd.ntmps117
  go_upto_region 1 with fail
  obtain ⟨H0, H1, hB⟩ := two_laid w (.cells #[.int .i64 d1, .int .u8 b1, .string s1] 41) (.cells #[.int .i64 d2, .int .u8 b2, .string s2] 41)
  generalize (w.alloc (.cells #[.int .i64 d1, .int .u8 b1, .string s1] 41)).alloc (.cells #[.int .i64 d2, .int .u8 b2, .string s2] 41) = W at H0 H1 hB ⊢
  obtain ⟨xa0, xa1, xa2, fa0, fa1, fa2⟩ := three_cells H0; obtain ⟨xb0, xb1, xb2, fb0, fb1, fb2⟩ := three_cells H1
  go_wp2_with (first | (go_at_call 67; (with_reducible refine (rvalid_any _ _ _ (by assumption) _).mono ?_); rintro e w1 ⟨rfl, hb1⟩; (first | rw [h1] | rw [h2]); replace H0 := (hb1.block _ (lt_heap H0)).trans H0; replace H1 := (hb1.block _ (lt_heap H1)).trans H1; replace hB := below_on hB hb1; clear hb1 xa0 xa1 xa2 fa0 fa1 fa2 xb0 xb1 xb2 fb0 fb1 fb2; obtain ⟨xa0, xa1, xa2, fa0, fa1, fa2⟩ := three_cells H0; obtain ⟨xb0, xb1, xb2, fb0, fb1, fb2⟩ := three_cells H1) | (go_at_call 68; (with_reducible refine (object_any _ _ _ _).mono ?_); rintro e w1 ⟨rfl, hb1⟩; rw [hr]; replace H0 := (hb1.block _ (lt_heap H0)).trans H0; replace H1 := (hb1.block _ (lt_heap H1)).trans H1; replace hB := below_on hB hb1; clear hb1 xa0 xa1 xa2 fa0 fa1 fa2 xb0 xb1 xb2 fb0 fb1 fb2; obtain ⟨xa0, xa1, xa2, fa0, fa1, fa2⟩ := three_cells H0; obtain ⟨xb0, xb1, xb2, fb0, fb1, fb2⟩ := three_cells H1))
  all_goals (go_ret; exact ⟨rfl, hB⟩)
set_option maxRecDepth 100000 in
set_option maxHeartbeats 4000000 in
theorem rta_7 (V : Value) (b1 b2 d1 d2 : Int) (s1 s2 : ByteArray) (w : World) (hz1 : s1.size ≤ 9223372036854775807) (hz2 : s2.size ≤ 9223372036854775807) (h1 : validB d1 b1 s1 = true) (h2 : validB d2 b2 s2 = true) (n1 : ¬ b1 = 86) (n2 : ¬ b2 = 86) (hE : tyE (TY.mk d1 b1 s1) (TY.mk d2 b2 s2) = false) (hr : (decide (0 < d1) || (b1 == 76)) = true) (n3 : ¬ b2 = 76) :
    Calls Tryd.prog 117 #[V, .agg #[.int .i64 d1, .int .u8 b1, .string s1], .agg #[.int .i64 d2, .int .u8 b2, .string s2]] w fun e w' => e = .returned (.bool false) ∧ Below w.heap.size w w' := by
  have e1 := fun w => ty_eqP hE w
  have m1 : (b1 == 86) = false := by simpa using n1
  have m2 : (b2 == 86) = false := by simpa using n2
  go_enter Tryd.func117, Tryd.ntmps117
  go_upto_region 1 with fail
  obtain ⟨H0, H1, hB⟩ := two_laid w (.cells #[.int .i64 d1, .int .u8 b1, .string s1] 41) (.cells #[.int .i64 d2, .int .u8 b2, .string s2] 41)
  generalize (w.alloc (.cells #[.int .i64 d1, .int .u8 b1, .string s1] 41)).alloc (.cells #[.int .i64 d2, .int .u8 b2, .string s2] 41) = W at H0 H1 hB ⊢
  obtain ⟨xa0, xa1, xa2, fa0, fa1, fa2⟩ := three_cells H0; obtain ⟨xb0, xb1, xb2, fb0, fb1, fb2⟩ := three_cells H1
  go_wp2_with (first | (go_at_call 67; (with_reducible refine (rvalid_any _ _ _ (by assumption) _).mono ?_); rintro e w1 ⟨rfl, hb1⟩; (first | rw [h1] | rw [h2]); replace H0 := (hb1.block _ (lt_heap H0)).trans H0; replace H1 := (hb1.block _ (lt_heap H1)).trans H1; replace hB := below_on hB hb1; clear hb1 xa0 xa1 xa2 fa0 fa1 fa2 xb0 xb1 xb2 fb0 fb1 fb2; obtain ⟨xa0, xa1, xa2, fa0, fa1, fa2⟩ := three_cells H0; obtain ⟨xb0, xb1, xb2, fb0, fb1, fb2⟩ := three_cells H1) | (go_at_call 68; (with_reducible refine (object_any _ _ _ _).mono ?_); rintro e w1 ⟨rfl, hb1⟩; rw [hr]; replace H0 := (hb1.block _ (lt_heap H0)).trans H0; replace H1 := (hb1.block _ (lt_heap H1)).trans H1; replace hB := below_on hB hb1; clear hb1 xa0 xa1 xa2 fa0 fa1 fa2 xb0 xb1 xb2 fb0 fb1 fb2; obtain ⟨xa0, xa1, xa2, fa0, fa1, fa2⟩ := three_cells H0; obtain ⟨xb0, xb1, xb2, fb0, fb1, fb2⟩ := three_cells H1))
  all_goals (go_ret; exact ⟨rfl, hB⟩)
set_option maxRecDepth 100000 in
set_option maxHeartbeats 4000000 in
theorem rta_8 (V : Value) (b1 d1 : Int) (s1 s2 : ByteArray) (w : World) (hz1 : s1.size ≤ 9223372036854775807) (hz2 : s2.size ≤ 9223372036854775807) (h1 : validB d1 b1 s1 = true) (h2 : validB 0 76 s2 = true) (n1 : ¬ b1 = 86) (hE : tyE (TY.mk d1 b1 s1) (TY.mk 0 76 s2) = false) (hr : (decide (0 < d1) || (b1 == 76)) = true) (ht : (s2.toList == rootL) = true) :
    Calls Tryd.prog 117 #[V, .agg #[.int .i64 d1, .int .u8 b1, .string s1], .agg #[.int .i64 0, .int .u8 76, .string s2]] w fun e w' => e = .returned (.bool true) ∧ Below w.heap.size w w' := by
  have e1 := fun w => ty_eqP hE w
  go_enter Tryd.func117, Tryd.ntmps117
  go_upto_region 1 with fail
  obtain ⟨H0, H1, hB⟩ := two_laid w (.cells #[.int .i64 d1, .int .u8 b1, .string s1] 41) (.cells #[.int .i64 0, .int .u8 76, .string s2] 41)
  generalize (w.alloc (.cells #[.int .i64 d1, .int .u8 b1, .string s1] 41)).alloc (.cells #[.int .i64 0, .int .u8 76, .string s2] 41) = W at H0 H1 hB ⊢
  obtain ⟨xa0, xa1, xa2, fa0, fa1, fa2⟩ := three_cells H0; obtain ⟨xb0, xb1, xb2, fb0, fb1, fb2⟩ := three_cells H1
  go_wp2_with (first | (go_at_call 67; (with_reducible refine (rvalid_any _ _ _ (by assumption) _).mono ?_); rintro e w1 ⟨rfl, hb1⟩; (first | rw [h1] | rw [h2]); replace H0 := (hb1.block _ (lt_heap H0)).trans H0; replace H1 := (hb1.block _ (lt_heap H1)).trans H1; replace hB := below_on hB hb1; clear hb1 xa0 xa1 xa2 fa0 fa1 fa2 xb0 xb1 xb2 fb0 fb1 fb2; obtain ⟨xa0, xa1, xa2, fa0, fa1, fa2⟩ := three_cells H0; obtain ⟨xb0, xb1, xb2, fb0, fb1, fb2⟩ := three_cells H1) | (go_at_call 68; (with_reducible refine (object_any _ _ _ _).mono ?_); rintro e w1 ⟨rfl, hb1⟩; rw [hr]; replace H0 := (hb1.block _ (lt_heap H0)).trans H0; replace H1 := (hb1.block _ (lt_heap H1)).trans H1; replace hB := below_on hB hb1; clear hb1 xa0 xa1 xa2 fa0 fa1 fa2 xb0 xb1 xb2 fb0 fb1 fb2; obtain ⟨xa0, xa1, xa2, fa0, fa1, fa2⟩ := three_cells H0; obtain ⟨xb0, xb1, xb2, fb0, fb1, fb2⟩ := three_cells H1))
  all_goals (go_ret; exact ⟨rfl, hB⟩)
set_option maxRecDepth 100000 in
set_option maxHeartbeats 4000000 in
theorem rta_9r (V : Value) (d : Int) (s1 s2 : ByteArray) (w : World) (hz1 : s1.size ≤ 9223372036854775807) (hz2 : s2.size ≤ 9223372036854775807) (h1 : validB d 76 s1 = true) (h2 : validB d 76 s2 = true) (hE : tyE (TY.mk d 76 s1) (TY.mk d 76 s2) = false) (ht : (s2.toList == rootL) = true) (nz : ¬ d = 0) (r q : Bool) (KI : ∀ W, Below w.heap.size w W → Calls Tryd.prog 24 #[V, .string s1, .string s2] W fun e w' => e = .returned (.bool r) ∧ Below W.heap.size W w') (KA : ∀ W, Below w.heap.size w W → Calls Tryd.prog 137 #[V, .string s2] W fun e w' => e = .returned (.bool q) ∧ Below W.heap.size W w') :
    Calls Tryd.prog 117 #[V, .agg #[.int .i64 d, .int .u8 76, .string s1], .agg #[.int .i64 d, .int .u8 76, .string s2]] w fun e w' => e = .returned (.bool (r || q)) ∧ Below w.heap.size w w' := by
  have e1 := fun w => ty_eqP hE w
  cases r
  all_goals
    go_enter Tryd.func117, Tryd.ntmps117
    go_upto_region 1 with fail
    obtain ⟨H0, H1, hB⟩ := two_laid w (.cells #[.int .i64 d, .int .u8 76, .string s1] 41) (.cells #[.int .i64 d, .int .u8 76, .string s2] 41)
    generalize (w.alloc (.cells #[.int .i64 d, .int .u8 76, .string s1] 41)).alloc (.cells #[.int .i64 d, .int .u8 76, .string s2] 41) = W at H0 H1 hB ⊢
    obtain ⟨xa0, xa1, xa2, fa0, fa1, fa2⟩ := three_cells H0; obtain ⟨xb0, xb1, xb2, fb0, fb1, fb2⟩ := three_cells H1
    go_wp2_with (first | (go_at_call 67; (with_reducible refine (rvalid_any _ _ _ (by assumption) _).mono ?_); rintro e w1 ⟨rfl, hb1⟩; (first | rw [h1] | rw [h2]); replace H0 := (hb1.block _ (lt_heap H0)).trans H0; replace H1 := (hb1.block _ (lt_heap H1)).trans H1; replace hB := below_on hB hb1; clear hb1 xa0 xa1 xa2 fa0 fa1 fa2 xb0 xb1 xb2 fb0 fb1 fb2; obtain ⟨xa0, xa1, xa2, fa0, fa1, fa2⟩ := three_cells H0; obtain ⟨xb0, xb1, xb2, fb0, fb1, fb2⟩ := three_cells H1) | (go_at_call 68; (with_reducible refine (object_any _ _ _ _).mono ?_); rintro e w1 ⟨rfl, hb1⟩; rw [show (decide (0 < d) || ((76 : Int) == 76)) = true by simp]; replace H0 := (hb1.block _ (lt_heap H0)).trans H0; replace H1 := (hb1.block _ (lt_heap H1)).trans H1; replace hB := below_on hB hb1; clear hb1 xa0 xa1 xa2 fa0 fa1 fa2 xb0 xb1 xb2 fb0 fb1 fb2; obtain ⟨xa0, xa1, xa2, fa0, fa1, fa2⟩ := three_cells H0; obtain ⟨xb0, xb1, xb2, fb0, fb1, fb2⟩ := three_cells H1) | (go_at_call 24; (with_reducible refine (KI _ hB).mono ?_); rintro e w1 ⟨rfl, hb1⟩; replace H0 := (hb1.block _ (lt_heap H0)).trans H0; replace H1 := (hb1.block _ (lt_heap H1)).trans H1; replace hB := below_on hB hb1; clear hb1 xa0 xa1 xa2 fa0 fa1 fa2 xb0 xb1 xb2 fb0 fb1 fb2; obtain ⟨xa0, xa1, xa2, fa0, fa1, fa2⟩ := three_cells H0; obtain ⟨xb0, xb1, xb2, fb0, fb1, fb2⟩ := three_cells H1) | (go_at_call 137; (with_reducible refine (KA _ hB).mono ?_); rintro e w1 ⟨rfl, hb1⟩; replace H0 := (hb1.block _ (lt_heap H0)).trans H0; replace H1 := (hb1.block _ (lt_heap H1)).trans H1; replace hB := below_on hB hb1; clear hb1 xa0 xa1 xa2 fa0 fa1 fa2 xb0 xb1 xb2 fb0 fb1 fb2; obtain ⟨xa0, xa1, xa2, fa0, fa1, fa2⟩ := three_cells H0; obtain ⟨xb0, xb1, xb2, fb0, fb1, fb2⟩ := three_cells H1))
    all_goals (go_ret; exact ⟨rfl, hB⟩)
set_option maxRecDepth 100000 in
set_option maxHeartbeats 4000000 in
theorem rta_9xr (V : Value) (b1 d : Int) (s1 s2 : ByteArray) (w : World) (hz1 : s1.size ≤ 9223372036854775807) (hz2 : s2.size ≤ 9223372036854775807) (h1 : validB d b1 s1 = true) (h2 : validB d 76 s2 = true) (n1 : ¬ b1 = 86) (n3 : ¬ b1 = 76) (hE : tyE (TY.mk d b1 s1) (TY.mk d 76 s2) = false) (hr : (decide (0 < d) || (b1 == 76)) = true) (ht : (s2.toList == rootL) = true) (nz : ¬ d = 0) :
    Calls Tryd.prog 117 #[V, .agg #[.int .i64 d, .int .u8 b1, .string s1], .agg #[.int .i64 d, .int .u8 76, .string s2]] w fun e w' => e = .returned (.bool false) ∧ Below w.heap.size w w' := by
  have e1 := fun w => ty_eqP hE w
  go_enter Tryd.func117, Tryd.ntmps117
  go_upto_region 1 with fail
  obtain ⟨H0, H1, hB⟩ := two_laid w (.cells #[.int .i64 d, .int .u8 b1, .string s1] 41) (.cells #[.int .i64 d, .int .u8 76, .string s2] 41)
  generalize (w.alloc (.cells #[.int .i64 d, .int .u8 b1, .string s1] 41)).alloc (.cells #[.int .i64 d, .int .u8 76, .string s2] 41) = W at H0 H1 hB ⊢
  obtain ⟨xa0, xa1, xa2, fa0, fa1, fa2⟩ := three_cells H0; obtain ⟨xb0, xb1, xb2, fb0, fb1, fb2⟩ := three_cells H1
  go_wp2_with (first | (go_at_call 67; (with_reducible refine (rvalid_any _ _ _ (by assumption) _).mono ?_); rintro e w1 ⟨rfl, hb1⟩; (first | rw [h1] | rw [h2]); replace H0 := (hb1.block _ (lt_heap H0)).trans H0; replace H1 := (hb1.block _ (lt_heap H1)).trans H1; replace hB := below_on hB hb1; clear hb1 xa0 xa1 xa2 fa0 fa1 fa2 xb0 xb1 xb2 fb0 fb1 fb2; obtain ⟨xa0, xa1, xa2, fa0, fa1, fa2⟩ := three_cells H0; obtain ⟨xb0, xb1, xb2, fb0, fb1, fb2⟩ := three_cells H1) | (go_at_call 68; (with_reducible refine (object_any _ _ _ _).mono ?_); rintro e w1 ⟨rfl, hb1⟩; rw [hr]; replace H0 := (hb1.block _ (lt_heap H0)).trans H0; replace H1 := (hb1.block _ (lt_heap H1)).trans H1; replace hB := below_on hB hb1; clear hb1 xa0 xa1 xa2 fa0 fa1 fa2 xb0 xb1 xb2 fb0 fb1 fb2; obtain ⟨xa0, xa1, xa2, fa0, fa1, fa2⟩ := three_cells H0; obtain ⟨xb0, xb1, xb2, fb0, fb1, fb2⟩ := three_cells H1))
  all_goals (go_ret; exact ⟨rfl, hB⟩)
set_option maxRecDepth 100000 in
set_option maxHeartbeats 4000000 in
theorem rta_10rg (V : Value) (b1 d1 d2 : Int) (s1 s2 : ByteArray) (w : World) (hz1 : s1.size ≤ 9223372036854775807) (hz2 : s2.size ≤ 9223372036854775807) (h1 : validB d1 b1 s1 = true) (h2 : validB d2 76 s2 = true) (n1 : ¬ b1 = 86) (hE : tyE (TY.mk d1 b1 s1) (TY.mk d2 76 s2) = false) (hr : (decide (0 < d1) || (b1 == 76)) = true) (ht : (s2.toList == rootL) = true) (nz : ¬ d2 = 0) (nd : ¬ d1 = d2) (hg : d2 < d1) :
    Calls Tryd.prog 117 #[V, .agg #[.int .i64 d1, .int .u8 b1, .string s1], .agg #[.int .i64 d2, .int .u8 76, .string s2]] w fun e w' => e = .returned (.bool true) ∧ Below w.heap.size w w' := by
  have e1 := fun w => ty_eqP hE w
  go_enter Tryd.func117, Tryd.ntmps117
  go_upto_region 1 with fail
  obtain ⟨H0, H1, hB⟩ := two_laid w (.cells #[.int .i64 d1, .int .u8 b1, .string s1] 41) (.cells #[.int .i64 d2, .int .u8 76, .string s2] 41)
  generalize (w.alloc (.cells #[.int .i64 d1, .int .u8 b1, .string s1] 41)).alloc (.cells #[.int .i64 d2, .int .u8 76, .string s2] 41) = W at H0 H1 hB ⊢
  obtain ⟨xa0, xa1, xa2, fa0, fa1, fa2⟩ := three_cells H0; obtain ⟨xb0, xb1, xb2, fb0, fb1, fb2⟩ := three_cells H1
  go_wp2_with (first | (go_at_call 67; (with_reducible refine (rvalid_any _ _ _ (by assumption) _).mono ?_); rintro e w1 ⟨rfl, hb1⟩; (first | rw [h1] | rw [h2]); replace H0 := (hb1.block _ (lt_heap H0)).trans H0; replace H1 := (hb1.block _ (lt_heap H1)).trans H1; replace hB := below_on hB hb1; clear hb1 xa0 xa1 xa2 fa0 fa1 fa2 xb0 xb1 xb2 fb0 fb1 fb2; obtain ⟨xa0, xa1, xa2, fa0, fa1, fa2⟩ := three_cells H0; obtain ⟨xb0, xb1, xb2, fb0, fb1, fb2⟩ := three_cells H1) | (go_at_call 68; (with_reducible refine (object_any _ _ _ _).mono ?_); rintro e w1 ⟨rfl, hb1⟩; rw [hr]; replace H0 := (hb1.block _ (lt_heap H0)).trans H0; replace H1 := (hb1.block _ (lt_heap H1)).trans H1; replace hB := below_on hB hb1; clear hb1 xa0 xa1 xa2 fa0 fa1 fa2 xb0 xb1 xb2 fb0 fb1 fb2; obtain ⟨xa0, xa1, xa2, fa0, fa1, fa2⟩ := three_cells H0; obtain ⟨xb0, xb1, xb2, fb0, fb1, fb2⟩ := three_cells H1))
  all_goals (go_ret; exact ⟨rfl, hB⟩)
set_option maxRecDepth 100000 in
set_option maxHeartbeats 4000000 in
theorem rta_10rl (V : Value) (b1 d1 d2 : Int) (s1 s2 : ByteArray) (w : World) (hz1 : s1.size ≤ 9223372036854775807) (hz2 : s2.size ≤ 9223372036854775807) (h1 : validB d1 b1 s1 = true) (h2 : validB d2 76 s2 = true) (n1 : ¬ b1 = 86) (hE : tyE (TY.mk d1 b1 s1) (TY.mk d2 76 s2) = false) (hr : (decide (0 < d1) || (b1 == 76)) = true) (ht : (s2.toList == rootL) = true) (nz : ¬ d2 = 0) (nd : ¬ d1 = d2) (hg : ¬ d2 < d1) :
    Calls Tryd.prog 117 #[V, .agg #[.int .i64 d1, .int .u8 b1, .string s1], .agg #[.int .i64 d2, .int .u8 76, .string s2]] w fun e w' => e = .returned (.bool false) ∧ Below w.heap.size w w' := by
  have e1 := fun w => ty_eqP hE w
  go_enter Tryd.func117, Tryd.ntmps117
  go_upto_region 1 with fail
  obtain ⟨H0, H1, hB⟩ := two_laid w (.cells #[.int .i64 d1, .int .u8 b1, .string s1] 41) (.cells #[.int .i64 d2, .int .u8 76, .string s2] 41)
  generalize (w.alloc (.cells #[.int .i64 d1, .int .u8 b1, .string s1] 41)).alloc (.cells #[.int .i64 d2, .int .u8 76, .string s2] 41) = W at H0 H1 hB ⊢
  obtain ⟨xa0, xa1, xa2, fa0, fa1, fa2⟩ := three_cells H0; obtain ⟨xb0, xb1, xb2, fb0, fb1, fb2⟩ := three_cells H1
  go_wp2_with (first | (go_at_call 67; (with_reducible refine (rvalid_any _ _ _ (by assumption) _).mono ?_); rintro e w1 ⟨rfl, hb1⟩; (first | rw [h1] | rw [h2]); replace H0 := (hb1.block _ (lt_heap H0)).trans H0; replace H1 := (hb1.block _ (lt_heap H1)).trans H1; replace hB := below_on hB hb1; clear hb1 xa0 xa1 xa2 fa0 fa1 fa2 xb0 xb1 xb2 fb0 fb1 fb2; obtain ⟨xa0, xa1, xa2, fa0, fa1, fa2⟩ := three_cells H0; obtain ⟨xb0, xb1, xb2, fb0, fb1, fb2⟩ := three_cells H1) | (go_at_call 68; (with_reducible refine (object_any _ _ _ _).mono ?_); rintro e w1 ⟨rfl, hb1⟩; rw [hr]; replace H0 := (hb1.block _ (lt_heap H0)).trans H0; replace H1 := (hb1.block _ (lt_heap H1)).trans H1; replace hB := below_on hB hb1; clear hb1 xa0 xa1 xa2 fa0 fa1 fa2 xb0 xb1 xb2 fb0 fb1 fb2; obtain ⟨xa0, xa1, xa2, fa0, fa1, fa2⟩ := three_cells H0; obtain ⟨xb0, xb1, xb2, fb0, fb1, fb2⟩ := three_cells H1))
  all_goals (go_ret; exact ⟨rfl, hB⟩)
set_option maxRecDepth 100000 in
set_option maxHeartbeats 4000000 in
theorem rta_9n (V : Value) (d : Int) (s1 s2 : ByteArray) (w : World) (hz1 : s1.size ≤ 9223372036854775807) (hz2 : s2.size ≤ 9223372036854775807) (h1 : validB d 76 s1 = true) (h2 : validB d 76 s2 = true) (hE : tyE (TY.mk d 76 s1) (TY.mk d 76 s2) = false) (ht : (s2.toList == rootL) = false) (r q : Bool) (KI : ∀ W, Below w.heap.size w W → Calls Tryd.prog 24 #[V, .string s1, .string s2] W fun e w' => e = .returned (.bool r) ∧ Below W.heap.size W w') (KA : ∀ W, Below w.heap.size w W → Calls Tryd.prog 137 #[V, .string s2] W fun e w' => e = .returned (.bool q) ∧ Below W.heap.size W w') :
    Calls Tryd.prog 117 #[V, .agg #[.int .i64 d, .int .u8 76, .string s1], .agg #[.int .i64 d, .int .u8 76, .string s2]] w fun e w' => e = .returned (.bool (r || q)) ∧ Below w.heap.size w w' := by
  have e1 := fun w => ty_eqP hE w
  cases r
  all_goals
    go_enter Tryd.func117, Tryd.ntmps117
    go_upto_region 1 with fail
    obtain ⟨H0, H1, hB⟩ := two_laid w (.cells #[.int .i64 d, .int .u8 76, .string s1] 41) (.cells #[.int .i64 d, .int .u8 76, .string s2] 41)
    generalize (w.alloc (.cells #[.int .i64 d, .int .u8 76, .string s1] 41)).alloc (.cells #[.int .i64 d, .int .u8 76, .string s2] 41) = W at H0 H1 hB ⊢
    obtain ⟨xa0, xa1, xa2, fa0, fa1, fa2⟩ := three_cells H0; obtain ⟨xb0, xb1, xb2, fb0, fb1, fb2⟩ := three_cells H1
    go_wp2_with (first | (go_at_call 67; (with_reducible refine (rvalid_any _ _ _ (by assumption) _).mono ?_); rintro e w1 ⟨rfl, hb1⟩; (first | rw [h1] | rw [h2]); replace H0 := (hb1.block _ (lt_heap H0)).trans H0; replace H1 := (hb1.block _ (lt_heap H1)).trans H1; replace hB := below_on hB hb1; clear hb1 xa0 xa1 xa2 fa0 fa1 fa2 xb0 xb1 xb2 fb0 fb1 fb2; obtain ⟨xa0, xa1, xa2, fa0, fa1, fa2⟩ := three_cells H0; obtain ⟨xb0, xb1, xb2, fb0, fb1, fb2⟩ := three_cells H1) | (go_at_call 68; (with_reducible refine (object_any _ _ _ _).mono ?_); rintro e w1 ⟨rfl, hb1⟩; rw [show (decide (0 < d) || ((76 : Int) == 76)) = true by simp]; replace H0 := (hb1.block _ (lt_heap H0)).trans H0; replace H1 := (hb1.block _ (lt_heap H1)).trans H1; replace hB := below_on hB hb1; clear hb1 xa0 xa1 xa2 fa0 fa1 fa2 xb0 xb1 xb2 fb0 fb1 fb2; obtain ⟨xa0, xa1, xa2, fa0, fa1, fa2⟩ := three_cells H0; obtain ⟨xb0, xb1, xb2, fb0, fb1, fb2⟩ := three_cells H1) | (go_at_call 24; (with_reducible refine (KI _ hB).mono ?_); rintro e w1 ⟨rfl, hb1⟩; replace H0 := (hb1.block _ (lt_heap H0)).trans H0; replace H1 := (hb1.block _ (lt_heap H1)).trans H1; replace hB := below_on hB hb1; clear hb1 xa0 xa1 xa2 fa0 fa1 fa2 xb0 xb1 xb2 fb0 fb1 fb2; obtain ⟨xa0, xa1, xa2, fa0, fa1, fa2⟩ := three_cells H0; obtain ⟨xb0, xb1, xb2, fb0, fb1, fb2⟩ := three_cells H1) | (go_at_call 137; (with_reducible refine (KA _ hB).mono ?_); rintro e w1 ⟨rfl, hb1⟩; replace H0 := (hb1.block _ (lt_heap H0)).trans H0; replace H1 := (hb1.block _ (lt_heap H1)).trans H1; replace hB := below_on hB hb1; clear hb1 xa0 xa1 xa2 fa0 fa1 fa2 xb0 xb1 xb2 fb0 fb1 fb2; obtain ⟨xa0, xa1, xa2, fa0, fa1, fa2⟩ := three_cells H0; obtain ⟨xb0, xb1, xb2, fb0, fb1, fb2⟩ := three_cells H1))
    all_goals (go_ret; exact ⟨rfl, hB⟩)
set_option maxRecDepth 100000 in
set_option maxHeartbeats 4000000 in
theorem rta_9xn (V : Value) (b1 d : Int) (s1 s2 : ByteArray) (w : World) (hz1 : s1.size ≤ 9223372036854775807) (hz2 : s2.size ≤ 9223372036854775807) (h1 : validB d b1 s1 = true) (h2 : validB d 76 s2 = true) (n1 : ¬ b1 = 86) (n3 : ¬ b1 = 76) (hE : tyE (TY.mk d b1 s1) (TY.mk d 76 s2) = false) (hr : (decide (0 < d) || (b1 == 76)) = true) (ht : (s2.toList == rootL) = false) :
    Calls Tryd.prog 117 #[V, .agg #[.int .i64 d, .int .u8 b1, .string s1], .agg #[.int .i64 d, .int .u8 76, .string s2]] w fun e w' => e = .returned (.bool false) ∧ Below w.heap.size w w' := by
  have e1 := fun w => ty_eqP hE w
  go_enter Tryd.func117, Tryd.ntmps117
  go_upto_region 1 with fail
  obtain ⟨H0, H1, hB⟩ := two_laid w (.cells #[.int .i64 d, .int .u8 b1, .string s1] 41) (.cells #[.int .i64 d, .int .u8 76, .string s2] 41)
  generalize (w.alloc (.cells #[.int .i64 d, .int .u8 b1, .string s1] 41)).alloc (.cells #[.int .i64 d, .int .u8 76, .string s2] 41) = W at H0 H1 hB ⊢
  obtain ⟨xa0, xa1, xa2, fa0, fa1, fa2⟩ := three_cells H0; obtain ⟨xb0, xb1, xb2, fb0, fb1, fb2⟩ := three_cells H1
  go_wp2_with (first | (go_at_call 67; (with_reducible refine (rvalid_any _ _ _ (by assumption) _).mono ?_); rintro e w1 ⟨rfl, hb1⟩; (first | rw [h1] | rw [h2]); replace H0 := (hb1.block _ (lt_heap H0)).trans H0; replace H1 := (hb1.block _ (lt_heap H1)).trans H1; replace hB := below_on hB hb1; clear hb1 xa0 xa1 xa2 fa0 fa1 fa2 xb0 xb1 xb2 fb0 fb1 fb2; obtain ⟨xa0, xa1, xa2, fa0, fa1, fa2⟩ := three_cells H0; obtain ⟨xb0, xb1, xb2, fb0, fb1, fb2⟩ := three_cells H1) | (go_at_call 68; (with_reducible refine (object_any _ _ _ _).mono ?_); rintro e w1 ⟨rfl, hb1⟩; rw [hr]; replace H0 := (hb1.block _ (lt_heap H0)).trans H0; replace H1 := (hb1.block _ (lt_heap H1)).trans H1; replace hB := below_on hB hb1; clear hb1 xa0 xa1 xa2 fa0 fa1 fa2 xb0 xb1 xb2 fb0 fb1 fb2; obtain ⟨xa0, xa1, xa2, fa0, fa1, fa2⟩ := three_cells H0; obtain ⟨xb0, xb1, xb2, fb0, fb1, fb2⟩ := three_cells H1))
  all_goals (go_ret; exact ⟨rfl, hB⟩)
set_option maxRecDepth 100000 in
set_option maxHeartbeats 4000000 in
theorem rta_10ng (V : Value) (b1 d1 d2 : Int) (s1 s2 : ByteArray) (w : World) (hz1 : s1.size ≤ 9223372036854775807) (hz2 : s2.size ≤ 9223372036854775807) (h1 : validB d1 b1 s1 = true) (h2 : validB d2 76 s2 = true) (n1 : ¬ b1 = 86) (hE : tyE (TY.mk d1 b1 s1) (TY.mk d2 76 s2) = false) (hr : (decide (0 < d1) || (b1 == 76)) = true) (ht : (s2.toList == rootL) = false) (nd : ¬ d1 = d2) (hg : d2 < d1) :
    Calls Tryd.prog 117 #[V, .agg #[.int .i64 d1, .int .u8 b1, .string s1], .agg #[.int .i64 d2, .int .u8 76, .string s2]] w fun e w' => e = .returned (.bool false) ∧ Below w.heap.size w w' := by
  have e1 := fun w => ty_eqP hE w
  go_enter Tryd.func117, Tryd.ntmps117
  go_upto_region 1 with fail
  obtain ⟨H0, H1, hB⟩ := two_laid w (.cells #[.int .i64 d1, .int .u8 b1, .string s1] 41) (.cells #[.int .i64 d2, .int .u8 76, .string s2] 41)
  generalize (w.alloc (.cells #[.int .i64 d1, .int .u8 b1, .string s1] 41)).alloc (.cells #[.int .i64 d2, .int .u8 76, .string s2] 41) = W at H0 H1 hB ⊢
  obtain ⟨xa0, xa1, xa2, fa0, fa1, fa2⟩ := three_cells H0; obtain ⟨xb0, xb1, xb2, fb0, fb1, fb2⟩ := three_cells H1
  go_wp2_with (first | (go_at_call 67; (with_reducible refine (rvalid_any _ _ _ (by assumption) _).mono ?_); rintro e w1 ⟨rfl, hb1⟩; (first | rw [h1] | rw [h2]); replace H0 := (hb1.block _ (lt_heap H0)).trans H0; replace H1 := (hb1.block _ (lt_heap H1)).trans H1; replace hB := below_on hB hb1; clear hb1 xa0 xa1 xa2 fa0 fa1 fa2 xb0 xb1 xb2 fb0 fb1 fb2; obtain ⟨xa0, xa1, xa2, fa0, fa1, fa2⟩ := three_cells H0; obtain ⟨xb0, xb1, xb2, fb0, fb1, fb2⟩ := three_cells H1) | (go_at_call 68; (with_reducible refine (object_any _ _ _ _).mono ?_); rintro e w1 ⟨rfl, hb1⟩; rw [hr]; replace H0 := (hb1.block _ (lt_heap H0)).trans H0; replace H1 := (hb1.block _ (lt_heap H1)).trans H1; replace hB := below_on hB hb1; clear hb1 xa0 xa1 xa2 fa0 fa1 fa2 xb0 xb1 xb2 fb0 fb1 fb2; obtain ⟨xa0, xa1, xa2, fa0, fa1, fa2⟩ := three_cells H0; obtain ⟨xb0, xb1, xb2, fb0, fb1, fb2⟩ := three_cells H1))
  all_goals (go_ret; exact ⟨rfl, hB⟩)
set_option maxRecDepth 100000 in
set_option maxHeartbeats 4000000 in
theorem rta_10nl (V : Value) (b1 d1 d2 : Int) (s1 s2 : ByteArray) (w : World) (hz1 : s1.size ≤ 9223372036854775807) (hz2 : s2.size ≤ 9223372036854775807) (h1 : validB d1 b1 s1 = true) (h2 : validB d2 76 s2 = true) (n1 : ¬ b1 = 86) (hE : tyE (TY.mk d1 b1 s1) (TY.mk d2 76 s2) = false) (hr : (decide (0 < d1) || (b1 == 76)) = true) (ht : (s2.toList == rootL) = false) (nd : ¬ d1 = d2) (hg : ¬ d2 < d1) :
    Calls Tryd.prog 117 #[V, .agg #[.int .i64 d1, .int .u8 b1, .string s1], .agg #[.int .i64 d2, .int .u8 76, .string s2]] w fun e w' => e = .returned (.bool false) ∧ Below w.heap.size w w' := by
  have e1 := fun w => ty_eqP hE w
  go_enter Tryd.func117, Tryd.ntmps117
  go_upto_region 1 with fail
  obtain ⟨H0, H1, hB⟩ := two_laid w (.cells #[.int .i64 d1, .int .u8 b1, .string s1] 41) (.cells #[.int .i64 d2, .int .u8 76, .string s2] 41)
  generalize (w.alloc (.cells #[.int .i64 d1, .int .u8 b1, .string s1] 41)).alloc (.cells #[.int .i64 d2, .int .u8 76, .string s2] 41) = W at H0 H1 hB ⊢
  obtain ⟨xa0, xa1, xa2, fa0, fa1, fa2⟩ := three_cells H0; obtain ⟨xb0, xb1, xb2, fb0, fb1, fb2⟩ := three_cells H1
  go_wp2_with (first | (go_at_call 67; (with_reducible refine (rvalid_any _ _ _ (by assumption) _).mono ?_); rintro e w1 ⟨rfl, hb1⟩; (first | rw [h1] | rw [h2]); replace H0 := (hb1.block _ (lt_heap H0)).trans H0; replace H1 := (hb1.block _ (lt_heap H1)).trans H1; replace hB := below_on hB hb1; clear hb1 xa0 xa1 xa2 fa0 fa1 fa2 xb0 xb1 xb2 fb0 fb1 fb2; obtain ⟨xa0, xa1, xa2, fa0, fa1, fa2⟩ := three_cells H0; obtain ⟨xb0, xb1, xb2, fb0, fb1, fb2⟩ := three_cells H1) | (go_at_call 68; (with_reducible refine (object_any _ _ _ _).mono ?_); rintro e w1 ⟨rfl, hb1⟩; rw [hr]; replace H0 := (hb1.block _ (lt_heap H0)).trans H0; replace H1 := (hb1.block _ (lt_heap H1)).trans H1; replace hB := below_on hB hb1; clear hb1 xa0 xa1 xa2 fa0 fa1 fa2 xb0 xb1 xb2 fb0 fb1 fb2; obtain ⟨xa0, xa1, xa2, fa0, fa1, fa2⟩ := three_cells H0; obtain ⟨xb0, xb1, xb2, fb0, fb1, fb2⟩ := three_cells H1))
  all_goals (go_ret; exact ⟨rfl, hB⟩)
end Go.Proofs.YthifmcnemeiphaaDoor

/- Ms -/
/- Layer 17 with a hierarchy: TypeAssignable at every argument, in the package and in its reference. -/
namespace Go.Proofs.YthifmcnemeiphaaDoor
open Go.ChangeShapes Go.WideShapes Go.ChangeAt Go.RowKit Go.PlainAid Go.Maps
set_option linter.unusedSimpArgs false
set_option linter.unusedVariables false

/-- what a variable of the class or interface b takes, whatever is handed to it -/
def tkB (L : List CI) (b : ByteArray) : Bool := (b.toList == rootL) || (fB L b && (lkC L b).isI)
noncomputable def caB (L : List CI) (a b : ByteArray) : Bool := tkB L b || isV L a b
set_option maxRecDepth 100000 in
set_option maxHeartbeats 4000000 in
theorem cla_any (A : Option Addr) (n c : Nat) (L : List CI) (a b : ByteArray) (w : World) (hn : L.length = n) (hc : n ≤ 1000000) (h : CIs w w.heap.size A L) (ha : a.size ≤ 9223372036854775807) (hb : b.size ≤ 9223372036854775807) :
    Calls Tryd.prog 97 #[.slice A n c, .string a, .string b] w fun e w' => e = .returned (.bool (caB L a b)) ∧ Below w.heap.size w w' := by
  have HL := Lib.hid h
  have HN := Lib.hid hn
  have KL := Lib.hid (fun (W : World) (hW : Below w.heap.size w W) => lookup_any A n c L b W HN.out (by omega) (HL.out.up hW))
  have KI := Lib.hid (fun (W : World) (hW : Below w.heap.size w W) => sub_any A n c L a b W HN.out hc (HL.out.up hW) ha hb)
  clear h hn
  unfold caB tkB
  obtain ⟨x, hx⟩ : ∃ x, lkC L b = x := ⟨_, rfl⟩
  obtain ⟨f, hf⟩ : ∃ f, fB L b = f := ⟨_, rfl⟩
  obtain ⟨r, hr⟩ : ∃ r, isV L a b = r := ⟨_, rfl⟩
  rw [hx, hf] at KL ⊢
  rw [hr] at KI ⊢
  clear hx hf hr
  obtain ⟨xI, hI⟩ : ∃ y, x.isI = y := ⟨_, rfl⟩
  have HI := Lib.hid hI
  rw [hI]
  clear hI
  cases hb0 : (b.toList == rootL) with
  | true =>
    rw [Bool.true_or]
    go_enter Tryd.func97, Tryd.ntmps97
    go_wp2
    go_ret
    exact ⟨rfl, Below.refl _ _⟩
  | false =>
    rw [Bool.false_or]
    cases f
    all_goals cases xI
    all_goals
      go_enter Tryd.func97, Tryd.ntmps97
      go_upto_region 4 with (go_at_call 20; (with_reducible refine (KL.out _ (Below.refl _ _)).mono ?_); rintro e w1 ⟨rfl, hb1⟩; rw [HI.out])
      have H0 := World.alloc_heap_new w1 (.cells #[.string x.nm, .string x.su, .slice x.iA x.n x.c, .bool x.isI] 30)
      rw [HI.out] at H0
      have hB := below_al hb1 (.cells #[.string x.nm, .string x.su, .slice x.iA x.n x.c, .bool x.isI] 30)
      rw [HI.out] at hB
      first
        | generalize w1.alloc (.cells #[.string x.nm, .string x.su, .slice x.iA x.n x.c, .bool true] 30) = W at H0 hB ⊢
        | generalize w1.alloc (.cells #[.string x.nm, .string x.su, .slice x.iA x.n x.c, .bool false] 30) = W at H0 hB ⊢
      obtain ⟨⟨x0, x1, x2, x3⟩, _⟩ := four_cells H0
      go_wp2_with (go_at_call 23; (with_reducible refine (KI.out _ hB).mono ?_); rintro e w2 ⟨rfl, hb2⟩; replace hB := below_on hB hb2; clear hb2)
      go_ret
      exact ⟨rfl, hB⟩
set_option maxRecDepth 100000 in
set_option maxHeartbeats 4000000 in
theorem rany_any (A : Option Addr) (n c : Nat) (L : List CI) (b : ByteArray) (w : World) (hn : L.length = n) (hc : n ≤ 1000000) (h : CIs w w.heap.size A L) :
    Calls Tryd.prog 137 #[.slice A n c, .string b] w fun e w' => e = .returned (.bool (tkB L b)) ∧ Below w.heap.size w w' := by
  have KL := Lib.hid (rlookup_any A n c L b w hn (by omega) h)
  clear h hn
  unfold tkB
  obtain ⟨x, hx⟩ : ∃ x, lkC L b = x := ⟨_, rfl⟩
  obtain ⟨f, hf⟩ : ∃ f, fB L b = f := ⟨_, rfl⟩
  rw [hx, hf] at KL ⊢
  clear hx hf
  obtain ⟨xI, hI⟩ : ∃ y, x.isI = y := ⟨_, rfl⟩
  have HI := Lib.hid hI
  rw [hI]
  clear hI
  cases hb0 : (b.toList == rootL)
  all_goals cases f
  all_goals cases xI
  all_goals
    go_enter Tryd.func137, Tryd.ntmps137
    go_upto_region 2 with (go_at_call 21; (with_reducible refine (KL.out).mono ?_); rintro e w1 ⟨rfl, hb1⟩; rw [HI.out])
    have H0 := World.alloc_heap_new w1 (.cells #[.string x.nm, .string x.su, .slice x.iA x.n x.c, .bool x.isI] 30)
    rw [HI.out] at H0
    have hB := below_al hb1 (.cells #[.string x.nm, .string x.su, .slice x.iA x.n x.c, .bool x.isI] 30)
    rw [HI.out] at hB
    first
      | generalize w1.alloc (.cells #[.string x.nm, .string x.su, .slice x.iA x.n x.c, .bool true] 30) = W at H0 hB ⊢
      | generalize w1.alloc (.cells #[.string x.nm, .string x.su, .slice x.iA x.n x.c, .bool false] 30) = W at H0 hB ⊢
    obtain ⟨⟨x0, x1, x2, x3⟩, _⟩ := four_cells H0
    go_wp2
    go_ret
    exact ⟨rfl, hB⟩
noncomputable def taB (L : List CI) (a b : TY) : Bool :=
  if validB a.d a.b a.s = false then false else if validB b.d b.b b.s = false then false else if a.b = 86 then false else if b.b = 86 then false
  else if tyE a b = true then true else if (decide (0 < a.d) || (a.b == 76)) = false then false else if ¬ b.b = 76 then false
  else if (b.s.toList == rootL) = true ∧ b.d = 0 then true
  else if a.d = b.d then (if a.b = 76 then caB L a.s b.s else false)
  else if b.d < a.d ∧ (b.s.toList == rootL) = true then true else false
/-- TypeAssignable of the package -/
theorem mta_any (A : Option Addr) (n c : Nat) (L : List CI) (a b : TY) (w : World) (hn : L.length = n) (hc : n ≤ 1000000) (h : CIs w w.heap.size A L) (ha : a.s.size ≤ 9223372036854775807) (hb : b.s.size ≤ 9223372036854775807) :
    Calls Tryd.prog 63 #[.slice A n c, (Value.agg #[Value.int IntKind.i64 (TY.d a), Value.int IntKind.u8 (TY.b a), Value.string (TY.s a)]), (Value.agg #[Value.int IntKind.i64 (TY.d b), Value.int IntKind.u8 (TY.b b), Value.string (TY.s b)])] w fun e w' => e = .returned (.bool (taB L a b)) ∧ Below w.heap.size w w' := by
  obtain ⟨d1, b1, s1⟩ := a
  obtain ⟨d2, b2, s2⟩ := b
  unfold taB
  dsimp only
  cases h1 : validB d1 b1 s1 with
  | false => rw [if_pos rfl]; exact mta_1 _ b1 b2 d1 d2 s1 s2 w ha hb h1
  | true =>
    rw [if_neg (show ¬ true = false by decide)]
    cases h2 : validB d2 b2 s2 with
    | false => rw [if_pos rfl]; exact mta_2 _ b1 b2 d1 d2 s1 s2 w ha hb h1 h2
    | true =>
      rw [if_neg (show ¬ true = false by decide)]
      by_cases n1 : b1 = 86
      · subst n1; rw [if_pos rfl]; exact mta_3 _ b2 d1 d2 s1 s2 w ha hb h1 h2
      · rw [if_neg n1]
        by_cases n2 : b2 = 86
        · subst n2; rw [if_pos rfl]; exact mta_4 _ b1 d1 d2 s1 s2 w ha hb h1 h2 n1
        · rw [if_neg n2]
          cases hE : tyE (TY.mk d1 b1 s1) (TY.mk d2 b2 s2) with
          | true => rw [if_pos rfl]; exact mta_5 _ b1 b2 d1 d2 s1 s2 w ha hb h1 h2 n1 n2 hE
          | false =>
            rw [if_neg (show ¬ false = true by decide)]
            cases hr : (decide (0 < d1) || (b1 == 76)) with
            | false => rw [if_pos rfl]; exact mta_6 _ b1 b2 d1 d2 s1 s2 w ha hb h1 h2 n1 n2 hE hr
            | true =>
              rw [if_neg (show ¬ true = false by decide)]
              by_cases n3 : b2 = 76
              · subst n3
                rw [if_neg (fun h => h rfl)]
                by_cases hz : d2 = 0 ∧ (s2.toList == rootL) = true
                · obtain ⟨rfl, ht⟩ := hz
                  rw [if_pos ⟨ht, rfl⟩]
                  exact mta_8 _ b1 d1 s1 s2 w ha hb h1 h2 n1 hE hr ht
                · rw [if_neg (fun h => hz ⟨h.2, h.1⟩)]
                  by_cases hd : d1 = d2
                  · subst hd
                    rw [if_pos rfl]
                    by_cases n4 : b1 = 76
                    · subst n4
                      rw [if_pos rfl]
                      have KC := fun (W : World) (hW : Below w.heap.size w W) => cla_any A n c L s1 s2 W hn hc (h.up hW) ha hb
                      cases ht : (s2.toList == rootL) with
                      | true => exact mta_9r _ d1 s1 s2 w ha hb h1 h2 hE ht (fun e => hz ⟨e, ht⟩) _ KC
                      | false => exact mta_9n _ d1 s1 s2 w ha hb h1 h2 hE ht _ KC
                    · rw [if_neg n4]
                      cases ht : (s2.toList == rootL) with
                      | true => exact mta_9xr _ b1 d1 s1 s2 w ha hb h1 h2 n1 n4 hE hr ht (fun e => hz ⟨e, ht⟩)
                      | false => exact mta_9xn _ b1 d1 s1 s2 w ha hb h1 h2 n1 n4 hE hr ht
                  · rw [if_neg hd]
                    cases ht : (s2.toList == rootL) with
                    | true =>
                      by_cases hg : d2 < d1
                      · rw [if_pos ⟨hg, rfl⟩]; exact mta_10rg _ b1 d1 d2 s1 s2 w ha hb h1 h2 n1 hE hr ht (fun e => hz ⟨e, ht⟩) hd hg
                      · rw [if_neg (fun h => hg h.1)]; exact mta_10rl _ b1 d1 d2 s1 s2 w ha hb h1 h2 n1 hE hr ht (fun e => hz ⟨e, ht⟩) hd hg
                    | false =>
                      rw [if_neg (fun h => by cases h.2)]
                      by_cases hg : d2 < d1
                      · exact mta_10ng _ b1 d1 d2 s1 s2 w ha hb h1 h2 n1 hE hr ht hd hg
                      · exact mta_10nl _ b1 d1 d2 s1 s2 w ha hb h1 h2 n1 hE hr ht hd hg
              · rw [if_pos n3]; exact mta_7 _ b1 b2 d1 d2 s1 s2 w ha hb h1 h2 n1 n2 hE hr n3
/-- TypeAssignable of the reference -/
theorem rta_any (A : Option Addr) (n c : Nat) (L : List CI) (a b : TY) (w : World) (hn : L.length = n) (hc : n ≤ 1000000) (hs : Mid L) (hv : VH L) (h : CIs w w.heap.size A L) (ha : a.s.size ≤ 9223372036854775807) (hb : b.s.size ≤ 9223372036854775807) :
    Calls Tryd.prog 117 #[.slice A n c, (Value.agg #[Value.int IntKind.i64 (TY.d a), Value.int IntKind.u8 (TY.b a), Value.string (TY.s a)]), (Value.agg #[Value.int IntKind.i64 (TY.d b), Value.int IntKind.u8 (TY.b b), Value.string (TY.s b)])] w fun e w' => e = .returned (.bool (taB L a b)) ∧ Below w.heap.size w w' := by
  obtain ⟨d1, b1, s1⟩ := a
  obtain ⟨d2, b2, s2⟩ := b
  unfold taB
  dsimp only
  cases h1 : validB d1 b1 s1 with
  | false => rw [if_pos rfl]; exact rta_1 _ b1 b2 d1 d2 s1 s2 w ha hb h1
  | true =>
    rw [if_neg (show ¬ true = false by decide)]
    cases h2 : validB d2 b2 s2 with
    | false => rw [if_pos rfl]; exact rta_2 _ b1 b2 d1 d2 s1 s2 w ha hb h1 h2
    | true =>
      rw [if_neg (show ¬ true = false by decide)]
      by_cases n1 : b1 = 86
      · subst n1; rw [if_pos rfl]; exact rta_3 _ b2 d1 d2 s1 s2 w ha hb h1 h2
      · rw [if_neg n1]
        by_cases n2 : b2 = 86
        · subst n2; rw [if_pos rfl]; exact rta_4 _ b1 d1 d2 s1 s2 w ha hb h1 h2 n1
        · rw [if_neg n2]
          cases hE : tyE (TY.mk d1 b1 s1) (TY.mk d2 b2 s2) with
          | true => rw [if_pos rfl]; exact rta_5 _ b1 b2 d1 d2 s1 s2 w ha hb h1 h2 n1 n2 hE
          | false =>
            rw [if_neg (show ¬ false = true by decide)]
            cases hr : (decide (0 < d1) || (b1 == 76)) with
            | false => rw [if_pos rfl]; exact rta_6 _ b1 b2 d1 d2 s1 s2 w ha hb h1 h2 n1 n2 hE hr
            | true =>
              rw [if_neg (show ¬ true = false by decide)]
              by_cases n3 : b2 = 76
              · subst n3
                rw [if_neg (fun h => h rfl)]
                by_cases hz : d2 = 0 ∧ (s2.toList == rootL) = true
                · obtain ⟨rfl, ht⟩ := hz
                  rw [if_pos ⟨ht, rfl⟩]
                  exact rta_8 _ b1 d1 s1 s2 w ha hb h1 h2 n1 hE hr ht
                · rw [if_neg (fun h => hz ⟨h.2, h.1⟩)]
                  by_cases hd : d1 = d2
                  · subst hd
                    rw [if_pos rfl]
                    by_cases n4 : b1 = 76
                    · subst n4
                      rw [if_pos rfl]
                      have KI := fun (W : World) (hW : Below w.heap.size w W) => rsub_any A n c L s1 s2 W hn hs hv (h.up hW)
                      have KA := fun (W : World) (hW : Below w.heap.size w W) => rany_any A n c L s2 W hn hc (h.up hW)
                      rw [show caB L s1 s2 = (isV L s1 s2 || tkB L s2) from Bool.or_comm _ _]
                      cases ht : (s2.toList == rootL) with
                      | true => exact rta_9r _ d1 s1 s2 w ha hb h1 h2 hE ht (fun e => hz ⟨e, ht⟩) _ _ KI KA
                      | false => exact rta_9n _ d1 s1 s2 w ha hb h1 h2 hE ht _ _ KI KA
                    · rw [if_neg n4]
                      cases ht : (s2.toList == rootL) with
                      | true => exact rta_9xr _ b1 d1 s1 s2 w ha hb h1 h2 n1 n4 hE hr ht (fun e => hz ⟨e, ht⟩)
                      | false => exact rta_9xn _ b1 d1 s1 s2 w ha hb h1 h2 n1 n4 hE hr ht
                  · rw [if_neg hd]
                    cases ht : (s2.toList == rootL) with
                    | true =>
                      by_cases hg : d2 < d1
                      · rw [if_pos ⟨hg, rfl⟩]; exact rta_10rg _ b1 d1 d2 s1 s2 w ha hb h1 h2 n1 hE hr ht (fun e => hz ⟨e, ht⟩) hd hg
                      · rw [if_neg (fun h => hg h.1)]; exact rta_10rl _ b1 d1 d2 s1 s2 w ha hb h1 h2 n1 hE hr ht (fun e => hz ⟨e, ht⟩) hd hg
                    | false =>
                      rw [if_neg (fun h => by cases h.2)]
                      by_cases hg : d2 < d1
                      · exact rta_10ng _ b1 d1 d2 s1 s2 w ha hb h1 h2 n1 hE hr ht hd hg
                      · exact rta_10nl _ b1 d1 d2 s1 s2 w ha hb h1 h2 n1 hE hr ht hd hg
              · rw [if_pos n3]; exact rta_7 _ b1 b2 d1 d2 s1 s2 w ha hb h1 h2 n1 n2 hE hr n3
end Go.Proofs.YthifmcnemeiphaaDoor

/- Na -/
/- Layer 18: common superclasses, pure: above both, absorbing, least. -/
namespace Go.Proofs.YthifmcnemeiphaaDoor
open Go.ChangeShapes Go.WideShapes Go.ChangeAt Go.RowKit Go.PlainAid Go.Maps
set_option linter.unusedSimpArgs false
set_option linter.unusedVariables false

theorem fB_empty {L : List CI} (hv : VH L) {s : ByteArray} (h : s.toList.isEmpty = true) : fB L s = false := by
  cases hf : fB L s with
  | false => rfl
  | true => have := hv.nonempty hf; rw [h] at this; cases this
theorem su_root {L : List CI} (hv : VH L) {s : ByteArray} (hf : fB L s = true) (hr : (s.toList == rootL) = true) : fB L (lkC L s).su = false := by
  obtain ⟨x, h1, h2, h3⟩ := nm_place hf
  have hx := (hv.all h1).2.2.1
  rw [h2, hr] at hx
  rw [h3]
  exact fB_empty hv hx
theorem cl_su {L : List CI} (hv : VH L) {s : ByteArray} (hf : fB L s = true) (hs : fB L (lkC L s).su = true) : (lkC L (lkC L s).su).isI = false := by
  obtain ⟨x, h1, h2, h3⟩ := nm_place hf
  have hx := (hv.all h1).2.2.2.2.1
  rw [h3] at hs ⊢
  exact (hx (hv.nonempty hs)).2
theorem chain_cl {L : List CI} (hv : VH L) : ∀ (k : Nat) (a : ByteArray), fB L a = true → (lkC L a).isI = false → ∀ s ∈ chain L k a, (lkC L s).isI = false
  | 0, _, _, _, _, h => by cases h
  | k + 1, a, ha, hi, s, h => by
    rw [chain_yes ha] at h
    rcases List.mem_cons.1 h with rfl | h
    · exact hi
    · cases hs : fB L (lkC L a).su with
      | false => rw [chain_no hs] at h; cases h
      | true => exact chain_cl hv k _ hs (cl_su hv ha hs) s h
theorem chain_after {L : List CI} (hv : VH L) : ∀ (k : Nat) (a : ByteArray) (P1 P2 : List ByteArray) (c : ByteArray), chain L k a = P1 ++ c :: P2 → ∀ z ∈ P2, Rc L (fI L c) (fI L z)
  | 0, _, P1, P2, c, h, _, _ => by
    unfold chain at h
    cases P1 <;> cases h
  | k + 1, a, P1, P2, c, h, z, hz => by
    cases ha : fB L a with
    | false => rw [chain_no ha] at h; cases P1 <;> cases h
    | true =>
      rw [chain_yes ha] at h
      cases P1 with
      | nil =>
        injection h with h1 h2
        subst h1
        rw [← h2] at hz
        exact chain_above hv k _ ha z hz
      | cons p P1 =>
        injection h with h1 h2
        exact chain_after hv k _ P1 P2 c h2 z hz
theorem sup_closed {L : List CI} (hv : VH L) {a s : ByteArray} (ha : fB L a = true) (hs : s ∈ supL L a) (hf : fB L (lkC L s).su = true) : (lkC L s).su ∈ supL L a := by
  obtain ⟨j, hj, rfl⟩ := List.getElem_of_mem hs
  rcases Nat.lt_or_ge (j + 1) (supL L a).length with h | h
  · have : (supL L a)[j + 1] = (lkC L (supL L a)[j]).su := chain_next (L.length + 1) a j h
    rw [← this]
    exact List.getElem_mem _
  · obtain ⟨_, _, hl⟩ := sup_shape hv ha
    have hjl : j = (supL L a).length - 1 := by omega
    rw [List.getLast?_eq_getElem?, ← hjl, List.getElem?_eq_getElem hj] at hl
    have e := Option.some.inj hl
    have hfj := chain_found _ _ _ (List.getElem_mem hj)
    rw [e] at hf hfj
    have := su_root hv hfj (by rw [root_tl]; exact beq_self_eq_true _)
    rw [this] at hf
    cases hf
/-- what a class reaches and is no interface is one of its superclasses -/
theorem ed_su {L : List CI} (hv : VH L) {j k : Nat} {x y : CI} (he : Ed L j k) (hx : L[j]? = some x) (hy : L[k]? = some y) (hi : y.isI = false) (hr : (y.nm.toList == rootL) = false) : x.su = y.nm ∧ x.isI = false ∧ (x.nm.toList == rootL) = false := by
  obtain ⟨hj, s, hs, hf, hk⟩ := he
  have hxe : L[j] = x := by rw [List.getElem?_eq_getElem hj] at hx; exact Option.some.inj hx
  subst hf
  have hye : L[fnd L s] = y := by rw [List.getElem?_eq_getElem hk] at hy; exact Option.some.inj hy
  have hsn : y.nm = s := by rw [← hye]; exact fnd_nm hk
  have hfs : fB L s = true := fB_of hk
  have hlk : lkC L s = y := by rw [lkC_yes hk]; exact hye
  rw [hxe] at hs
  have hx' := hv.all hx
  have hsu : x.su = s := by
    unfold nxt at hs
    rcases List.mem_append.1 hs with hs | hs
    · split at hs
      · cases hs
      · exact (List.mem_singleton.1 hs).symm
    · have := List.all_eq_true.1 hx'.2.2.2.2.2.1 s hs
      unfold ifOk at this
      rw [hlk, hi, Bool.and_false] at this
      cases this
  have hne : x.su.toList.isEmpty = false := by rw [hsu]; exact hv.nonempty hfs
  refine ⟨hsu.trans hsn.symm, ?_, ?_⟩
  · cases hI : x.isI with
    | false => rfl
    | true =>
      have := hx'.2.2.2.1 hI
      rw [hsu, ← hsn, hr] at this
      cases this
  · rw [← hx'.2.2.1, hne]
theorem self_sup {L : List CI} {a : ByteArray} (ha : fB L a = true) : a ∈ supL L a := by unfold supL; rw [chain_yes ha]; exact List.mem_cons_self
theorem up_sup {L : List CI} (hv : VH L) {i k : Nat} (h : Rc L i k) : ∀ x y, L[i]? = some x → L[k]? = some y → y.isI = false → (y.nm.toList == rootL) = false → y.nm ∈ supL L x.nm ∧ x.isI = false := by
  have nmf : ∀ (j : Nat) (x : CI), L[j]? = some x → fB L x.nm = true ∧ lkC L x.nm = x := by
    intro j x hx
    have hj := lt_of_some hx
    have h2 := (hv.all hx).2.1
    have hf : fB L x.nm = true := by
      refine fB_of (Nat.lt_of_le_of_lt ?_ hj)
      rcases Nat.lt_or_ge j (fnd L x.nm) with h | h
      · exfalso
        refine fnd_min h ?_
        rw [List.getElem?_eq_getElem hj] at hx
        rw [Option.some.inj hx]
      · exact h
    obtain ⟨z, hz1, hz2, hz3⟩ := nm_place hf
    rw [h2, hx] at hz1
    exact ⟨hf, hz3.trans (Option.some.inj hz1).symm⟩
  induction h with
  | one he =>
    intro x y hx hy hi hr
    obtain ⟨h1, h2, _⟩ := ed_su hv he hx hy hi hr
    obtain ⟨f1, l1⟩ := nmf _ x hx
    obtain ⟨f2, _⟩ := nmf _ y hy
    refine ⟨?_, h2⟩
    have := sup_closed hv f1 (self_sup f1) (by rw [l1, h1]; exact f2)
    rw [l1, h1] at this
    exact this
  | more hr1 he ih =>
    rename_i j k
    intro x y hx hy hi hr
    obtain ⟨hj, _⟩ := id he
    obtain ⟨h1, h2, h3⟩ := ed_su hv he (List.getElem?_eq_getElem hj) hy hi hr
    obtain ⟨m1, m2⟩ := ih x _ hx (List.getElem?_eq_getElem hj) h2 h3
    obtain ⟨f1, _⟩ := nmf _ x hx
    obtain ⟨_, l2⟩ := nmf _ _ (List.getElem?_eq_getElem hj)
    obtain ⟨f3, _⟩ := nmf _ y hy
    refine ⟨?_, m2⟩
    have := sup_closed hv f1 m1 (by rw [l2, h1]; exact f3)
    rw [l2, h1] at this
    exact this
theorem sub_sup {L : List CI} (hv : VH L) {a z : ByteArray} (h : isV L a z = true) (hz : fB L z = true) (hi : (lkC L z).isI = false) (hr : (z.toList == rootL) = false) : fB L a = true ∧ z ∈ supL L a ∧ (lkC L a).isI = false := by
  rcases isV_iff.1 h with rfl | ⟨ha, h | ⟨_, hc⟩⟩
  · exact ⟨hz, self_sup hz, hi⟩
  · rw [hr] at h; cases h
  · obtain ⟨x, x1, x2, x3⟩ := nm_place ha
    obtain ⟨y, y1, y2, y3⟩ := nm_place hz
    rw [y3] at hi
    rw [← y2] at hr
    obtain ⟨m1, m2⟩ := up_sup hv hc x y x1 y1 hi hr
    rw [x2, y2] at m1
    exact ⟨ha, m1, by rw [x3]; exact m2⟩
theorem tk_root (L : List CI) : tkB L rootS = true := by unfold tkB; rw [root_tl]; simp
theorem csV_self (L : List CI) (a : ByteArray) : csV L a a = a := by unfold csV; rw [if_pos (beq_self_eq_true _)]
/-- a common superclass, in two cases -/
theorem csV_cases {L : List CI} (hv : VH L) {a b : ByteArray} (hne : (a.toList == b.toList) = false) : csV L a b = rootS ∨ (fB L a = true ∧ fB L b = true ∧ (lkC L a).isI = false ∧ (lkC L b).isI = false ∧ ∃ P1 P2, supL L a = P1 ++ csV L a b :: P2 ∧ csV L a b ∈ supL L b ∧ ∀ t ∈ P1, t ∉ supL L b) := by
  by_cases hc : fB L a = false ∨ fB L b = false ∨ (lkC L a).isI = true ∨ (lkC L b).isI = true
  · left; unfold csV; rw [hne, if_neg (show ¬ false = true by decide), if_pos hc]
  · right
    have ha : fB L a = true := by cases h : fB L a with | true => rfl | false => exact absurd (Or.inl h) hc
    have hb : fB L b = true := by cases h : fB L b with | true => rfl | false => exact absurd (Or.inr (Or.inl h)) hc
    have ia : (lkC L a).isI = false := by cases h : (lkC L a).isI with | false => rfl | true => exact absurd (Or.inr (Or.inr (Or.inl h))) hc
    have ib : (lkC L b).isI = false := by cases h : (lkC L b).isI with | false => rfl | true => exact absurd (Or.inr (Or.inr (Or.inr h))) hc
    have e : csV L a b = csF (supL L a) (supL L b) := by unfold csV; rw [hne, if_neg (show ¬ false = true by decide), if_neg hc]
    obtain ⟨_, _, la⟩ := sup_shape hv ha
    obtain ⟨_, _, lb⟩ := sup_shape hv hb
    rw [e]
    exact ⟨ha, hb, ia, ib, csF_spec ⟨List.mem_of_getLast? la, List.mem_of_getLast? lb⟩⟩
theorem csV_take {L : List CI} (hv : VH L) (a b : ByteArray) : caB L a (csV L a b) = true ∧ caB L b (csV L a b) = true := by
  unfold caB
  cases hne : (a.toList == b.toList) with
  | true =>
    obtain rfl : a = b := toList_iff.1 (beq_iff_eq.1 hne)
    rw [csV_self, isV_refl, Bool.or_true]; exact ⟨rfl, rfl⟩
  | false =>
    rcases csV_cases hv hne with h | ⟨ha, hb, _⟩
    · rw [h, tk_root]; exact ⟨rfl, rfl⟩
    · obtain ⟨h1, h2⟩ := csV_above hv ha hb
      rw [h1, h2, Bool.or_true]; exact ⟨rfl, rfl⟩
theorem csV_root {L : List CI} (hv : VH L) (b : ByteArray) : csV L rootS b = rootS := by
  cases hne : (rootS.toList == b.toList) with
  | true => unfold csV; rw [hne, if_pos rfl]
  | false =>
    rcases csV_cases hv hne with h | ⟨ha, _, _, _, P1, P2, h1, _⟩
    · exact h
    · have hs : supL L rootS = [rootS] := by
        unfold supL
        rw [chain_yes ha, chain_no (su_root hv ha (by rw [root_tl]; exact beq_self_eq_true _))]
      have hm : csV L rootS b ∈ supL L rootS := by rw [h1]; exact List.mem_append_right _ List.mem_cons_self
      rw [hs] at hm
      exact List.mem_singleton.1 hm
theorem csV_absorb {L : List CI} (hv : VH L) (a b : ByteArray) : csV L (csV L a b) b = csV L a b := by
  cases hne : (a.toList == b.toList) with
  | true =>
    obtain rfl : a = b := toList_iff.1 (beq_iff_eq.1 hne)
    rw [csV_self, csV_self]
  | false =>
    rcases csV_cases hv hne with h | ⟨ha, hb, ia, ib, P1, P2, h1, h2, _⟩
    · rw [h]; exact csV_root hv b
    · have hm : csV L a b ∈ supL L a := by
        have : ∀ (l : List ByteArray) (z : ByteArray), l = P1 ++ z :: P2 → z ∈ l := by
          rintro l z rfl; exact List.mem_append_right _ List.mem_cons_self
        exact this _ _ h1
      generalize csV L a b = c at h1 h2 hm ⊢
      have hc := chain_found _ _ c hm
      have ic := chain_cl hv _ a ha ia c hm
      cases hcb : (c.toList == b.toList) with
      | true => unfold csV; rw [hcb, if_pos rfl]
      | false =>
        unfold csV
        rw [hcb, if_neg (show ¬ false = true by decide), if_neg (by rw [hc, hb, ic, ib]; simp)]
        unfold csF supL
        rw [chain_yes hc, List.find?_cons, show hasL (chain L (L.length + 1) b) c = true from hasL_iff.2 h2]
        rfl
theorem ca_lub {L : List CI} (hv : VH L) {x y z : ByteArray} (h1 : caB L x z = true) (h2 : caB L y z = true) : caB L (csV L x y) z = true := by
  unfold caB at h1 h2 ⊢
  cases ht : tkB L z with
  | true => rfl
  | false =>
    rw [ht, Bool.false_or] at h1 h2
    rw [Bool.false_or]
    unfold tkB at ht
    rw [Bool.or_eq_false_iff] at ht
    obtain ⟨hr, ht⟩ := ht
    cases hz : fB L z with
    | false =>
      have e : ∀ a, isV L a z = true → a = z := by
        intro a h
        rcases isV_iff.1 h with rfl | ⟨_, h | ⟨h, _⟩⟩
        · rfl
        · rw [hr] at h; cases h
        · rw [hz] at h; cases h
      rw [e x h1, e y h2, csV_self, isV_refl]
    | true =>
      rw [hz, Bool.true_and] at ht
      obtain ⟨fx, sx, ix⟩ := sub_sup hv h1 hz ht hr
      obtain ⟨fy, sy, iy⟩ := sub_sup hv h2 hz ht hr
      cases hne : (x.toList == y.toList) with
      | true =>
        obtain rfl : x = y := toList_iff.1 (beq_iff_eq.1 hne)
        rw [csV_self]; exact h1
      | false =>
        have e : csV L x y = csF (supL L x) (supL L y) := by unfold csV; rw [hne, if_neg (show ¬ false = true by decide), if_neg (by rw [fx, fy, ix, iy]; simp)]
        obtain ⟨P1, P2, e1, e2, e3⟩ := csF_spec (P := supL L x) (Q := supL L y) ⟨sx, sy⟩
        rw [← e] at e1 e2
        generalize csV L x y = c at e1 e2 ⊢
        have hfc : fB L c = true := chain_found _ _ c e2
        rw [e1] at sx
        rcases List.mem_append.1 sx with h | h
        · exact absurd sy (e3 z h)
        · rcases List.mem_cons.1 h with rfl | h
          · exact isV_refl _ _
          · exact isV_iff.2 (Or.inr ⟨hfc, Or.inr ⟨hz, chain_after hv _ x P1 P2 c e1 z h⟩⟩)
end Go.Proofs.YthifmcnemeiphaaDoor
