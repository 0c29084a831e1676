import Derived.Test.YthifmcnemeiphaaDoorVf
import Derived.Test.YthifmcnemeiphaaDoorIM

/- Ma -/
/- Layer 18: the join of two types, in the package. -/
namespace Go.Proofs.YthifmcnemeiphaaDoor
open Go.ChangeShapes Go.WideShapes Go.ChangeAt Go.RowKit Go.PlainAid Go.Maps
set_option linter.unusedSimpArgs false
set_option linter.unusedVariables false

structure TY where
  d : Int
  b : Int
  s : ByteArray
def tyZ : TY := ⟨0, 0, ⟨#[]⟩⟩
def TY.ref (x : TY) : Bool := validB x.d x.b x.s && (decide (0 < x.d) || (x.b == 76))
def TY.dp (x : TY) : Int := if x.b = 76 then x.d else x.d - 1
def tyE (a b : TY) : Bool := decide (a.d = b.d) && decide (a.b = b.b) && (a.s.toList == b.s.toList)
/-- the join of two types -/
def tyJ (L : List CI) (a b : TY) : TY :=
  if a.ref = false ∨ b.ref = false then tyZ
  else if tyE a b = true then a
  else if a.b = 76 ∧ b.b = 76 ∧ a.d = b.d then ⟨a.d, 76, csV L a.s b.s⟩
  else ⟨if b.dp < a.dp then b.dp else a.dp, 76, rootS⟩
theorem TY.ref_rng {x : TY} (h : x.ref = true) : 0 ≤ x.d ∧ x.d ≤ 8 := by
  unfold TY.ref at h
  rw [Bool.and_eq_true] at h
  exact valid_bd h.1
theorem tyE_eq {a b : TY} (h : tyE a b = true) : a = b := by
  unfold tyE at h
  rw [Bool.and_eq_true, Bool.and_eq_true, decide_eq_true_iff, decide_eq_true_iff, beq_iff_eq] at h
  obtain ⟨⟨h1, h2⟩, h3⟩ := h
  cases a; cases b
  simp only at h1 h2 h3
  rw [h1, h2, toList_iff.1 h3]
theorem ty_eqIn (a b : TY) (w : World) : (Op.equalIn 10000 41 (Value.agg #[Value.int IntKind.i64 (TY.d a), Value.int IntKind.u8 (TY.b a), Value.string (TY.s a)]) (Value.agg #[Value.int IntKind.i64 (TY.d b), Value.int IntKind.u8 (TY.b b), Value.string (TY.s b)])).run Tryd.prog w = .ok (tyE a b) w := by
  by_cases h1 : a.d = b.d
  · by_cases h2 : a.b = b.b
    · by_cases h3 : a.s.toList = b.s.toList <;> simp [go_sem, tyE, *]
    · simp [go_sem, tyE, *]
  · simp [go_sem, tyE, *]
theorem ty_eqP {d b d' b' : Int} {s s' : ByteArray} {v : Bool} (h : tyE ⟨d, b, s⟩ ⟨d', b', s'⟩ = v) (w : World) : (binOp .eql 41 (.agg #[.int .i64 d, .int .u8 b, .string s]) (.agg #[.int .i64 d', .int .u8 b', .string s'])).run Tryd.prog w = .ok (.bool v) w := by
  rw [run_eql_struct]
  have := ty_eqIn ⟨d, b, s⟩ ⟨d', b', s'⟩ w
  rw [h] at this
  rw [this]; rfl
theorem ty_neP {d b d' b' : Int} {s s' : ByteArray} {v : Bool} (h : tyE ⟨d, b, s⟩ ⟨d', b', s'⟩ = v) (w : World) : (binOp .neq 41 (.agg #[.int .i64 d, .int .u8 b, .string s]) (.agg #[.int .i64 d', .int .u8 b', .string s'])).run Tryd.prog w = .ok (.bool (!v)) w := by
  rw [run_neq_struct]
  have := ty_eqIn ⟨d, b, s⟩ ⟨d', b', s'⟩ w
  rw [h] at this
  rw [this]; rfl
theorem set_three {w : World} {B : Nat} {t : TypeId} {x0 x1 x2 a b c : Value} (hh : w.heap[B]? = some (.cells #[x0, x1, x2] t)) :
    (((w.setCell ⟨B, 0, none⟩ a).setCell ⟨B, 1, none⟩ b).setCell ⟨B, 2, none⟩ c).heap[B]? = some (.cells #[a, b, c] t) := by
  have h0 := heap_setCell_same w B 0 _ _ a hh
  generalize w.setCell ⟨B, 0, none⟩ a = w0 at h0 ⊢
  have h1 := heap_setCell_same w0 B 1 _ _ b h0
  generalize w0.setCell ⟨B, 1, none⟩ b = w1 at h1 ⊢
  exact heap_setCell_same w1 B 2 _ _ c h1
theorem ty_size : (Tryd.prog.info? 41).map (·.size) = some 3 := by kernel_rfl
theorem ty_under : ∃ fs, Tryd.prog.underlying 41 = some (.struct fs) := ⟨_, Tryd.underlying41⟩
theorem ty_ret {fn : Func} {k : Nat} (hf : fn.results = #[.cell k 41]) {a : Act} {w : World} {B : Nat} {x0 x1 x2 : Value} (ht : a.tmps.getD k undef = .pointer (some ⟨B, 0, none⟩)) (hg : w.heap[B]? = some (.cells #[x0, x1, x2] 41)) :
    (results fn a.tmps).run Tryd.prog w = .ok (.agg #[x0, x1, x2]) w := by
  obtain ⟨fs, hu⟩ := ty_under
  exact results_cell_row hf a.tmps w B _ _ (0, 0) _ ht hg hu rfl ty_size
theorem three_laid (w : World) (o1 o2 o3 : Obj) : (((w.alloc o1).alloc o2).alloc o3).heap[w.heap.size]? = some o1 ∧ (((w.alloc o1).alloc o2).alloc o3).heap[w.heap.size + 1]? = some o2 ∧ (((w.alloc o1).alloc o2).alloc o3).heap[w.heap.size + 1 + 1]? = some o3 ∧ Below w.heap.size w (((w.alloc o1).alloc o2).alloc o3) ∧ (((w.alloc o1).alloc o2).alloc o3).heap.size = w.heap.size + 3 := by
  have e1 : (w.alloc o1).heap.size = w.heap.size + 1 := by simp
  have e2 : ((w.alloc o1).alloc o2).heap.size = w.heap.size + 1 + 1 := by simp
  refine ⟨laid_old (laid_old (World.alloc_heap_new w o1)), ?_, ?_, below_al (below_al (below_al (Below.refl _ w) o1) o2) o3, by simp⟩
  · have := World.alloc_heap_new (w.alloc o1) o2
    rw [e1] at this
    exact laid_old this
  · have := World.alloc_heap_new ((w.alloc o1).alloc o2) o3
    rw [e2] at this
    exact this
theorem isrefM_any (x : TY) (w : World) :
    Calls Tryd.prog 76 #[(Value.agg #[Value.int IntKind.i64 (TY.d x), Value.int IntKind.u8 (TY.b x), Value.string (TY.s x)])] w fun e w' => e = .returned (.bool x.ref) ∧ Below w.heap.size w w' := by
  have hB : Below w.heap.size w w := Below.refl _ _
  unfold TY.ref
  go_enter Tryd.func76, Tryd.ntmps76
  go_wp2_with (first | (go_at_call 65; refine (valid_any _ _ _ _).mono ?_; rintro e w1 ⟨rfl, hb1⟩; obtain ⟨hc1, hf1⟩ := bcell hb1; have hz1 := hb1.size; (try simp only [World.size_alloc, World.size_setCell] at hz1); (try have hza : w.heap.size < w1.heap.size := by omega); (try have hzb : w.heap.size + 1 < w1.heap.size := by omega); (try have hzc : w.heap.size + 1 + 1 < w1.heap.size := by omega); (try have hzd : wa.heap.size < w1.heap.size := by omega); (try replace hR := (hb1.block w.heap.size (by first | exact lt_heap hR | (have := lt_heap hR; simp; omega))).trans (by first | with_reducible exact hR | with_reducible exact laid_old hR)); replace hB := below_on (w := w) ((by repeat (first | with_reducible exact hB | with_reducible exact Below.refl _ _ | with_reducible refine below_al ?_ _ | with_reducible refine below_st ?_ (by first | exact Nat.le_refl _ | exact Nat.le_add_right _ _ | (simp; omega)) _))) hb1; clear hb1))
  all_goals (go_ret; refine ⟨?_, (by repeat (first | with_reducible exact hB | with_reducible exact Below.refl _ _ | with_reducible refine below_al ?_ _ | with_reducible refine below_st ?_ (by first | exact Nat.le_refl _ | exact Nat.le_add_right _ _ | (simp; omega)) _))⟩; simp_all)
theorem isrP (d b : Int) (s : ByteArray) (v : Bool) (h : (TY.mk d b s).ref = v) (w : World) :
    Calls Tryd.prog 76 #[.agg #[.int .i64 d, .int .u8 b, .string s]] w fun e w' => e = .returned (.bool v) ∧ Below w.heap.size w w' := by
  rw [← h]; exact isrefM_any ⟨d, b, s⟩ w
theorem depthM_any (x : TY) (h : 0 ≤ x.d ∧ x.d ≤ 8) (w : World) :
    Calls Tryd.prog 77 #[(Value.agg #[Value.int IntKind.i64 (TY.d x), Value.int IntKind.u8 (TY.b x), Value.string (TY.s x)])] w fun e w' => e = .returned (.int .i64 x.dp) ∧ Below w.heap.size w w' := by
  have hB : Below w.heap.size w w := Below.refl _ _
  unfold TY.dp
  obtain ⟨h0, h1⟩ := h
  go_enter Tryd.func77, Tryd.ntmps77
  go_wp2
  all_goals (go_ret; refine ⟨?_, (by repeat (first | with_reducible exact hB | with_reducible exact Below.refl _ _ | with_reducible refine below_al ?_ _ | with_reducible refine below_st ?_ (by first | exact Nat.le_refl _ | exact Nat.le_add_right _ _ | (simp; omega)) _))⟩; simp_all)
end Go.Proofs.YthifmcnemeiphaaDoor
