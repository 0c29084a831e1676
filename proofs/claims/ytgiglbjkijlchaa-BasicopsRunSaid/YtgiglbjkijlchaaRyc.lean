/- Layer 42: the reference's Handles and Own. -/
import Derived.Test.YtgiglbjkijlchaaRy
namespace Go.Proofs.Ytgiglbjkijlchaa
open Go.ChangeShapes Go.WideShapes Go.ChangeAt Go.RowKit Go.PlainAid
set_option linter.unusedSimpArgs false
set_option linter.unusedVariables false

set_option maxRecDepth 100000 in
theorem rhandles_any (op : Int) (w : World) :
    Calls Try.prog 14 #[.int .i64 op] w fun e w' => e = .returned (.bool (hdl op)) ∧ w = w' := by
  rcases (by omega : op < 0 ∨ (0 ≤ op ∧ op ≤ 3) ∨ (4 ≤ op ∧ op ≤ 35) ∨ (36 ≤ op ∧ op ≤ 54) ∨ 54 < op) with e | e | e | e | e
  · have hh : hdl op = false := by unfold hdl; simp; omega
    rw [hh]
    have h4 : op < 4 := by omega
    have h5 : op < 36 := by omega
    go_enter Try.func14, Try.ntmps14
    go_wp2
    go_ret
    exact ⟨rfl, rfl⟩
  · have hh : hdl op = true := by unfold hdl; simp; omega
    rw [hh]
    obtain ⟨h1, h2⟩ := e
    go_enter Try.func14, Try.ntmps14
    go_wp2
    go_ret
    exact ⟨rfl, rfl⟩
  · have hh : hdl op = true := by unfold hdl; simp; omega
    rw [hh]
    obtain ⟨h1, h2⟩ := e
    have h0 : 0 ≤ op := by omega
    have h3 : 3 < op := by omega
    go_enter Try.func14, Try.ntmps14
    go_wp2
    go_ret
    exact ⟨rfl, rfl⟩
  · have hh : hdl op = true := by unfold hdl; simp; omega
    rw [hh]
    obtain ⟨h1, h2⟩ := e
    have h0 : 0 ≤ op := by omega
    have h3 : 3 < op := by omega
    have h4 : 4 ≤ op := by omega
    have h5 : 35 < op := by omega
    go_enter Try.func14, Try.ntmps14
    go_wp2
    go_ret
    exact ⟨rfl, rfl⟩
  · have hh : hdl op = false := by unfold hdl; simp; omega
    rw [hh]
    have h0 : 0 ≤ op := by omega
    have h3 : 3 < op := by omega
    have h4 : 4 ≤ op := by omega
    have h5 : 35 < op := by omega
    have h6 : 36 ≤ op := by omega
    go_enter Try.func14, Try.ntmps14
    go_wp2
    go_ret
    refine ⟨?_, rfl⟩
    show Ending.returned (Value.bool (decide (op ≤ 3) || decide (op ≤ 35) || decide (op ≤ 54))) = _
    rw [decide_eq_false (by omega), decide_eq_false (by omega), decide_eq_false (by omega)]; rfl
set_option maxRecDepth 100000 in
theorem rown_any (i : In) (w : World) :
    Calls Try.prog 23 #[(Value.agg #[Value.int IntKind.i64 (In.op i), Value.int IntKind.i64 (In.a i), Value.int IntKind.i64 (In.b i), Value.int IntKind.i64 (In.t i), Value.slice (In.kA i) (In.kn i) (In.kc i), Value.slice (In.tA i) (In.tn i) (In.tc i), Value.string (In.r1 i), Value.string (In.r2 i), Value.string (In.r3 i), Value.string (In.s i)])] w fun e w' => e = .returned (.bool (ownI i)) ∧ Below w.heap.size w w' := by
  have HB := Lib.hid (below_al (Below.refl w.heap.size w) (.cells #[.int .i64 i.op, .int .i64 i.a, .int .i64 i.b, .int .i64 i.t, .slice i.kA i.kn i.kc, .slice i.tA i.tn i.tc, .string i.r1, .string i.r2, .string i.r3, .string i.s] 29))
  obtain ⟨ow, how⟩ : ∃ ow, ownI i = ow := ⟨_, rfl⟩
  have HO := Lib.hid how
  rw [how]
  unfold ownI at how
  go_enter Try.func23, Try.ntmps23
  go_upto_region 1 with fail
  have R := World.alloc_heap_new w (.cells #[.int .i64 i.op, .int .i64 i.a, .int .i64 i.b, .int .i64 i.t, .slice i.kA i.kn i.kc, .slice i.tA i.tn i.tc, .string i.r1, .string i.r2, .string i.r3, .string i.s] 29)
  have hz : w.heap.size < (w.alloc (.cells #[.int .i64 i.op, .int .i64 i.a, .int .i64 i.b, .int .i64 i.t, .slice i.kA i.kn i.kc, .slice i.tA i.tn i.tc, .string i.r1, .string i.r2, .string i.r3, .string i.s] 29)).heap.size := by simp
  generalize w.alloc (.cells #[.int .i64 i.op, .int .i64 i.a, .int .i64 i.b, .int .i64 i.t, .slice i.kA i.kn i.kc, .slice i.tA i.tn i.tc, .string i.r1, .string i.r2, .string i.r3, .string i.s] 29) = W1 at R HB hz ⊢
  obtain ⟨r0, r1, r2, r3, r4, r5, r6, r7, r8, r9⟩ := ten_cells R
  clear R
  cases hh : hdl i.op with
  | false =>
    rw [hh] at how
    obtain rfl : false = ow := by simpa using how
    clear how
    go_wp2_with (go_at_call 14; refine (rhandles_any _ _).mono ?_; rintro e w5 ⟨rfl, rfl⟩; rw [hh])
    go_ret
    exact ⟨rfl, HB.out⟩
  | true =>
    rw [hh] at how
    have h3 : ((i.op != 3) = true ∧ ow = true) ∨ ((i.op != 3) = false ∧ (i.b == 3) = true ∧ ow = true) ∨ ((i.op != 3) = false ∧ (i.b == 3) = false ∧ (i.b == 5) = true ∧ ow = true) ∨ ((i.op != 3) = false ∧ (i.b == 3) = false ∧ (i.b == 5) = false ∧ ow = false) := by
      cases h1 : (i.op != 3) <;> cases h2 : (i.b == 3) <;> cases h4 : (i.b == 5) <;> rw [h1, h2, h4] at how <;> simp at how <;> simp [how]
    clear how
    rcases h3 with ⟨h1, rfl⟩ | ⟨h1, h2, rfl⟩ | ⟨h1, h2, h4, rfl⟩ | ⟨h1, h2, h4, rfl⟩
    all_goals
      go_wp2_with (go_at_call 14; refine (rhandles_any _ _).mono ?_; rintro e w5 ⟨rfl, rfl⟩; rw [hh])
      go_ret
      exact ⟨rfl, HB.out⟩
end Go.Proofs.Ytgiglbjkijlchaa
