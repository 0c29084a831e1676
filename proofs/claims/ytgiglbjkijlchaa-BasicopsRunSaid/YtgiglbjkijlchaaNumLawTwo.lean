/- The statements of layer 1 that hold package num against its reference. -/
import Derived.Test.YtgiglbjkijlchaaNumRefTwo
namespace Go.Proofs.Ytgiglbjkijlchaa
open Go.ChangeShapes Go.WideShapes Go.ChangeAt Go.RowKit
set_option linter.unusedSimpArgs false
set_option linter.unusedVariables false

theorem holds_cmp (x y : Int) : holdsB 0 (cmpI x y) = decide (x = y) ∧ holdsB 1 (cmpI x y) = decide (x ≠ y) ∧ holdsB 2 (cmpI x y) = decide (x < y) ∧
    holdsB 3 (cmpI x y) = decide (y ≤ x) ∧ holdsB 4 (cmpI x y) = decide (y < x) ∧ holdsB 5 (cmpI x y) = decide (x ≤ y) := by
  unfold cmpI
  by_cases h1 : x < y
  · rw [if_pos h1]; simp [holdsB]; omega
  · by_cases h2 : y < x
    · rw [if_neg h1, if_pos h2]; simp [holdsB]; omega
    · rw [if_neg h1, if_neg h2]; simp [holdsB]; omega

theorem rcond_any (op a b : Int) (w : World) :
    Calls Try.prog 41 #[.int .i64 op, .int .i64 a, .int .i64 b] w fun e w' => e = .returned (.tuple #[.bool (condV op a b), .int .i64 (condE op)]) ∧ w = w' := by
  by_cases h1 : op < 36
  · go_enter Try.func41, Try.ntmps41
    go_wp2
    go_ret2
    exact ⟨ret_bi (by unfold condV; rw [if_pos (by omega)]) (by unfold condE; rw [if_pos (by omega)]), rfl⟩
  by_cases h2 : 47 < op
  · go_enter Try.func41, Try.ntmps41
    go_wp2
    go_ret2
    exact ⟨ret_bi (by unfold condV; rw [if_pos (by omega)]) (by unfold condE; rw [if_pos (by omega)]), rfl⟩
  have hx := Lib.hid (holds_cmp (wrap32 a) 0)
  have hy := Lib.hid (holds_cmp (wrap32 a) (wrap32 b))
  rcases (by omega : op = 36 ∨ op = 37 ∨ op = 38 ∨ op = 39 ∨ op = 40 ∨ op = 41 ∨ op = 42 ∨ op = 43 ∨ op = 44 ∨ op = 45 ∨ op = 46 ∨ op = 47) with rfl | rfl | rfl | rfl | rfl | rfl | rfl | rfl | rfl | rfl | rfl | rfl
  all_goals
    go_enter Try.func41, Try.ntmps41
    go_wp2_with (go_at_call 54; refine (rwrap_any _ _).mono ?_; rintro e w' ⟨rfl, rfl⟩)
    go_ret2
    exact ⟨ret_bi (by rw [Bool.eq_iff_iff]; simp [condV, hx.out, hy.out]) (by decide +kernel), rfl⟩

end Go.Proofs.Ytgiglbjkijlchaa
