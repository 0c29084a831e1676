/- The statements of layer 1 that hold package num against its reference. -/
import Derived.Test.YtddmejhcabopgaaNumRefTwo
namespace Go.Proofs.Ytddmejhcabopgaa
open Go.ChangeShapes Go.WideShapes Go.ChangeAt Go.RowKit
set_option linter.unusedSimpArgs false
set_option linter.unusedVariables false

theorem holds_cmp (x y : Int) : holdsB 0 (cmpI x y) = decide (x = y) ∧ holdsB 1 (cmpI x y) = decide (x ≠ y) ∧ holdsB 2 (cmpI x y) = decide (x < y) ∧
    holdsB 3 (cmpI x y) = decide (y ≤ x) ∧ holdsB 4 (cmpI x y) = decide (y < x) ∧ holdsB 5 (cmpI x y) = decide (x ≤ y) := by
  unfold cmpI
  by_cases h1 : x < y
  · rw [if_pos h1]; simp [holdsB]; omega
  · by_cases h2 : y < x
    · rw [if_neg h1, if_pos h2]; simp [holdsB]; omega
    · rw [if_neg h1, if_neg h2]; simp [holdsB]; omega

theorem rcond_any (op a b : Int) (w : World) :
    Calls Try.prog 15 #[.int .i64 op, .int .i64 a, .int .i64 b] w fun e w' => e = .returned (.tuple #[.bool (condV op a b), .int .i64 (condE op)]) ∧ w = w' := by
  by_cases h1 : op < 36
  · go_enter Try.func15, Try.ntmps15
    go_wp2
    go_ret2
    exact ⟨ret_bi (by unfold condV; rw [if_pos (by omega)]) (by unfold condE; rw [if_pos (by omega)]), rfl⟩
  by_cases h2 : 47 < op
  · go_enter Try.func15, Try.ntmps15
    go_wp2
    go_ret2
    exact ⟨ret_bi (by unfold condV; rw [if_pos (by omega)]) (by unfold condE; rw [if_pos (by omega)]), rfl⟩
  have hx := Lib.hid (holds_cmp (wrap32 a) 0)
  have hy := Lib.hid (holds_cmp (wrap32 a) (wrap32 b))
  rcases (by omega : op = 36 ∨ op = 37 ∨ op = 38 ∨ op = 39 ∨ op = 40 ∨ op = 41 ∨ op = 42 ∨ op = 43 ∨ op = 44 ∨ op = 45 ∨ op = 46 ∨ op = 47) with rfl | rfl | rfl | rfl | rfl | rfl | rfl | rfl | rfl | rfl | rfl | rfl
  all_goals
    go_enter Try.func15, Try.ntmps15
    go_wp2_with (go_at_call 10; refine (rwrap_any _ _).mono ?_; rintro e w' ⟨rfl, rfl⟩)
    go_ret2
    exact ⟨ret_bi (by rw [Bool.eq_iff_iff]; simp [condV, hx.out, hy.out]) (by decide +kernel), rfl⟩

theorem wrapInt32_any (n : Int) (w0 : (Lit.int .i64 n).wf = true) (w : World) :
    Calls Try.prog 3 #[.int .i64 n] w fun e w' => e = .returned (.bool true) ∧ Grown w w' := by
  have hb := bounds_i64 w0
  have h1 := wrap32_bd n
  have h2 := wrap32_wrap32 n
  have h3 : wrap32 (wrap64 (n + 4294967296)) = wrap32 n := by rw [wrap32_wrap64]; unfold wrap32; omega
  go_enter Try.func3, Try.ntmps3
  go_wp2_with (first | (go_at_call 9; refine (wrap_any _ _).mono ?_; rintro e w' ⟨rfl, rfl⟩) | (go_at_call 10; refine (rwrap_any _ _).mono ?_; rintro e w' ⟨rfl, rfl⟩) | (go_at_call 11; refine (awake_any _).mono ?_; rintro e w' ⟨rfl, rfl⟩))
  go_ret
  exact ⟨rfl, grown_eq rfl⟩

theorem compute_any (op a b : Int) (w1 : (Lit.int .i64 a).wf = true) (w : World) :
    Calls Try.prog 4 #[.int .i64 op, .int .i64 a, .int .i64 b] w fun e w' => e = .returned (.bool true) ∧ Grown w w' := by
  have hb := bounds_i64 w1
  go_enter Try.func4, Try.ntmps4
  go_wp2_with (first | (go_at_call 12; refine (comp_any _ _ _ _).mono ?_; rintro e w' ⟨rfl, rfl⟩) | (go_at_call 13; refine (rcomp_any _ _ _ hb.1 hb.2 _).mono ?_; rintro e w' ⟨rfl, rfl⟩) | (go_at_call 11; refine (awake_any _).mono ?_; rintro e w' ⟨rfl, rfl⟩))
  go_ret
  exact ⟨rfl, grown_eq rfl⟩

theorem condition_any (op a b : Int) (w : World) :
    Calls Try.prog 5 #[.int .i64 op, .int .i64 a, .int .i64 b] w fun e w' => e = .returned (.bool true) ∧ Grown w w' := by
  have h : wrap64 (-cmpI a b) = cmpI b a := by
    have := cmpI_cases a b
    rw [wrap64_id (by omega)]
    unfold cmpI; split <;> split <;> omega
  go_enter Try.func5, Try.ntmps5
  go_wp2_with (first | (go_at_call 14; refine (cond_any _ _ _ _).mono ?_; rintro e w' ⟨rfl, rfl⟩) | (go_at_call 15; refine (rcond_any _ _ _ _).mono ?_; rintro e w' ⟨rfl, rfl⟩) | (go_at_call 16; refine (cmp_any _ _ _).mono ?_; rintro e w' ⟨rfl, rfl⟩) | (go_at_call 17; refine (rcmp_any _ _ _).mono ?_; rintro e w' ⟨rfl, rfl⟩) | (go_at_call 11; refine (awake_any _).mono ?_; rintro e w' ⟨rfl, rfl⟩))
  go_ret
  exact ⟨rfl, grown_eq rfl⟩

end Go.Proofs.Ytddmejhcabopgaa
