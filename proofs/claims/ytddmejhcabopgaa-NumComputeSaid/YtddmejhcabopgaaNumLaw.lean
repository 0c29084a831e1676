/- The statements of layer 1 that do not need the reference: the examples, and that of each condition and its negation exactly one holds. -/
import Derived.Test.YtddmejhcabopgaaNumTwo
namespace Go.Proofs.Ytddmejhcabopgaa
open Go.ChangeShapes Go.WideShapes Go.ChangeAt Go.RowKit
set_option linter.unusedSimpArgs false
set_option linter.unusedVariables false

theorem grown_eq {w w' : World} (h : w = w') : Grown w w' := by subst h; exact Grown.refl _

theorem awake_any (w : World) :
    Calls Try.prog 11 #[] w fun e w' => e = .returned (.bool true) ∧ w = w' := by
  have a1 : compV 23 (-1) 28 = 15 := by decide +kernel
  have a2 : compE 23 28 = 0 := by decide +kernel
  have b1 : compV 18 (-7) 2 = -3 := by decide +kernel
  have b2 : compE 18 2 = 0 := by decide +kernel
  have c1 : compV 21 1 33 = 2 := by decide +kernel
  have c2 : compE 21 33 = 0 := by decide +kernel
  have d2 : compE 31 0 = 52 := by decide +kernel
  have f1 : condV 38 (-1) 5 = true := by decide +kernel
  have f2 : condE 38 = 0 := by decide +kernel
  have g1 : wrap32 2147483648 = -2147483648 := by decide +kernel
  have g2 : cmpI 2 1 = 1 := by decide +kernel
  go_enter Try.func11, Try.ntmps11
  go_wp2_with (first | (go_at_call 9; refine (wrap_any _ _).mono ?_; rintro e w' ⟨rfl, rfl⟩) | (go_at_call 12; refine (comp_any _ _ _ _).mono ?_; rintro e w' ⟨rfl, rfl⟩) | (go_at_call 16; refine (cmp_any _ _ _).mono ?_; rintro e w' ⟨rfl, rfl⟩) | (go_at_call 14; refine (cond_any _ _ _ _).mono ?_; rintro e w' ⟨rfl, rfl⟩))
  go_ret
  exact ⟨rfl, rfl⟩

theorem cmpI_cases (a b : Int) : cmpI a b = -1 ∨ cmpI a b = 0 ∨ cmpI a b = 1 := by
  unfold cmpI; split
  · simp
  · split <;> simp

theorem cond_neg (i a b : Int) (h0 : i = 0 ∨ i = 1 ∨ i = 2 ∨ i = 3 ∨ i = 4 ∨ i = 5) : (condV (36 + 2 * i) a b != condV (37 + 2 * i) a b) = true := by
  have hc := cmpI_cases (wrap32 a) 0
  have hd := cmpI_cases (wrap32 a) (wrap32 b)
  unfold condV
  generalize cmpI (wrap32 a) 0 = x at *
  generalize cmpI (wrap32 a) (wrap32 b) = y at *
  rcases h0 with rfl | rfl | rfl | rfl | rfl | rfl <;> rcases hc with rfl | rfl | rfl <;> rcases hd with rfl | rfl | rfl <;> decide +kernel

theorem neg_one (i op a b : Int) (hop : op = 36 + 2 * i) (h0 : i = 0 ∨ i = 1 ∨ i = 2 ∨ i = 3 ∨ i = 4 ∨ i = 5) :
    (condV op a b = true ∧ condV (op + 1) a b = false ∨ condV op a b = false ∧ condV (op + 1) a b = true) ∧ condE op = 0 ∧ condE (op + 1) = 0 := by
  have h := cond_neg i a b h0
  refine ⟨?_, ?_⟩
  · have e : op + 1 = 37 + 2 * i := by omega
    rw [e, hop]
    generalize condV (36 + 2 * i) a b = x at *
    generalize condV (37 + 2 * i) a b = y at *
    revert h; cases x <;> cases y <;> decide
  · unfold condE; constructor <;> rw [if_neg (by omega)]

theorem negation_any (k a b : Int) (w0 : (Lit.int .u8 k).wf = true) (w : World) :
    Calls Try.prog 8 #[.int .u8 k, .int .i64 a, .int .i64 b] w fun e w' => e = .returned (.bool true) ∧ Grown w w' := by
  have hk := bounds_u8 w0
  rcases (by omega : k % 6 = 0 ∨ k % 6 = 1 ∨ k % 6 = 2 ∨ k % 6 = 3 ∨ k % 6 = 4 ∨ k % 6 = 5) with h | h | h | h | h | h
  · obtain ⟨⟨h1, h2⟩ | ⟨h1, h2⟩, h3, h4⟩ : (condV 36 a b = true ∧ condV 37 a b = false ∨ condV 36 a b = false ∧ condV 37 a b = true) ∧ condE 36 = 0 ∧ condE 37 = 0 := neg_one 0 36 a b rfl (by simp)
    all_goals
      go_enter Try.func8, Try.ntmps8
      go_wp2_with (first | (go_at_call 14; refine (cond_any _ _ _ _).mono ?_; rintro e w' ⟨rfl, rfl⟩) | (go_at_call 11; refine (awake_any _).mono ?_; rintro e w' ⟨rfl, rfl⟩))
      go_ret
      exact ⟨rfl, grown_eq rfl⟩
  · obtain ⟨⟨h1, h2⟩ | ⟨h1, h2⟩, h3, h4⟩ : (condV 38 a b = true ∧ condV 39 a b = false ∨ condV 38 a b = false ∧ condV 39 a b = true) ∧ condE 38 = 0 ∧ condE 39 = 0 := neg_one 1 38 a b rfl (by simp)
    all_goals
      go_enter Try.func8, Try.ntmps8
      go_wp2_with (first | (go_at_call 14; refine (cond_any _ _ _ _).mono ?_; rintro e w' ⟨rfl, rfl⟩) | (go_at_call 11; refine (awake_any _).mono ?_; rintro e w' ⟨rfl, rfl⟩))
      go_ret
      exact ⟨rfl, grown_eq rfl⟩
  · obtain ⟨⟨h1, h2⟩ | ⟨h1, h2⟩, h3, h4⟩ : (condV 40 a b = true ∧ condV 41 a b = false ∨ condV 40 a b = false ∧ condV 41 a b = true) ∧ condE 40 = 0 ∧ condE 41 = 0 := neg_one 2 40 a b rfl (by simp)
    all_goals
      go_enter Try.func8, Try.ntmps8
      go_wp2_with (first | (go_at_call 14; refine (cond_any _ _ _ _).mono ?_; rintro e w' ⟨rfl, rfl⟩) | (go_at_call 11; refine (awake_any _).mono ?_; rintro e w' ⟨rfl, rfl⟩))
      go_ret
      exact ⟨rfl, grown_eq rfl⟩
  · obtain ⟨⟨h1, h2⟩ | ⟨h1, h2⟩, h3, h4⟩ : (condV 42 a b = true ∧ condV 43 a b = false ∨ condV 42 a b = false ∧ condV 43 a b = true) ∧ condE 42 = 0 ∧ condE 43 = 0 := neg_one 3 42 a b rfl (by simp)
    all_goals
      go_enter Try.func8, Try.ntmps8
      go_wp2_with (first | (go_at_call 14; refine (cond_any _ _ _ _).mono ?_; rintro e w' ⟨rfl, rfl⟩) | (go_at_call 11; refine (awake_any _).mono ?_; rintro e w' ⟨rfl, rfl⟩))
      go_ret
      exact ⟨rfl, grown_eq rfl⟩
  · obtain ⟨⟨h1, h2⟩ | ⟨h1, h2⟩, h3, h4⟩ : (condV 44 a b = true ∧ condV 45 a b = false ∨ condV 44 a b = false ∧ condV 45 a b = true) ∧ condE 44 = 0 ∧ condE 45 = 0 := neg_one 4 44 a b rfl (by simp)
    all_goals
      go_enter Try.func8, Try.ntmps8
      go_wp2_with (first | (go_at_call 14; refine (cond_any _ _ _ _).mono ?_; rintro e w' ⟨rfl, rfl⟩) | (go_at_call 11; refine (awake_any _).mono ?_; rintro e w' ⟨rfl, rfl⟩))
      go_ret
      exact ⟨rfl, grown_eq rfl⟩
  · obtain ⟨⟨h1, h2⟩ | ⟨h1, h2⟩, h3, h4⟩ : (condV 46 a b = true ∧ condV 47 a b = false ∨ condV 46 a b = false ∧ condV 47 a b = true) ∧ condE 46 = 0 ∧ condE 47 = 0 := neg_one 5 46 a b rfl (by simp)
    all_goals
      go_enter Try.func8, Try.ntmps8
      go_wp2_with (first | (go_at_call 14; refine (cond_any _ _ _ _).mono ?_; rintro e w' ⟨rfl, rfl⟩) | (go_at_call 11; refine (awake_any _).mono ?_; rintro e w' ⟨rfl, rfl⟩))
      go_ret
      exact ⟨rfl, grown_eq rfl⟩

end Go.Proofs.Ytddmejhcabopgaa
