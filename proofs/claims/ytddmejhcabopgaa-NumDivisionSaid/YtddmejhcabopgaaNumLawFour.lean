/- The statement of layer 1 on division. -/
import Derived.Test.YtddmejhcabopgaaNumLawThree
namespace Go.Proofs.Ytddmejhcabopgaa
open Go.ChangeShapes Go.WideShapes Go.ChangeAt Go.RowKit
set_option linter.unusedSimpArgs false
set_option linter.unusedVariables false

theorem v18 (a b : Int) (h : wrap32 b ≠ 0) : compV 18 a b = wrap32 ((wrap32 a).tdiv (wrap32 b)) := by simp [compV, c32V, h]
theorem v19 (a b : Int) (h : wrap32 b ≠ 0) : compV 19 a b = (wrap32 a).tmod (wrap32 b) := by simp [compV, c32V, h]
theorem v30 (a b : Int) (h : b ≠ 0) : compV 30 a b = wrap64 (a.tdiv b) := by simp [compV, c64V, h]
theorem v31 (a b : Int) (h : b ≠ 0) : compV 31 a b = a.tmod b := by simp [compV, c64V, h]
theorem w32_mul_l (a b : Int) : wrap32 (wrap32 a * b) = wrap32 (a * b) := by rw [Int.mul_comm, w32_mul_r, Int.mul_comm]
theorem w64_mul_l (a b : Int) : wrap64 (wrap64 a * b) = wrap64 (a * b) := by rw [Int.mul_comm, w64_mul_r, Int.mul_comm]

theorem w32_addl (t r : Int) : wrap32 (wrap32 t + r) = wrap32 (t + r) := by unfold wrap32; omega
theorem w64_addl (t r : Int) : wrap64 (wrap64 t + r) = wrap64 (t + r) := by unfold wrap64; omega
theorem tm_sign (x y : Int) : (0 ≤ x → 0 ≤ x.tmod y) ∧ (x ≤ 0 → x.tmod y ≤ 0) := by
  constructor
  · exact Int.tmod_nonneg y
  · intro h
    have h3 := Int.neg_tmod x y
    have h4 := Int.tmod_nonneg y (show 0 ≤ -x by omega)
    omega
theorem tm_lt (x y : Int) (h : y ≠ 0) : (x.tmod y).natAbs < y.natAbs := by
  rw [Int.natAbs_tmod]; exact Nat.mod_lt _ (by omega)

theorem div_zero (a b : Int) (h : wrap32 b = 0 ∨ b = 0) (w : World) :
    Calls Try.prog 7 #[.int .i64 a, .int .i64 b] w fun e w' => e = .returned (.bool true) ∧ Grown w w' := by
  have e1 : compE 18 0 = 52 := by decide +kernel
  have e2 : compE 31 0 = 52 := by decide +kernel
  have h : wrap32 b = 0 := by rcases h with h | h; exact h; subst h; decide +kernel
  go_enter Try.func7, Try.ntmps7
  go_wp2_with (first | (go_at_call 9; refine (wrap_any _ _).mono ?_; rintro e w' ⟨rfl, rfl⟩) | (go_at_call 12; refine (comp_any _ _ _ _).mono ?_; rintro e w' ⟨rfl, rfl⟩) | (go_at_call 11; refine (awake_any _).mono ?_; rintro e w' ⟨rfl, rfl⟩))
  go_ret
  exact ⟨rfl, grown_eq rfl⟩

theorem div_walk_zn (a b q r u s j i : Int) (hq : compV 18 a b = q) (hr : compV 19 a b = r) (hu : compV 30 a b = u) (hs : compV 31 a b = s) (hjj : wrap32 b = j) (hii : wrap32 a = i) (c1 : compV 15 (compV 17 q j) r = i) (c2 : compV 27 (compV 29 u b) s = a) (hj : -2147483648 ≤ j ∧ j < 2147483648) (hi : -2147483648 ≤ i ∧ i < 2147483648) (hb0 : (b == 0) = false) (hj0 : (j == 0) = false)
    (hr0 : r = 0) (hm : j < 0) (h1 : r < -j) (h2 : -r < -j) (hs0 : s = 0 ∨ (s < 0 ∧ a < 0) ∨ (0 < s ∧ 0 ≤ a)) (w : World) :
    Calls Try.prog 7 #[.int .i64 a, .int .i64 b] w fun e w' => e = .returned (.bool true) ∧ Grown w w' := by
  subst hr0
  rcases hs0 with rfl | ⟨hs1, hs2⟩ | ⟨hs1, hs2⟩
  all_goals
    go_enter Try.func7, Try.ntmps7
    go_wp2_with (first | (go_at_call 9; refine (wrap_any _ _).mono ?_; rintro e w' ⟨rfl, rfl⟩) | (go_at_call 18; refine (got_any _ _ _ _).mono ?_; rintro e w' ⟨rfl, rfl⟩) | (go_at_call 11; refine (awake_any _).mono ?_; rintro e w' ⟨rfl, rfl⟩))
    go_ret
    exact ⟨rfl, grown_eq rfl⟩

theorem div_walk_zp (a b q r u s j i : Int) (hq : compV 18 a b = q) (hr : compV 19 a b = r) (hu : compV 30 a b = u) (hs : compV 31 a b = s) (hjj : wrap32 b = j) (hii : wrap32 a = i) (c1 : compV 15 (compV 17 q j) r = i) (c2 : compV 27 (compV 29 u b) s = a) (hj : -2147483648 ≤ j ∧ j < 2147483648) (hi : -2147483648 ≤ i ∧ i < 2147483648) (hb0 : (b == 0) = false) (hj0 : (j == 0) = false)
    (hr0 : r = 0) (hm : 0 < j) (h1 : r < j) (h2 : -r < j) (hs0 : s = 0 ∨ (s < 0 ∧ a < 0) ∨ (0 < s ∧ 0 ≤ a)) (w : World) :
    Calls Try.prog 7 #[.int .i64 a, .int .i64 b] w fun e w' => e = .returned (.bool true) ∧ Grown w w' := by
  subst hr0
  rcases hs0 with rfl | ⟨hs1, hs2⟩ | ⟨hs1, hs2⟩
  all_goals
    go_enter Try.func7, Try.ntmps7
    go_wp2_with (first | (go_at_call 9; refine (wrap_any _ _).mono ?_; rintro e w' ⟨rfl, rfl⟩) | (go_at_call 18; refine (got_any _ _ _ _).mono ?_; rintro e w' ⟨rfl, rfl⟩) | (go_at_call 11; refine (awake_any _).mono ?_; rintro e w' ⟨rfl, rfl⟩))
    go_ret
    exact ⟨rfl, grown_eq rfl⟩

theorem div_walk_nn (a b q r u s j i : Int) (hq : compV 18 a b = q) (hr : compV 19 a b = r) (hu : compV 30 a b = u) (hs : compV 31 a b = s) (hjj : wrap32 b = j) (hii : wrap32 a = i) (c1 : compV 15 (compV 17 q j) r = i) (c2 : compV 27 (compV 29 u b) s = a) (hj : -2147483648 ≤ j ∧ j < 2147483648) (hi : -2147483648 ≤ i ∧ i < 2147483648) (hb0 : (b == 0) = false) (hj0 : (j == 0) = false)
    (hr1 : r < 0) (hr2 : i < 0) (hm : j < 0) (h1 : r < -j) (h2 : -r < -j) (hs0 : s = 0 ∨ (s < 0 ∧ a < 0) ∨ (0 < s ∧ 0 ≤ a)) (w : World) :
    Calls Try.prog 7 #[.int .i64 a, .int .i64 b] w fun e w' => e = .returned (.bool true) ∧ Grown w w' := by
  rcases hs0 with rfl | ⟨hs1, hs2⟩ | ⟨hs1, hs2⟩
  all_goals
    go_enter Try.func7, Try.ntmps7
    go_wp2_with (first | (go_at_call 9; refine (wrap_any _ _).mono ?_; rintro e w' ⟨rfl, rfl⟩) | (go_at_call 18; refine (got_any _ _ _ _).mono ?_; rintro e w' ⟨rfl, rfl⟩) | (go_at_call 11; refine (awake_any _).mono ?_; rintro e w' ⟨rfl, rfl⟩))
    go_ret
    exact ⟨rfl, grown_eq rfl⟩

theorem div_walk_np (a b q r u s j i : Int) (hq : compV 18 a b = q) (hr : compV 19 a b = r) (hu : compV 30 a b = u) (hs : compV 31 a b = s) (hjj : wrap32 b = j) (hii : wrap32 a = i) (c1 : compV 15 (compV 17 q j) r = i) (c2 : compV 27 (compV 29 u b) s = a) (hj : -2147483648 ≤ j ∧ j < 2147483648) (hi : -2147483648 ≤ i ∧ i < 2147483648) (hb0 : (b == 0) = false) (hj0 : (j == 0) = false)
    (hr1 : r < 0) (hr2 : i < 0) (hm : 0 < j) (h1 : r < j) (h2 : -r < j) (hs0 : s = 0 ∨ (s < 0 ∧ a < 0) ∨ (0 < s ∧ 0 ≤ a)) (w : World) :
    Calls Try.prog 7 #[.int .i64 a, .int .i64 b] w fun e w' => e = .returned (.bool true) ∧ Grown w w' := by
  rcases hs0 with rfl | ⟨hs1, hs2⟩ | ⟨hs1, hs2⟩
  all_goals
    go_enter Try.func7, Try.ntmps7
    go_wp2_with (first | (go_at_call 9; refine (wrap_any _ _).mono ?_; rintro e w' ⟨rfl, rfl⟩) | (go_at_call 18; refine (got_any _ _ _ _).mono ?_; rintro e w' ⟨rfl, rfl⟩) | (go_at_call 11; refine (awake_any _).mono ?_; rintro e w' ⟨rfl, rfl⟩))
    go_ret
    exact ⟨rfl, grown_eq rfl⟩

theorem div_walk_pn (a b q r u s j i : Int) (hq : compV 18 a b = q) (hr : compV 19 a b = r) (hu : compV 30 a b = u) (hs : compV 31 a b = s) (hjj : wrap32 b = j) (hii : wrap32 a = i) (c1 : compV 15 (compV 17 q j) r = i) (c2 : compV 27 (compV 29 u b) s = a) (hj : -2147483648 ≤ j ∧ j < 2147483648) (hi : -2147483648 ≤ i ∧ i < 2147483648) (hb0 : (b == 0) = false) (hj0 : (j == 0) = false)
    (hr1 : 0 < r) (hr2 : 0 ≤ i) (hm : j < 0) (h1 : r < -j) (h2 : -r < -j) (hs0 : s = 0 ∨ (s < 0 ∧ a < 0) ∨ (0 < s ∧ 0 ≤ a)) (w : World) :
    Calls Try.prog 7 #[.int .i64 a, .int .i64 b] w fun e w' => e = .returned (.bool true) ∧ Grown w w' := by
  rcases hs0 with rfl | ⟨hs1, hs2⟩ | ⟨hs1, hs2⟩
  all_goals
    go_enter Try.func7, Try.ntmps7
    go_wp2_with (first | (go_at_call 9; refine (wrap_any _ _).mono ?_; rintro e w' ⟨rfl, rfl⟩) | (go_at_call 18; refine (got_any _ _ _ _).mono ?_; rintro e w' ⟨rfl, rfl⟩) | (go_at_call 11; refine (awake_any _).mono ?_; rintro e w' ⟨rfl, rfl⟩))
    go_ret
    exact ⟨rfl, grown_eq rfl⟩

theorem div_walk_pp (a b q r u s j i : Int) (hq : compV 18 a b = q) (hr : compV 19 a b = r) (hu : compV 30 a b = u) (hs : compV 31 a b = s) (hjj : wrap32 b = j) (hii : wrap32 a = i) (c1 : compV 15 (compV 17 q j) r = i) (c2 : compV 27 (compV 29 u b) s = a) (hj : -2147483648 ≤ j ∧ j < 2147483648) (hi : -2147483648 ≤ i ∧ i < 2147483648) (hb0 : (b == 0) = false) (hj0 : (j == 0) = false)
    (hr1 : 0 < r) (hr2 : 0 ≤ i) (hm : 0 < j) (h1 : r < j) (h2 : -r < j) (hs0 : s = 0 ∨ (s < 0 ∧ a < 0) ∨ (0 < s ∧ 0 ≤ a)) (w : World) :
    Calls Try.prog 7 #[.int .i64 a, .int .i64 b] w fun e w' => e = .returned (.bool true) ∧ Grown w w' := by
  rcases hs0 with rfl | ⟨hs1, hs2⟩ | ⟨hs1, hs2⟩
  all_goals
    go_enter Try.func7, Try.ntmps7
    go_wp2_with (first | (go_at_call 9; refine (wrap_any _ _).mono ?_; rintro e w' ⟨rfl, rfl⟩) | (go_at_call 18; refine (got_any _ _ _ _).mono ?_; rintro e w' ⟨rfl, rfl⟩) | (go_at_call 11; refine (awake_any _).mono ?_; rintro e w' ⟨rfl, rfl⟩))
    go_ret
    exact ⟨rfl, grown_eq rfl⟩

theorem division_any (a b : Int) (w0 : (Lit.int .i64 a).wf = true) (w1 : (Lit.int .i64 b).wf = true) (w : World) :
    Calls Try.prog 7 #[.int .i64 a, .int .i64 b] w fun e w' => e = .returned (.bool true) ∧ Grown w w' := by
  by_cases hj0 : wrap32 b = 0
  · exact div_zero a b (Or.inl hj0) w
  by_cases hb0 : b = 0
  · exact div_zero a b (Or.inr hb0) w
  have ha := bounds_i64 w0
  have hb := bounds_i64 w1
  have hj := wrap32_bd b
  have hi := wrap32_bd a
  have hrs := tm_sign (wrap32 a) (wrap32 b)
  have hrl := tm_lt (wrap32 a) (wrap32 b) hj0
  have hss := tm_sign a b
  have c1 : compV 15 (compV 17 (compV 18 a b) (wrap32 b)) (compV 19 a b) = wrap32 a := by
    rw [v15, v17, v18 a b hj0, v19 a b hj0, w32_mul_l]
    have := Int.tdiv_mul_add_tmod (wrap32 a) (wrap32 b)
    have h2 : wrap32 ((wrap32 a).tdiv (wrap32 b) * wrap32 b + (wrap32 a).tmod (wrap32 b)) = wrap32 a := by rw [this, wrap32_wrap32]
    rw [w32_addl]; exact h2
  have c2 : compV 27 (compV 29 (compV 30 a b) b) (compV 31 a b) = a := by
    rw [v27, v29, v30 a b hb0, v31 a b hb0, w64_mul_l]
    have := Int.tdiv_mul_add_tmod a b
    have h2 : wrap64 (a.tdiv b * b + a.tmod b) = a := by rw [this]; exact wrap64_id ha
    rw [w64_addl]; exact h2
  rw [← v19 a b hj0] at hrs hrl
  rw [← v31 a b hb0] at hss
  obtain ⟨q, hq⟩ : ∃ q, compV 18 a b = q := ⟨_, rfl⟩
  obtain ⟨r, hr⟩ : ∃ r, compV 19 a b = r := ⟨_, rfl⟩
  obtain ⟨u, hu⟩ : ∃ u, compV 30 a b = u := ⟨_, rfl⟩
  obtain ⟨s, hs⟩ : ∃ s, compV 31 a b = s := ⟨_, rfl⟩
  obtain ⟨j, hjj⟩ : ∃ j, wrap32 b = j := ⟨_, rfl⟩
  obtain ⟨i, hii⟩ : ∃ i, wrap32 a = i := ⟨_, rfl⟩
  rw [hq, hr, hjj, hii] at c1
  rw [hu, hs] at c2
  rw [hr, hii] at hrs
  rw [hr, hjj] at hrl
  rw [hs] at hss
  rw [hjj] at hj hj0
  rw [hii] at hi
  have hr0 : r = 0 ∨ (r < 0 ∧ i < 0) ∨ (0 < r ∧ 0 ≤ i) := by omega
  have hs0 : s = 0 ∨ (s < 0 ∧ a < 0) ∨ (0 < s ∧ 0 ≤ a) := by omega
  have kb := beqF hb0
  have kj := beqF hj0
  have hm : j < 0 ∨ 0 < j := by omega
  rcases hm with hm | hm
  · rcases hr0 with h | ⟨h, h'⟩ | ⟨h, h'⟩
    · exact div_walk_zn a b q r u s j i hq hr hu hs hjj hii c1 c2 hj hi kb kj h hm (by omega) (by omega) hs0 w
    · exact div_walk_nn a b q r u s j i hq hr hu hs hjj hii c1 c2 hj hi kb kj h h' hm (by omega) (by omega) hs0 w
    · exact div_walk_pn a b q r u s j i hq hr hu hs hjj hii c1 c2 hj hi kb kj h h' hm (by omega) (by omega) hs0 w
  · rcases hr0 with h | ⟨h, h'⟩ | ⟨h, h'⟩
    · exact div_walk_zp a b q r u s j i hq hr hu hs hjj hii c1 c2 hj hi kb kj h hm (by omega) (by omega) hs0 w
    · exact div_walk_np a b q r u s j i hq hr hu hs hjj hii c1 c2 hj hi kb kj h h' hm (by omega) (by omega) hs0 w
    · exact div_walk_pp a b q r u s j i hq hr hu hs hjj hii c1 c2 hj hi kb kj h h' hm (by omega) (by omega) hs0 w

end Go.Proofs.Ytddmejhcabopgaa
