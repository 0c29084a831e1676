/- The statements of layer 1 on rings and on division. -/
import Derived.Test.YtddmejhcabopgaaNumLaw
namespace Go.Proofs.Ytddmejhcabopgaa
open Go.ChangeShapes Go.WideShapes Go.ChangeAt Go.RowKit
set_option linter.unusedSimpArgs false
set_option linter.unusedVariables false

theorem got_any (op a b : Int) (w : World) :
    Calls Try.prog 18 #[.int .i64 op, .int .i64 a, .int .i64 b] w fun e w' => e = .returned (.int .i64 (compV op a b)) ∧ w = w' := by
  go_enter Try.func18, Try.ntmps18
  go_wp2_with (go_at_call 12; refine (comp_any _ _ _ _).mono ?_; rintro e w' ⟨rfl, rfl⟩)
  go_ret
  exact ⟨rfl, rfl⟩

theorem v15 (a b : Int) : compV 15 a b = wrap32 (a + b) := by
  simp only [compV, c32V]; simp; unfold wrap32; omega
theorem v16 (a b : Int) : compV 16 a b = wrap32 (a - b) := by
  simp only [compV, c32V]; simp; unfold wrap32; omega
theorem w32 (n : Int) : ∃ k, wrap32 n = n + k * 4294967296 := ⟨(wrap32 n - n) / 4294967296, by unfold wrap32; omega⟩
theorem w64 (n : Int) : ∃ k, wrap64 n = n + k * 18446744073709551616 := ⟨(wrap64 n - n) / 18446744073709551616, by unfold wrap64; omega⟩
theorem w32_add (n k : Int) : wrap32 (n + k * 4294967296) = wrap32 n := by unfold wrap32; omega
theorem w64_add (n k : Int) : wrap64 (n + k * 18446744073709551616) = wrap64 n := by unfold wrap64; omega
theorem w32_mul (a b : Int) : wrap32 (wrap32 a * wrap32 b) = wrap32 (a * b) := by
  obtain ⟨j, hj⟩ := w32 a
  obtain ⟨k, hk⟩ := w32 b
  rw [hj, hk, show (a + j * 4294967296) * (b + k * 4294967296) = a * b + (a * k + j * b + j * 4294967296 * k) * 4294967296 by simp only [Int.add_mul, Int.mul_add, Int.mul_assoc, Int.mul_comm 4294967296]; omega, w32_add]
theorem v17 (a b : Int) : compV 17 a b = wrap32 (a * b) := by
  simp only [compV, c32V]; simp; exact w32_mul a b
theorem v27 (a b : Int) : compV 27 a b = wrap64 (a + b) := by simp [compV, c64V]
theorem v28 (a b : Int) : compV 28 a b = wrap64 (a - b) := by simp [compV, c64V]
theorem v29 (a b : Int) : compV 29 a b = wrap64 (a * b) := by simp [compV, c64V]
theorem v32 (a b : Int) : compV 32 a b = wrap64 (-a) := by simp [compV, c64V]

theorem w32_mul_r (a b : Int) : wrap32 (a * wrap32 b) = wrap32 (a * b) := by
  obtain ⟨k, hk⟩ := w32 b
  rw [hk, Int.mul_add, ← Int.mul_assoc, w32_add]
theorem w64_mul_r (a b : Int) : wrap64 (a * wrap64 b) = wrap64 (a * b) := by
  obtain ⟨k, hk⟩ := w64 b
  rw [hk, Int.mul_add, ← Int.mul_assoc, w64_add]

theorem ring_any (a b c : Int) (w0 : (Lit.int .i64 a).wf = true) (w : World) :
    Calls Try.prog 6 #[.int .i64 a, .int .i64 b, .int .i64 c] w fun e w' => e = .returned (.bool true) ∧ Grown w w' := by
  have hb := bounds_i64 w0
  have e1 : compV 16 (compV 15 a b) b = wrap32 a := by rw [v16, v15]; unfold wrap32; omega
  have e2 : compV 15 (wrap32 b) (wrap32 a) = compV 15 a b := by rw [v15, v15]; unfold wrap32; omega
  have e3 : compV 17 (wrap32 b) (wrap32 a) = compV 17 a b := by rw [v17, v17, w32_mul, Int.mul_comm]
  have e4 : compV 17 a (compV 15 b c) = compV 15 (compV 17 a b) (compV 17 a c) := by
    rw [v17, v15, v15, v17, v17, w32_mul_r, Int.mul_add]; unfold wrap32; omega
  have e5 : compV 28 (compV 27 a b) b = a := by rw [v28, v27]; unfold wrap64; omega
  have e6 : compV 29 a (compV 27 b c) = compV 27 (compV 29 a b) (compV 29 a c) := by
    rw [v29, v27, v27, v29, v29, w64_mul_r, Int.mul_add]; unfold wrap64; omega
  have e7 : compV 32 (compV 32 a 0) 0 = a := by rw [v32, v32]; unfold wrap64; omega
  go_enter Try.func6, Try.ntmps6
  go_wp2_with (first | (go_at_call 18; refine (got_any _ _ _ _).mono ?_; rintro e w' ⟨rfl, rfl⟩) | (go_at_call 9; refine (wrap_any _ _).mono ?_; rintro e w' ⟨rfl, rfl⟩) | (go_at_call 11; refine (awake_any _).mono ?_; rintro e w' ⟨rfl, rfl⟩))
  go_ret
  exact ⟨rfl, grown_eq rfl⟩

end Go.Proofs.Ytddmejhcabopgaa
