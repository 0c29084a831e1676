/- Contracts of the reference of layer 1: the same plain functions as package num. -/
import Derived.Test.YtgiglbjkijlchaaNumLaw
import Derived.LoopTactic
namespace Go.Proofs.Ytgiglbjkijlchaa
open Go.ChangeShapes Go.WideShapes Go.ChangeAt Go.RowKit
set_option linter.unusedSimpArgs false
set_option linter.unusedVariables false

theorem rwrap_any (n : Int) (w : World) :
    Calls Try.prog 54 #[.int .i64 n] w fun e w' => e = .returned (.int .i64 (wrap32 n)) ∧ w = w' := by
  have hm := i64_mask32 n
  have hb : 0 ≤ n % 4294967296 ∧ n % 4294967296 < 4294967296 := by omega
  by_cases h : n % 4294967296 < 2147483648
  · go_enter Try.func54, Try.ntmps54
    go_wp2
    go_ret
    exact ⟨ret_int (by unfold wrap32; omega), rfl⟩
  · go_enter Try.func54, Try.ntmps54
    go_wp2
    go_ret
    exact ⟨ret_int (by unfold wrap32; omega), rfl⟩

theorem pow_bd (k : Nat) (h : k ≤ 31) : 1 ≤ (2 : Int) ^ k ∧ (2 : Int) ^ k ≤ 2147483648 := by
  have h1 : (0 : Int) < 2 ^ k := Int.pow_pos (by decide)
  have h2 : (2 : Nat) ^ k ≤ 2 ^ 31 := Nat.pow_le_pow_right (by decide) h
  have h3 : ((2 ^ k : Nat) : Int) = (2 : Int) ^ k := by simp
  omega

theorem pow_up (k : Nat) : 2 * (2 : Int) ^ k = 2 ^ (k + 1) := by rw [Int.pow_succ]; omega

theorem power_any (m : Nat) (hm : m ≤ 31) (w : World) :
    Calls Try.prog 59 #[.int .i64 m] w fun e w' => e = .returned (.int .i64 (2 ^ m)) ∧ w = w' := by
  go_enter Try.func59, Try.ntmps59
  go_wp2
  go_loop [3, 4] (fun n i => ∃ k : Nat, k ≤ m ∧ i = .int .i64 k ∧ n = .int .i64 (2 ^ k)) (fun _ i => m - (intOf i).toNat)
  case atStart => exact ⟨0, Nat.zero_le _, rfl, rfl⟩
  case round =>
    obtain ⟨k, hk, rfl, rfl⟩ := hrel
    by_cases hlt : k < m
    · have hb := pow_bd k (by omega)
      go_wp2
      go_round
      case rel => exact ⟨k + 1, by omega, by go_num, by rw [pow_up]⟩
      case measure => simp [intOf]; omega
    · obtain rfl : k = m := by omega
      go_wp2
      go_ret
      exact ⟨rfl, rfl⟩

def rdivV (a b : Int) : Int := if b = -1 then wrap64 (-a) else wrap64 (a.tdiv b)

theorem rdiv_any (a b : Int) (hb : b ≠ 0) (w : World) :
    Calls Try.prog 60 #[.int .i64 a, .int .i64 b] w fun e w' => e = .returned (.int .i64 (rdivV a b)) ∧ w = w' := by
  by_cases h : b = -1
  · subst h
    go_enter Try.func60, Try.ntmps60
    go_wp2
    go_ret
    exact ⟨rfl, rfl⟩
  · go_enter Try.func60, Try.ntmps60
    go_wp2
    go_ret
    exact ⟨ret_int (by simp [rdivV, h]), rfl⟩

theorem rbelow_any (a p : Int) (ha1 : -2147483648 ≤ a) (ha2 : a < 2147483648) (hp : 1 ≤ p) (hp2 : p ≤ 2147483648) (w : World) :
    Calls Try.prog 61 #[.int .i64 a, .int .i64 p] w fun e w' => e = .returned (.int .i64 (a / p)) ∧ w = w' := by
  by_cases h : a < 0
  · have e : a / p = -((p - 1 - a) / p) := by
      have h1 := Int.mul_ediv_add_emod a p
      have h2 := Int.emod_nonneg a (show p ≠ 0 by omega)
      have h3 := Int.emod_lt_of_pos a (show 0 < p by omega)
      have : (p - 1 - a) = (p - 1 - a % p) + p * (-(a / p)) := by rw [Int.mul_neg]; omega
      have hz : (p - 1 - a % p) / p = 0 := Int.ediv_eq_zero_of_lt (by omega) (by omega)
      rw [this, Int.add_mul_ediv_left _ _ (show p ≠ 0 by omega), hz]; omega
    have hb : 0 ≤ (p - 1 - a) / p ∧ (p - 1 - a) / p ≤ p - 1 - a := ⟨Int.ediv_nonneg (by omega) (by omega), Int.ediv_le_self _ (by omega)⟩
    have e' := Lib.hid e
    clear e
    go_enter Try.func61, Try.ntmps61
    go_wp2
    go_ret
    exact ⟨ret_int e'.out.symm, rfl⟩
  · go_enter Try.func61, Try.ntmps61
    go_wp2
    go_ret
    exact ⟨rfl, rfl⟩

end Go.Proofs.Ytgiglbjkijlchaa
