/- Contracts of package num and of its reference: each function's result as a plain function on integers. -/
import Derived.Test.YtgiglbjkijlchaaRows
import Derived.WalkKit
import Derived.WalkLawsBesides
import Derived.ProofKit
import Derived.OpenShut
import Derived.Outline
import Derived.IntWalk
import Derived.Laws.BitsLemmas
import Derived.Lib.Hide
namespace Go.Proofs.Ytgiglbjkijlchaa
open Go.ChangeShapes Go.WideShapes Go.ChangeAt Go.RowKit
set_option linter.unusedSimpArgs false
set_option linter.unusedVariables false

theorem ret_int {k : IntKind} {a b : Int} (h : a = b) : Ending.returned (.int k a) = .returned (.int k b) := by rw [h]
theorem ret_bool {a b : Bool} (h : a = b) : Ending.returned (.bool a) = .returned (.bool b) := by rw [h]
theorem ret_ii {k l : IntKind} {a b c d : Int} (h : a = b) (h' : c = d) : Ending.returned (.tuple #[.int k a, .int l c]) = .returned (.tuple #[.int k b, .int l d]) := by rw [h, h']
theorem ret_bi {l : IntKind} {a b : Bool} {c d : Int} (h : a = b) (h' : c = d) : Ending.returned (.tuple #[.bool a, .int l c]) = .returned (.tuple #[.bool b, .int l d]) := by rw [h, h']

theorem wrap64_wrap32 (n : Int) : wrap64 (wrap32 n) = wrap32 n := by unfold wrap64 wrap32; omega
theorem wrap32_wrap64 (n : Int) : wrap32 (wrap64 n) = wrap32 n := by unfold wrap64 wrap32; omega
theorem wrap32_wrap32 (n : Int) : wrap32 (wrap32 n) = wrap32 n := by unfold wrap32; omega
theorem wrap64_wrap64 (n : Int) : wrap64 (wrap64 n) = wrap64 n := by unfold wrap64; omega
theorem wrap32_bd (n : Int) : -2147483648 ≤ wrap32 n ∧ wrap32 n < 2147483648 := by unfold wrap32; omega
theorem wrap64_bd (n : Int) : -9223372036854775808 ≤ wrap64 n ∧ wrap64 n ≤ 9223372036854775807 := by unfold wrap64; omega
theorem wrap32_id {n : Int} (h : -2147483648 ≤ n ∧ n < 2147483648) : wrap32 n = n := by unfold wrap32; omega
theorem wrap64_id {n : Int} (h : -9223372036854775808 ≤ n ∧ n ≤ 9223372036854775807) : wrap64 n = n := by unfold wrap64; omega

theorem i64_mask32 (n : Int) : bits .and .i64 n 4294967295 = n % 4294967296 := by
  have h : (BitVec.ofInt 64 4294967295).toNat = 2 ^ 32 - 1 := by decide
  have key : (BitVec.ofInt 64 n &&& BitVec.ofInt 64 4294967295).toNat = (n % ((2 ^ 64 : Nat) : Int)).toNat % 2 ^ 32 := by
    rw [BitVec.toNat_and, BitVec.toNat_ofInt, h, Nat.and_two_pow_sub_one_eq_mod]
  show IntKind.i64.wrap ((BitVec.ofInt 64 n &&& BitVec.ofInt 64 4294967295).toNat : Nat) = n % 4294967296
  rw [key, IntKind.wrap_i64]
  omega
theorem i64_mask5 (n : Int) : bits .and .i64 n 31 = n % 32 := by
  have h : (BitVec.ofInt 64 31).toNat = 2 ^ 5 - 1 := by decide
  have key : (BitVec.ofInt 64 n &&& BitVec.ofInt 64 31).toNat = (n % ((2 ^ 64 : Nat) : Int)).toNat % 2 ^ 5 := by
    rw [BitVec.toNat_and, BitVec.toNat_ofInt, h, Nat.and_two_pow_sub_one_eq_mod]
  show IntKind.i64.wrap ((BitVec.ofInt 64 n &&& BitVec.ofInt 64 31).toNat : Nat) = n % 32
  rw [key, IntKind.wrap_i64]
  omega

def cmpI (a b : Int) : Int := if a < b then -1 else if b < a then 1 else 0

theorem wrap_any (n : Int) (w : World) :
    Calls Try.prog 49 #[.int .i64 n] w fun e w' => e = .returned (.int .i64 (wrap32 n)) ∧ w = w' := by
  go_enter Try.func49, Try.ntmps49
  go_wp2
  go_ret
  exact ⟨ret_int (wrap64_wrap32 _), rfl⟩

theorem nan_any (n : Int) (w : World) :
    Calls Try.prog 62 #[.int .i64 n] w fun e w' => e = .returned (.bool false) ∧ w = w' := by
  go_enter Try.func62, Try.ntmps62
  go_wp2
  go_ret
  exact ⟨rfl, rfl⟩

theorem ccmp_any (a b : Int) (w : World) :
    Calls Try.prog 57 #[.int .i64 a, .int .i64 b] w fun e w' => e = .returned (.int .i64 (cmpI a b)) ∧ w = w' := by
  unfold cmpI
  by_cases h1 : a < b
  · go_enter Try.func57, Try.ntmps57
    go_wp2_with (go_at_call 62; refine (nan_any _ _).mono ?_; rintro e w' ⟨rfl, rfl⟩)
    go_ret
    exact ⟨by simp [h1], rfl⟩
  · by_cases h2 : b < a
    · go_enter Try.func57, Try.ntmps57
      go_wp2_with (go_at_call 62; refine (nan_any _ _).mono ?_; rintro e w' ⟨rfl, rfl⟩)
      go_ret
      exact ⟨by simp [h1, h2], rfl⟩
    · go_enter Try.func57, Try.ntmps57
      go_wp2_with (go_at_call 62; refine (nan_any _ _).mono ?_; rintro e w' ⟨rfl, rfl⟩)
      go_ret
      exact ⟨by simp [h1, h2], rfl⟩

theorem cmp_any (a b : Int) (w : World) :
    Calls Try.prog 48 #[.int .i64 a, .int .i64 b] w fun e w' => e = .returned (.int .i64 (cmpI a b)) ∧ w = w' := by
  go_enter Try.func48, Try.ntmps48
  go_wp2_with (go_at_call 57; refine (ccmp_any _ _ _).mono ?_; rintro e w' ⟨rfl, rfl⟩)
  go_ret
  exact ⟨rfl, rfl⟩

/-- the answer of an operation on two 32-bit numbers -/
def c32V (op a b : Int) : Int :=
  if op = 15 then wrap32 (a + b) else if op = 16 then wrap32 (a - b) else if op = 17 then wrap32 (a * b)
  else if op = 18 then (if b = 0 then 0 else wrap32 (a.tdiv b)) else if op = 19 then (if b = 0 then 0 else a.tmod b)
  else if op = 20 then wrap32 (-a) else if op = 21 then wrap32 (a * 2 ^ (b % 32).toNat)
  else if op = 22 then a / 2 ^ (b % 32).toNat else if op = 23 then wrap32 (a % 4294967296 / 2 ^ (b % 32).toNat)
  else if op = 24 then bits .and .i64 a b else if op = 25 then bits .or .i64 a b else bits .xor .i64 a b
def c32E (op b : Int) : Int := if (op = 18 ∨ op = 19) ∧ b = 0 then 52 else 0

theorem tdiv_bd (a b : Int) (h1 : -2147483648 ≤ a) (h2 : a < 2147483648) : -2147483648 ≤ a.tdiv b ∧ a.tdiv b ≤ 2147483648 := by
  have := Int.natAbs_tdiv_le_natAbs a b
  omega
theorem tmod_bd (a b : Int) (h1 : -2147483648 ≤ a) (h2 : a < 2147483648) : -2147483648 ≤ a.tmod b ∧ a.tmod b < 2147483648 := by
  have h := Int.natAbs_tmod a b
  have h' := Nat.mod_le a.natAbs b.natAbs
  by_cases h0 : 0 ≤ a
  · have := Int.tmod_nonneg b h0; omega
  · have := Int.tmod_neg a b
    have h3 := Int.neg_tmod a b
    have h4 := Int.tmod_nonneg b (show 0 ≤ -a by omega)
    omega

theorem div32_zero (op a : Int) (w : World) :
    Calls Try.prog 58 #[.int .i64 op, .int .i64 a, .int .i64 0] w fun e w' => e = .returned (.tuple #[.int .i64 0, .int .i64 52]) ∧ w = w' := by
  go_enter Try.func58, Try.ntmps58
  go_wp2
  go_ret2
  exact ⟨rfl, rfl⟩
theorem div32_div (a b : Int) (hb : b ≠ 0) (w : World) :
    Calls Try.prog 58 #[.int .i64 18, .int .i64 a, .int .i64 b] w fun e w' => e = .returned (.tuple #[.int .i64 (wrap32 (a.tdiv b)), .int .i64 0]) ∧ w = w' := by
  go_enter Try.func58, Try.ntmps58
  go_wp2_with (go_at_call 49; refine (wrap_any _ _).mono ?_; rintro e w' ⟨rfl, rfl⟩)
  go_ret2
  exact ⟨ret_ii (wrap32_wrap64 _) rfl, rfl⟩
theorem div32_rem (a b : Int) (hb : b ≠ 0) (w : World) :
    Calls Try.prog 58 #[.int .i64 19, .int .i64 a, .int .i64 b] w fun e w' => e = .returned (.tuple #[.int .i64 (wrap32 (a.tmod b)), .int .i64 0]) ∧ w = w' := by
  go_enter Try.func58, Try.ntmps58
  go_wp2_with (go_at_call 49; refine (wrap_any _ _).mono ?_; rintro e w' ⟨rfl, rfl⟩)
  go_ret2
  exact ⟨ret_ii rfl rfl, rfl⟩

theorem u64_small (b : Int) : min (IntKind.u64.wrap (b % 32)).toNat 64 = (b % 32).toNat ∧ min (IntKind.u64.wrap (b % 32)).toNat 32 = (b % 32).toNat := by
  rw [IntWalk.u64_in _ (by omega)]; omega
theorem ushr_bd (a b : Int) : 0 ≤ a % 4294967296 / 2 ^ (b % 32).toNat ∧ a % 4294967296 / 2 ^ (b % 32).toNat < 4294967296 := by
  have hp : (0 : Int) < 2 ^ (b % 32).toNat := Int.pow_pos (by decide)
  have h0 : 0 ≤ a % 4294967296 := by omega
  have h1 := Int.ediv_nonneg h0 (Int.le_of_lt hp)
  have h2 := Int.ediv_le_self (2 ^ (b % 32).toNat) h0
  omega

theorem c32_any (op a b : Int) (h15 : 15 ≤ op) (h26 : op ≤ 26) (ha1 : -2147483648 ≤ a) (ha2 : a < 2147483648) (hb1 : -2147483648 ≤ b) (hb2 : b < 2147483648) (w : World) :
    Calls Try.prog 50 #[.int .i64 op, .int .i64 a, .int .i64 b] w fun e w' => e = .returned (.tuple #[.int .i64 (c32V op a b), .int .i64 (c32E op b)]) ∧ w = w' := by
  have hsh := u64_small b
  rcases (by omega : op = 15 ∨ op = 16 ∨ op = 17 ∨ op = 18 ∨ op = 19 ∨ op = 20 ∨ op = 21 ∨ op = 22 ∨ op = 23 ∨ op = 24 ∨ op = 25 ∨ op = 26) with rfl | rfl | rfl | rfl | rfl | rfl | rfl | rfl | rfl | rfl | rfl | rfl
  · clear hsh
    go_enter Try.func50, Try.ntmps50
    go_wp2_with (go_at_call 49; refine (wrap_any _ _).mono ?_; rintro e w' ⟨rfl, rfl⟩)
    go_ret2
    exact ⟨ret_ii rfl rfl, rfl⟩
  · clear hsh
    go_enter Try.func50, Try.ntmps50
    go_wp2_with (go_at_call 49; refine (wrap_any _ _).mono ?_; rintro e w' ⟨rfl, rfl⟩)
    go_ret2
    exact ⟨ret_ii rfl rfl, rfl⟩
  · clear hsh
    go_enter Try.func50, Try.ntmps50
    go_wp2_with (go_at_call 49; refine (wrap_any _ _).mono ?_; rintro e w' ⟨rfl, rfl⟩)
    go_ret2
    exact ⟨ret_ii (wrap32_wrap64 _) rfl, rfl⟩
  · clear hsh
    by_cases hb : b = 0
    · subst hb
      go_enter Try.func50, Try.ntmps50
      go_wp2_with (go_at_call 58; refine (div32_zero _ _ _).mono ?_; rintro e w' ⟨rfl, rfl⟩)
      go_ret2
      exact ⟨ret_ii rfl rfl, rfl⟩
    · go_enter Try.func50, Try.ntmps50
      go_wp2_with (go_at_call 58; refine (div32_div _ _ hb _).mono ?_; rintro e w' ⟨rfl, rfl⟩)
      go_ret2
      exact ⟨ret_ii (by simp [c32V, hb]) (by simp [c32E, hb]), rfl⟩
  · clear hsh
    by_cases hb : b = 0
    · subst hb
      go_enter Try.func50, Try.ntmps50
      go_wp2_with (go_at_call 58; refine (div32_zero _ _ _).mono ?_; rintro e w' ⟨rfl, rfl⟩)
      go_ret2
      exact ⟨ret_ii rfl rfl, rfl⟩
    · go_enter Try.func50, Try.ntmps50
      go_wp2_with (go_at_call 58; refine (div32_rem _ _ hb _).mono ?_; rintro e w' ⟨rfl, rfl⟩)
      go_ret2
      exact ⟨ret_ii (by simp [c32V, hb]; exact wrap32_id (tmod_bd a b ha1 ha2)) (by simp [c32E, hb]), rfl⟩
  · clear hsh
    go_enter Try.func50, Try.ntmps50
    go_wp2_with (go_at_call 49; refine (wrap_any _ _).mono ?_; rintro e w' ⟨rfl, rfl⟩)
    go_ret2
    exact ⟨ret_ii (by simp [c32V, wrap32_wrap64]) rfl, rfl⟩
  · go_enter Try.func50, Try.ntmps50
    go_wp2_with (go_at_call 49; refine (wrap_any _ _).mono ?_; rintro e w' ⟨rfl, rfl⟩)
    go_ret2
    exact ⟨ret_ii (by simp [c32V, wrap32_wrap64, i64_mask5, hsh]) rfl, rfl⟩
  · go_enter Try.func50, Try.ntmps50
    go_wp2_with (go_at_call 49; refine (wrap_any _ _).mono ?_; rintro e w' ⟨rfl, rfl⟩)
    go_ret2
    exact ⟨ret_ii (by simp [c32V, wrap32_wrap64, i64_mask5, hsh]) rfl, rfl⟩
  · go_enter Try.func50, Try.ntmps50
    go_wp2_with (go_at_call 49; refine (wrap_any _ _).mono ?_; rintro e w' ⟨rfl, rfl⟩)
    go_ret2
    exact ⟨ret_ii (by simp [c32V, wrap32_wrap64, i64_mask5, hsh]) rfl, rfl⟩
  all_goals
    clear hsh
    go_enter Try.func50, Try.ntmps50
    go_wp2_with (go_at_call 49; refine (wrap_any _ _).mono ?_; rintro e w' ⟨rfl, rfl⟩)
    go_ret2
    exact ⟨ret_ii rfl rfl, rfl⟩

end Go.Proofs.Ytgiglbjkijlchaa
