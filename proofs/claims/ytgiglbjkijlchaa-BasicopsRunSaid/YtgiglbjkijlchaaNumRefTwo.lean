/- Contracts of the reference of layer 1, continued: Compute, Compare, Condition. -/
import Derived.Test.YtgiglbjkijlchaaNumRef
namespace Go.Proofs.Ytgiglbjkijlchaa
open Go.ChangeShapes Go.WideShapes Go.ChangeAt Go.RowKit
set_option linter.unusedSimpArgs false
set_option linter.unusedVariables false

theorem power_int (x : Int) (h0 : 0 ≤ x) (h : x ≤ 31) (w : World) :
    Calls Try.prog 59 #[.int .i64 x] w fun e w' => e = .returned (.int .i64 (2 ^ x.toNat)) ∧ w = w' := by
  obtain ⟨m, rfl⟩ : ∃ m : Nat, x = m := ⟨x.toNat, by omega⟩
  exact power_any m (by omega) w

theorem sx (a : Int) (h1 : -2147483648 ≤ a) (h2 : a < 2147483648) : BitVec.ofInt 64 a = (BitVec.ofInt 32 a).signExtend 64 := by
  apply BitVec.eq_of_toInt_eq
  rw [BitVec.toInt_signExtend_of_le (by omega), BitVec.toInt_ofInt, BitVec.toInt_ofInt]
  simp only [Int.bmod_def]; omega
theorem bits_bd (f : BitVec 64 → BitVec 64 → BitVec 64) (g : BitVec 32 → BitVec 32 → BitVec 32) (hfg : ∀ x y, f (x.signExtend 64) (y.signExtend 64) = (g x y).signExtend 64)
    (a b : Int) (h1 : -2147483648 ≤ a) (h2 : a < 2147483648) (h3 : -2147483648 ≤ b) (h4 : b < 2147483648) :
    wrap32 (IntKind.i64.wrap ((f (BitVec.ofInt 64 a) (BitVec.ofInt 64 b)).toNat : Nat)) = IntKind.i64.wrap ((f (BitVec.ofInt 64 a) (BitVec.ofInt 64 b)).toNat : Nat) := by
  rw [sx a h1 h2, sx b h3 h4, hfg]
  have e : IntKind.i64.wrap (((g (BitVec.ofInt 32 a) (BitVec.ofInt 32 b)).signExtend 64).toNat : Nat) = (g (BitVec.ofInt 32 a) (BitVec.ofInt 32 b)).toInt := by
    rw [← BitVec.toInt_signExtend_of_le (w := 32) (v := 64) (by omega), BitVec.toInt_eq_toNat_bmod, IntKind.wrap_i64]
    simp only [Int.bmod_def]; omega
  rw [e]
  have := BitVec.toInt_lt (x := g (BitVec.ofInt 32 a) (BitVec.ofInt 32 b))
  have := BitVec.le_toInt (x := g (BitVec.ofInt 32 a) (BitVec.ofInt 32 b))
  exact wrap32_id (by omega)
theorem and_bd (a b : Int) (h1 : -2147483648 ≤ a) (h2 : a < 2147483648) (h3 : -2147483648 ≤ b) (h4 : b < 2147483648) : wrap32 (bits .and .i64 a b) = bits .and .i64 a b :=
  bits_bd (· &&& ·) (· &&& ·) (fun x y => (BitVec.signExtend_and ..).symm) a b h1 h2 h3 h4
theorem or_bd (a b : Int) (h1 : -2147483648 ≤ a) (h2 : a < 2147483648) (h3 : -2147483648 ≤ b) (h4 : b < 2147483648) : wrap32 (bits .or .i64 a b) = bits .or .i64 a b :=
  bits_bd (· ||| ·) (· ||| ·) (fun x y => (BitVec.signExtend_or ..).symm) a b h1 h2 h3 h4
theorem xor_bd (a b : Int) (h1 : -2147483648 ≤ a) (h2 : a < 2147483648) (h3 : -2147483648 ≤ b) (h4 : b < 2147483648) : wrap32 (bits .xor .i64 a b) = bits .xor .i64 a b :=
  bits_bd (· ^^^ ·) (· ^^^ ·) (fun x y => (BitVec.signExtend_xor ..).symm) a b h1 h2 h3 h4

theorem rdivV_eq (a b : Int) (h1 : -9223372036854775808 ≤ a) (h2 : a ≤ 9223372036854775807) : rdivV a b = wrap64 (a.tdiv b) := by
  unfold rdivV; split
  · next h => subst h; rw [Int.tdiv_neg, Int.tdiv_one]
  · rfl
theorem rdivV_32 (a b : Int) (h1 : -2147483648 ≤ a) (h2 : a < 2147483648) : rdivV a b = a.tdiv b := by
  have := tdiv_bd a b h1 h2
  rw [rdivV_eq a b (by omega) (by omega), wrap64_id (by omega)]
theorem mul_tdiv_bd (a b : Int) : (0 ≤ b * a.tdiv b ∧ b * a.tdiv b ≤ a) ∨ (a ≤ b * a.tdiv b ∧ b * a.tdiv b ≤ 0) := by
  have h := Int.tmod_def a b
  have hm := Int.natAbs_tmod a b
  have h' := Nat.mod_le a.natAbs b.natAbs
  by_cases h0 : 0 ≤ a
  · have := Int.tmod_nonneg b h0; omega
  · have h3 := Int.neg_tmod a b
    have h4 := Int.tmod_nonneg b (show 0 ≤ -a by omega)
    omega

theorem rints_any (op a b : Int) (h15 : 15 ≤ op) (h26 : op ≤ 26) (ha1 : -2147483648 ≤ a) (ha2 : a < 2147483648) (hb1 : -2147483648 ≤ b) (hb2 : b < 2147483648) (w : World) :
    Calls Try.prog 53 #[.int .i64 op, .int .i64 a, .int .i64 b] w fun e w' => e = .returned (.tuple #[.int .i64 (c32V op a b), .int .i64 (c32E op b)]) ∧ w = w' := by
  have hm := i64_mask5 b
  have hp : 0 ≤ b % 32 ∧ b % 32 ≤ 31 := by omega
  rcases (by omega : op = 15 ∨ op = 16 ∨ op = 17 ∨ op = 18 ∨ op = 19 ∨ op = 20 ∨ op = 21 ∨ op = 22 ∨ op = 23 ∨ op = 24 ∨ op = 25 ∨ op = 26) with rfl | rfl | rfl | rfl | rfl | rfl | rfl | rfl | rfl | rfl | rfl | rfl
  · go_enter Try.func53, Try.ntmps53
    go_wp2_with (first | (go_at_call 54; refine (rwrap_any _ _).mono ?_; rintro e w' ⟨rfl, rfl⟩) | (go_at_call 59; refine (power_int _ hp.1 hp.2 _).mono ?_; rintro e w' ⟨rfl, rfl⟩))
    go_ret2
    exact ⟨ret_ii rfl rfl, rfl⟩
  · go_enter Try.func53, Try.ntmps53
    go_wp2_with (first | (go_at_call 54; refine (rwrap_any _ _).mono ?_; rintro e w' ⟨rfl, rfl⟩) | (go_at_call 59; refine (power_int _ hp.1 hp.2 _).mono ?_; rintro e w' ⟨rfl, rfl⟩))
    go_ret2
    exact ⟨ret_ii rfl rfl, rfl⟩
  · go_enter Try.func53, Try.ntmps53
    go_wp2_with (first | (go_at_call 54; refine (rwrap_any _ _).mono ?_; rintro e w' ⟨rfl, rfl⟩) | (go_at_call 59; refine (power_int _ hp.1 hp.2 _).mono ?_; rintro e w' ⟨rfl, rfl⟩))
    go_ret2
    exact ⟨ret_ii (wrap32_wrap64 _) rfl, rfl⟩
  · by_cases hb : b = 0
    · subst hb
      have e0 : bits .and .i64 0 31 = 0 := by decide +kernel
      clear hm hp
      go_enter Try.func53, Try.ntmps53
      go_wp2_with (first | (go_at_call 54; refine (rwrap_any _ _).mono ?_; rintro e w' ⟨rfl, rfl⟩) | (go_at_call 59; refine (power_int _ (by omega) (by omega) _).mono ?_; rintro e w' ⟨rfl, rfl⟩))
      go_ret2
      exact ⟨ret_ii rfl rfl, rfl⟩
    · have hq := rdivV_32 a b ha1 ha2
      go_enter Try.func53, Try.ntmps53
      go_wp2_with (first | (go_at_call 54; refine (rwrap_any _ _).mono ?_; rintro e w' ⟨rfl, rfl⟩) | (go_at_call 59; refine (power_int _ hp.1 hp.2 _).mono ?_; rintro e w' ⟨rfl, rfl⟩) | (go_at_call 60; refine (rdiv_any _ _ hb _).mono ?_; rintro e w' ⟨rfl, rfl⟩))
      go_ret2
      exact ⟨ret_ii (by simp [c32V, hb]) (by simp [c32E, hb]), rfl⟩
  · by_cases hb : b = 0
    · subst hb
      have e0 : bits .and .i64 0 31 = 0 := by decide +kernel
      clear hm hp
      go_enter Try.func53, Try.ntmps53
      go_wp2_with (first | (go_at_call 54; refine (rwrap_any _ _).mono ?_; rintro e w' ⟨rfl, rfl⟩) | (go_at_call 59; refine (power_int _ (by omega) (by omega) _).mono ?_; rintro e w' ⟨rfl, rfl⟩))
      go_ret2
      exact ⟨ret_ii rfl rfl, rfl⟩
    · have hq := rdivV_32 a b ha1 ha2
      have hr := mul_tdiv_bd a b
      have e1 : wrap64 (b * a.tdiv b) = b * a.tdiv b := wrap64_id (by omega)
      have e2 : wrap64 (a - b * a.tdiv b) = a.tmod b := by rw [wrap64_id (by omega), Int.tmod_def]
      clear hr
      go_enter Try.func53, Try.ntmps53
      go_wp2_with (first | (go_at_call 54; refine (rwrap_any _ _).mono ?_; rintro e w' ⟨rfl, rfl⟩) | (go_at_call 59; refine (power_int _ hp.1 hp.2 _).mono ?_; rintro e w' ⟨rfl, rfl⟩) | (go_at_call 60; refine (rdiv_any _ _ hb _).mono ?_; rintro e w' ⟨rfl, rfl⟩))
      go_ret2
      exact ⟨ret_ii (by simp [c32V, hb]; exact e2) (by simp [c32E, hb]), rfl⟩
  · go_enter Try.func53, Try.ntmps53
    go_wp2_with (first | (go_at_call 54; refine (rwrap_any _ _).mono ?_; rintro e w' ⟨rfl, rfl⟩) | (go_at_call 59; refine (power_int _ hp.1 hp.2 _).mono ?_; rintro e w' ⟨rfl, rfl⟩))
    go_ret2
    exact ⟨ret_ii (by simp [c32V, wrap32_wrap64]) rfl, rfl⟩
  · go_enter Try.func53, Try.ntmps53
    go_wp2_with (first | (go_at_call 54; refine (rwrap_any _ _).mono ?_; rintro e w' ⟨rfl, rfl⟩) | (go_at_call 59; refine (power_int _ hp.1 hp.2 _).mono ?_; rintro e w' ⟨rfl, rfl⟩))
    go_ret2
    exact ⟨ret_ii (wrap32_wrap64 _) rfl, rfl⟩
  · have hpw := pow_bd (b % 32).toNat (by omega)
    go_enter Try.func53, Try.ntmps53
    go_wp2_with (first | (go_at_call 54; refine (rwrap_any _ _).mono ?_; rintro e w' ⟨rfl, rfl⟩) | (go_at_call 59; refine (power_int _ hp.1 hp.2 _).mono ?_; rintro e w' ⟨rfl, rfl⟩) | (go_at_call 61; refine (rbelow_any _ _ ha1 ha2 hpw.1 hpw.2 _).mono ?_; rintro e w' ⟨rfl, rfl⟩))
    go_ret2
    exact ⟨ret_ii rfl rfl, rfl⟩
  · have hpw := pow_bd (b % 32).toNat (by omega)
    have hk := i64_mask32 a
    have h0 : 0 ≤ a % 4294967296 ∧ a % 4294967296 ≤ 4294967295 := by omega
    go_enter Try.func53, Try.ntmps53
    go_wp2_with (first | (go_at_call 54; refine (rwrap_any _ _).mono ?_; rintro e w' ⟨rfl, rfl⟩) | (go_at_call 59; refine (power_int _ hp.1 hp.2 _).mono ?_; rintro e w' ⟨rfl, rfl⟩))
    go_ret2
    exact ⟨ret_ii rfl rfl, rfl⟩
  · go_enter Try.func53, Try.ntmps53
    go_wp2_with (first | (go_at_call 54; refine (rwrap_any _ _).mono ?_; rintro e w' ⟨rfl, rfl⟩) | (go_at_call 59; refine (power_int _ hp.1 hp.2 _).mono ?_; rintro e w' ⟨rfl, rfl⟩))
    go_ret2
    exact ⟨ret_ii (and_bd a b ha1 ha2 hb1 hb2) rfl, rfl⟩
  · go_enter Try.func53, Try.ntmps53
    go_wp2_with (first | (go_at_call 54; refine (rwrap_any _ _).mono ?_; rintro e w' ⟨rfl, rfl⟩) | (go_at_call 59; refine (power_int _ hp.1 hp.2 _).mono ?_; rintro e w' ⟨rfl, rfl⟩))
    go_ret2
    exact ⟨ret_ii (or_bd a b ha1 ha2 hb1 hb2) rfl, rfl⟩
  · go_enter Try.func53, Try.ntmps53
    go_wp2_with (first | (go_at_call 54; refine (rwrap_any _ _).mono ?_; rintro e w' ⟨rfl, rfl⟩) | (go_at_call 59; refine (power_int _ hp.1 hp.2 _).mono ?_; rintro e w' ⟨rfl, rfl⟩))
    go_ret2
    exact ⟨ret_ii (xor_bd a b ha1 ha2 hb1 hb2) rfl, rfl⟩

theorem rcmp_any (a b : Int) (w : World) :
    Calls Try.prog 56 #[.int .i64 a, .int .i64 b] w fun e w' => e = .returned (.int .i64 (cmpI a b)) ∧ w = w' := by
  unfold cmpI
  by_cases h1 : a < b
  · go_enter Try.func56, Try.ntmps56
    go_wp2
    go_ret
    exact ⟨by simp [h1], rfl⟩
  · by_cases h2 : b < a
    · go_enter Try.func56, Try.ntmps56
      go_wp2
      go_ret
      exact ⟨by simp [h1, h2], rfl⟩
    · go_enter Try.func56, Try.ntmps56
      go_wp2
      go_ret
      exact ⟨by simp [h1, h2], rfl⟩

theorem rlongs_any (op a b : Int) (h15 : 27 ≤ op) (h26 : op ≤ 32) (ha1 : -9223372036854775808 ≤ a) (ha2 : a ≤ 9223372036854775807) (w : World) :
    Calls Try.prog 55 #[.int .i64 op, .int .i64 a, .int .i64 b] w fun e w' => e = .returned (.tuple #[.int .i64 (c64V op a b), .int .i64 (c64E op b)]) ∧ w = w' := by
  rcases (by omega : op = 27 ∨ op = 28 ∨ op = 29 ∨ op = 30 ∨ op = 31 ∨ op = 32) with rfl | rfl | rfl | rfl | rfl | rfl
  · go_enter Try.func55, Try.ntmps55
    go_wp2
    go_ret2
    exact ⟨ret_ii rfl rfl, rfl⟩
  · go_enter Try.func55, Try.ntmps55
    go_wp2
    go_ret2
    exact ⟨ret_ii rfl rfl, rfl⟩
  · go_enter Try.func55, Try.ntmps55
    go_wp2
    go_ret2
    exact ⟨ret_ii rfl rfl, rfl⟩
  · by_cases hb : b = 0
    · subst hb
      go_enter Try.func55, Try.ntmps55
      go_wp2
      go_ret2
      exact ⟨ret_ii rfl rfl, rfl⟩
    · have hq := rdivV_eq a b ha1 ha2
      go_enter Try.func55, Try.ntmps55
      go_wp2_with (go_at_call 60; refine (rdiv_any _ _ hb _).mono ?_; rintro e w' ⟨rfl, rfl⟩)
      go_ret2
      exact ⟨ret_ii (by simp [c64V, hb]) (by simp [c64E, hb]), rfl⟩
  · by_cases hb : b = 0
    · subst hb
      go_enter Try.func55, Try.ntmps55
      go_wp2
      go_ret2
      exact ⟨ret_ii rfl rfl, rfl⟩
    · have hq := rdivV_eq a b ha1 ha2
      have hr : wrap64 (a - wrap64 (b * wrap64 (a.tdiv b))) = a.tmod b := by
        have h1 := mul_tdiv_bd a b
        have h2 : wrap64 (b * wrap64 (a.tdiv b)) = b * a.tdiv b ∨ b = -1 := by
          by_cases h : b = -1
          · exact Or.inr h
          · left
            have h3 : -9223372036854775808 ≤ a.tdiv b ∧ a.tdiv b ≤ 9223372036854775807 := by
              have h4 := Int.natAbs_tdiv_le_natAbs a b
              by_cases ha : a.natAbs ≤ 9223372036854775807
              · omega
              · obtain rfl : a = -9223372036854775808 := by omega
                by_cases hb2 : b.natAbs = 1
                · obtain rfl : b = 1 := by omega
                  decide
                · have hd : ((-9223372036854775808 : Int).tdiv b).natAbs = Int.natAbs (-9223372036854775808) / b.natAbs := Int.natAbs_tdiv (-9223372036854775808) b
                  generalize (-9223372036854775808 : Int).tdiv b = q at *
                  have h5 : Int.natAbs (-9223372036854775808) / b.natAbs ≤ Int.natAbs (-9223372036854775808) / 2 := Nat.div_le_div_left (by omega) (by decide)
                  have h6 : Int.natAbs (-9223372036854775808) / 2 = 4611686018427387904 := by decide
                  omega
            rw [wrap64_id h3, wrap64_id (by omega)]
        rcases h2 with h2 | rfl
        · rw [h2, wrap64_id (by omega), Int.tmod_def]
        · rw [Int.tdiv_neg, Int.tdiv_one, Int.tmod_neg, Int.tmod_one]
          unfold wrap64; omega
      go_enter Try.func55, Try.ntmps55
      go_wp2_with (go_at_call 60; refine (rdiv_any _ _ hb _).mono ?_; rintro e w' ⟨rfl, rfl⟩)
      go_ret2
      exact ⟨ret_ii (by simp [c64V, hb]; exact hr) (by simp [c64E, hb]), rfl⟩
  · go_enter Try.func55, Try.ntmps55
    go_wp2
    go_ret2
    exact ⟨ret_ii rfl rfl, rfl⟩

theorem rcomp_any (op a b : Int) (ha1 : -9223372036854775808 ≤ a) (ha2 : a ≤ 9223372036854775807) (w : World) :
    Calls Try.prog 38 #[.int .i64 op, .int .i64 a, .int .i64 b] w fun e w' => e = .returned (.tuple #[.int .i64 (compV op a b), .int .i64 (compE op b)]) ∧ w = w' := by
  have hA := Lib.hid (wrap32_bd a)
  have hB := Lib.hid (wrap32_bd b)
  by_cases h1 : op < 15
  · have e1 := beqF (show op ≠ 34 by omega)
    have e2 := beqF (show op ≠ 35 by omega)
    have e3 := beqF (show op ≠ 33 by omega)
    go_enter Try.func38, Try.ntmps38
    go_wp2
    go_ret2
    exact ⟨ret_ii (by unfold compV; rw [if_neg (by omega), if_neg (by omega), if_neg (by omega)]) (by unfold compE; rw [if_neg (by omega), if_neg (by omega), if_neg (by omega)]), rfl⟩
  by_cases h2 : op ≤ 26
  · go_enter Try.func38, Try.ntmps38
    go_wp2_with (first | (go_at_call 54; refine (rwrap_any _ _).mono ?_; rintro e w' ⟨rfl, rfl⟩) | (go_at_call 53; refine (rints_any op (wrap32 a) (wrap32 b) (by omega) h2 hA.out.1 hA.out.2 hB.out.1 hB.out.2 _).mono ?_; rintro e w' ⟨rfl, rfl⟩))
    go_ret2
    exact ⟨ret_ii (by unfold compV; rw [if_pos (by omega)]) (by unfold compE; rw [if_pos (by omega)]), rfl⟩
  by_cases h3 : op ≤ 32
  · go_enter Try.func38, Try.ntmps38
    go_wp2_with (go_at_call 55; refine (rlongs_any op a b (by omega) h3 ha1 ha2 _).mono ?_; rintro e w' ⟨rfl, rfl⟩)
    go_ret2
    exact ⟨ret_ii (by unfold compV; rw [if_neg (by omega), if_pos (by omega)]) (by unfold compE; rw [if_neg (by omega), if_pos (by omega)]), rfl⟩
  by_cases h6 : op = 33
  · subst h6
    go_enter Try.func38, Try.ntmps38
    go_wp2_with (go_at_call 56; refine (rcmp_any _ _ _).mono ?_; rintro e w' ⟨rfl, rfl⟩)
    go_ret2
    exact ⟨ret_ii rfl rfl, rfl⟩
  by_cases h4 : op = 34
  · subst h4
    go_enter Try.func38, Try.ntmps38
    go_wp2_with (go_at_call 54; refine (rwrap_any _ _).mono ?_; rintro e w' ⟨rfl, rfl⟩)
    go_ret2
    exact ⟨ret_ii rfl rfl, rfl⟩
  by_cases h5 : op = 35
  · subst h5
    go_enter Try.func38, Try.ntmps38
    go_wp2_with (go_at_call 54; refine (rwrap_any _ _).mono ?_; rintro e w' ⟨rfl, rfl⟩)
    go_ret2
    exact ⟨ret_ii rfl rfl, rfl⟩
  · have e1 := beqF h4
    have e2 := beqF h5
    have e3 := beqF h6
    go_enter Try.func38, Try.ntmps38
    go_wp2
    go_ret2
    exact ⟨ret_ii (by unfold compV; rw [if_neg (by omega), if_neg (by omega), if_neg (by omega)]) (by unfold compE; rw [if_neg (by omega), if_neg (by omega), if_neg (by omega)]), rfl⟩

end Go.Proofs.Ytgiglbjkijlchaa
