/- Contracts of the reading functions of package octet and of its reference: one plain function for both. -/
import Derived.Test.YtdppooflbjlbcaaDoorOctRead
import Derived.Test.YtdppooflbjlbcaaDoorOctRef
namespace Go.Proofs.YtdppooflbjlbcaaDoor
open Go.ChangeShapes Go.WideShapes Go.ChangeAt Go.RowKit Go.PlainAid
set_option linter.unusedSimpArgs false
set_option linter.unusedVariables false

instance (z : Int) : Decidable (okSize z) := by unfold okSize; infer_instance
instance (n z : Int) : Decidable (fitsP n z) := by unfold fitsP; infer_instance

/-- the reading's error, and its number -/
def unsE (s : ByteArray) (p z : Int) : Int := if ¬ okSize z then 1 else if p < 0 ∨ s.size < p then 2 else if s.size - p < z then 3 else 0
def unsV (s : ByteArray) (p z : Int) : Int := if unsE s p z = 0 then rdU (fromB s p.toNat) z.toNat else 0
def sigV (s : ByteArray) (p z : Int) : Int := sgn z (unsV s p z)

theorem unsE_cases (s : ByteArray) (p z : Int) :
    (¬ okSize z ∧ unsE s p z = 1 ∧ unsV s p z = 0) ∨ (okSize z ∧ (p < 0 ∨ s.size < p) ∧ unsE s p z = 2 ∧ unsV s p z = 0) ∨
    (okSize z ∧ 0 ≤ p ∧ p ≤ s.size ∧ s.size - p < z ∧ unsE s p z = 3 ∧ unsV s p z = 0) ∨
    (okSize z ∧ 0 ≤ p ∧ p + z ≤ s.size ∧ unsE s p z = 0 ∧ unsV s p z = rdU (fromB s p.toNat) z.toNat) := by
  unfold unsV unsE
  by_cases h1 : okSize z
  · by_cases h2 : p < 0 ∨ s.size < p
    · simp [h1, h2]
    · by_cases h3 : s.size - p < z
      · simp [h1, h2, h3]; omega
      · simp [h1, h2, h3]; omega
  · simp [h1]

theorem sgn_zero (z : Int) : sgn z 0 = 0 := by unfold sgn; simp
def rdS (f : Nat → Int) : Nat → Int
  | 0 => if 127 < f 0 then f 0 - 256 else f 0
  | k + 1 => wrap64 (wrap64 (rdS f k * 256) + f (k + 1))
theorem rdS_bd (f : Nat → Int) (h : 0 ≤ f 0 ∧ f 0 ≤ 255) : ∀ k, -9223372036854775808 ≤ rdS f k ∧ rdS f k ≤ 9223372036854775807
  | 0 => by simp only [rdS]; split <;> omega
  | k + 1 => wrap64_bd _
theorem rd_up (x c y : Int) : wrap64 (wrap64 (wrap64 (x - c) * 256) + y) = wrap64 (wrap64 (x * 256 + y) - c * 256) := by
  unfold wrap64; omega
theorem rdS_U (f : Nat → Int) (h : 0 ≤ f 0 ∧ f 0 ≤ 255) : ∀ k, rdS f k = wrap64 (rdU f (k + 1) - (if 127 < f 0 then 256 ^ (k + 1) else 0))
  | 0 => by
    simp only [rdS, rdU]; unfold wrap64; split <;> omega
  | k + 1 => by
    rw [rdS, rdS_U f h k]
    show _ = wrap64 (wrap64 (rdU f (k + 1) * 256 + f (k + 1)) - _)
    rw [rd_up]
    congr 2
    split
    · rw [Int.pow_succ]; rfl
    · rfl
theorem fromB_bd (s : ByteArray) (p i : Nat) : 0 ≤ fromB s p i ∧ fromB s p i ≤ 255 := ⟨bt_nonneg _ _, bt_le _ _⟩
theorem sgn_rdS (s : ByteArray) (p z : Nat) (hz : okSize z) : rdS (fromB s p) (z - 1) = sgn z (rdU (fromB s p) z) := by
  have h0 := fromB_bd s p 0
  have h1 := fromB_bd s p 1
  have h2 := fromB_bd s p 2
  have h3 := fromB_bd s p 3
  have h4 : z = 1 ∨ z = 2 ∨ z = 4 ∨ z = 8 := by unfold okSize at hz; omega
  rcases h4 with rfl | rfl | rfl | rfl
  · rw [rdS_U _ h0]; simp [rdU, sgn]; unfold wrap64; split <;> omega
  · rw [rdS_U _ h0]; simp [rdU, sgn]; unfold wrap64; split <;> omega
  · rw [rdS_U _ h0]; simp [rdU, sgn]; unfold wrap64; split <;> omega
  · rw [rdS_U _ h0]
    have hb := rdU_bd (fromB s p) 8
    simp only [Nat.add_one_sub_one, Nat.reduceAdd, Nat.reduceSub, sgn]
    generalize rdU (fromB s p) 8 = u at *
    simp
    unfold wrap64; split <;> omega

end Go.Proofs.YtdppooflbjlbcaaDoor
