/- Contracts of package octet: Unsigned and Signed. -/
import Derived.Test.YtdppooflbjlbcaaDoorOct
namespace Go.Proofs.YtdppooflbjlbcaaDoor
open Go.ChangeShapes Go.WideShapes Go.ChangeAt Go.RowKit Go.PlainAid
set_option linter.unusedSimpArgs false
set_option linter.unusedVariables false

/-- a byte joined to a number moved up by eight bits -/
theorem or_byte (n b : Int) (h0 : 0 ≤ b) (h1 : b ≤ 255) : bits .or .i64 (wrap64 (n * 256)) b = wrap64 (n * 256 + b) := by
  have e : (BitVec.ofInt 64 (wrap64 (n * 256)) ||| BitVec.ofInt 64 b).toNat = ((n * 256) % 18446744073709551616).toNat + b.toNat := by
    rw [BitVec.toNat_or, BitVec.toNat_ofInt, BitVec.toNat_ofInt]
    have e1 : (wrap64 (n * 256) % ((2 ^ 64 : Nat) : Int)).toNat = ((n * 256) % 18446744073709551616).toNat := by unfold wrap64; omega
    have e2 : (b % ((2 ^ 64 : Nat) : Int)).toNat = b.toNat := by omega
    rw [e1, e2]
    obtain ⟨q, hq⟩ : ∃ q : Nat, ((n * 256) % 18446744073709551616).toNat = 256 * q := ⟨((n * 256) % 18446744073709551616).toNat / 256, by omega⟩
    rw [hq, show 256 * q = 2 ^ 8 * q by rfl, ← Nat.two_pow_add_eq_or_of_lt (by omega : b.toNat < 2 ^ 8)]
  show IntKind.i64.wrap ((BitVec.ofInt 64 (wrap64 (n * 256)) ||| BitVec.ofInt 64 b).toNat : Nat) = _
  rw [e, IntKind.wrap_i64]
  unfold wrap64; omega

/-- what k rounds of the reading make of the bytes f 0, f 1, .. -/
def rdU (f : Nat → Int) : Nat → Int
  | 0 => 0
  | k + 1 => wrap64 (rdU f k * 256 + f k)
theorem rdU_bd (f : Nat → Int) : ∀ k, -9223372036854775808 ≤ rdU f k ∧ rdU f k ≤ 9223372036854775807
  | 0 => by simp [rdU]
  | k + 1 => wrap64_bd _

theorem val_int {k : IntKind} {a b : Int} (h : a = b) : Value.int k a = Value.int k b := by rw [h]
def fromB (s : ByteArray) (at' : Nat) : Nat → Int := fun i => bt s (at' + i)

theorem rdU_up (s : ByteArray) (p k : Nat) : bits .or .i64 (wrap64 (rdU (fromB s p) k * 256)) (wrap64 (bt s (p + k))) = rdU (fromB s p) (k + 1) := by
  have h0 := bt_nonneg s (p + k)
  have h1 := bt_le s (p + k)
  rw [wrap64_id (n := bt s (p + k)) (by omega), or_byte _ _ h0 h1]
  rfl

/-- the number in two's complement -/
def sgn (z u : Int) : Int := if z = 1 then (u + 128) % 256 - 128 else if z = 2 then (u + 32768) % 65536 - 32768 else if z = 4 then (u + 2147483648) % 4294967296 - 2147483648 else u

end Go.Proofs.YtdppooflbjlbcaaDoor
