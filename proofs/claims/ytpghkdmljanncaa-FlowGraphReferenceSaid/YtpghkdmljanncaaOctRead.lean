/- Contracts of package octet: Unsigned and Signed. -/
import Derived.Test.YtpghkdmljanncaaOct
namespace Go.Proofs.Ytpghkdmljanncaa
open Go.ChangeShapes Go.WideShapes Go.ChangeAt Go.RowKit Go.PlainAid
set_option linter.unusedSimpArgs false
set_option linter.unusedVariables false

/-- a byte joined to a number moved up by eight bits -/
theorem or_byte (n b : Int) (h0 : 0 ≤ b) (h1 : b ≤ 255) : bits .or .i64 (wrap64 (n * 256)) b = wrap64 (n * 256 + b) := by
  have e : (BitVec.ofInt 64 (wrap64 (n * 256)) ||| BitVec.ofInt 64 b).toNat = ((n * 256) % 18446744073709551616).toNat + b.toNat := by
    rw [BitVec.toNat_or, BitVec.toNat_ofInt, BitVec.toNat_ofInt]
    have e1 : (wrap64 (n * 256) % ((2 ^ 64 : Nat) : Int)).toNat = ((n * 256) % 18446744073709551616).toNat := by unfold wrap64; omega
    have e2 : (b % ((2 ^ 64 : Nat) : Int)).toNat = b.toNat := by omega
    rw [e1, e2]
    obtain ⟨q, hq⟩ : ∃ q : Nat, ((n * 256) % 18446744073709551616).toNat = 256 * q := ⟨((n * 256) % 18446744073709551616).toNat / 256, by omega⟩
    rw [hq, show 256 * q = 2 ^ 8 * q by rfl, ← Nat.two_pow_add_eq_or_of_lt (by omega : b.toNat < 2 ^ 8)]
  show IntKind.i64.wrap ((BitVec.ofInt 64 (wrap64 (n * 256)) ||| BitVec.ofInt 64 b).toNat : Nat) = _
  rw [e, IntKind.wrap_i64]
  unfold wrap64; omega

/-- what k rounds of the reading make of the bytes f 0, f 1, .. -/
def rdU (f : Nat → Int) : Nat → Int
  | 0 => 0
  | k + 1 => wrap64 (rdU f k * 256 + f k)
theorem rdU_bd (f : Nat → Int) : ∀ k, -9223372036854775808 ≤ rdU f k ∧ rdU f k ≤ 9223372036854775807
  | 0 => by simp [rdU]
  | k + 1 => wrap64_bd _

theorem val_int {k : IntKind} {a b : Int} (h : a = b) : Value.int k a = Value.int k b := by rw [h]
def fromB (s : ByteArray) (at' : Nat) : Nat → Int := fun i => bt s (at' + i)

theorem rdU_up (s : ByteArray) (p k : Nat) : bits .or .i64 (wrap64 (rdU (fromB s p) k * 256)) (wrap64 (bt s (p + k))) = rdU (fromB s p) (k + 1) := by
  have h0 := bt_nonneg s (p + k)
  have h1 := bt_le s (p + k)
  rw [wrap64_id (n := bt s (p + k)) (by omega), or_byte _ _ h0 h1]
  rfl

theorem uns_bad (s : ByteArray) (p z : Int) (h : ¬ okSize z) (w : World) :
    Calls Try.prog 103 #[.string s, .int .i64 p, .int .i64 z] w fun e w' => e = .returned (.tuple #[.int .i64 0, .int .i64 1]) ∧ w = w' := by
  go_enter Try.func103, Try.ntmps103
  go_wp2_with (go_at_call 108; refine (size_no z h _).mono ?_; rintro e w' ⟨rfl, rfl⟩)
  go_returns
  exact ⟨rfl, rfl⟩
theorem uns_range (s : ByteArray) (p z : Int) (hz : okSize z) (h : p < 0 ∨ s.size < p) (hs : s.size ≤ 9223372036854775807) (w : World) :
    Calls Try.prog 103 #[.string s, .int .i64 p, .int .i64 z] w fun e w' => e = .returned (.tuple #[.int .i64 0, .int .i64 2]) ∧ w = w' := by
  by_cases hp : p < 0
  · clear h
    go_enter Try.func103, Try.ntmps103
    go_wp2_with (go_at_call 108; refine (size_ok z hz _).mono ?_; rintro e w' ⟨rfl, rfl⟩)
    go_returns
    exact ⟨rfl, rfl⟩
  · have h : (s.size : Int) < p := by omega
    go_enter Try.func103, Try.ntmps103
    go_wp2_with (go_at_call 108; refine (size_ok z hz _).mono ?_; rintro e w' ⟨rfl, rfl⟩)
    go_returns
    exact ⟨rfl, rfl⟩
theorem uns_short (s : ByteArray) (p z : Int) (hz : okSize z) (h0 : 0 ≤ p) (h1 : p ≤ s.size) (h : s.size - p < z) (hs : s.size ≤ 9223372036854775807) (w : World) :
    Calls Try.prog 103 #[.string s, .int .i64 p, .int .i64 z] w fun e w' => e = .returned (.tuple #[.int .i64 0, .int .i64 3]) ∧ w = w' := by
  go_enter Try.func103, Try.ntmps103
  go_wp2_with (go_at_call 108; refine (size_ok z hz _).mono ?_; rintro e w' ⟨rfl, rfl⟩)
  go_returns
  exact ⟨rfl, rfl⟩
theorem uns_ok (s : ByteArray) (p z : Nat) (hz : okSize z) (h : p + z ≤ s.size) (hs : s.size ≤ 9223372036854775807) (w : World) :
    Calls Try.prog 103 #[.string s, .int .i64 p, .int .i64 z] w fun e w' => e = .returned (.tuple #[.int .i64 (rdU (fromB s p) z), .int .i64 0]) ∧ w = w' := by
  have hz8 : (z : Int) ≤ 8 := by unfold okSize at hz; omega
  have hb := get_bt s
  go_enter Try.func103, Try.ntmps103
  go_wp2_with (go_at_call 108; refine (size_ok z hz _).mono ?_; rintro e w' ⟨rfl, rfl⟩)
  go_loop [8, 28] (fun n i => ∃ k : Nat, k ≤ z ∧ i = .int .i64 k ∧ n = .int .i64 (rdU (fromB s p) k)) (fun _ i => z - (intOf i).toNat)
  case atStart => exact ⟨0, Nat.zero_le _, rfl, rfl⟩
  case round =>
    obtain ⟨k, hk, rfl, rfl⟩ := hrel
    by_cases hlt : k < z
    · have hbd := rdU_bd (fromB s p) k
      go_wp2
      go_round
      case rel => exact ⟨k + 1, by omega, by go_num, val_int (rdU_up s p k)⟩
      case measure => simp [intOf]; omega
    · obtain rfl : k = z := by omega
      go_wp2
      go_returns
      exact ⟨rfl, rfl⟩

/-- the number in two's complement -/
def sgn (z u : Int) : Int := if z = 1 then (u + 128) % 256 - 128 else if z = 2 then (u + 32768) % 65536 - 32768 else if z = 4 then (u + 2147483648) % 4294967296 - 2147483648 else u

theorem sig_err (s : ByteArray) (p z : Int) (x : Int) (hx : x ≠ 0) (w : World)
    (hu : Calls Try.prog 103 #[.string s, .int .i64 p, .int .i64 z] w fun e w' => e = .returned (.tuple #[.int .i64 0, .int .i64 x]) ∧ w = w') :
    Calls Try.prog 104 #[.string s, .int .i64 p, .int .i64 z] w fun e w' => e = .returned (.tuple #[.int .i64 0, .int .i64 x]) ∧ w = w' := by
  go_enter Try.func104, Try.ntmps104
  go_wp2_with (go_at_call 103; refine (hu).mono ?_; rintro e w' ⟨rfl, rfl⟩)
  go_returns
  exact ⟨rfl, rfl⟩
theorem sig_ok (s : ByteArray) (p z : Nat) (hz : okSize z) (h : p + z ≤ s.size) (hs : s.size ≤ 9223372036854775807) (w : World) :
    Calls Try.prog 104 #[.string s, .int .i64 p, .int .i64 z] w fun e w' => e = .returned (.tuple #[.int .i64 (sgn z (rdU (fromB s p) z)), .int .i64 0]) ∧ w = w' := by
  have hbd := rdU_bd (fromB s p) z
  have hu := uns_ok s p z hz h hs w
  have h4 : z = 1 ∨ z = 2 ∨ z = 4 ∨ z = 8 := by unfold okSize at hz; omega
  obtain ⟨u, hu'⟩ : ∃ u, rdU (fromB s p) z = u := ⟨_, rfl⟩
  rw [hu'] at hu hbd ⊢
  clear hu'
  rcases h4 with rfl | rfl | rfl | rfl
  all_goals
    go_enter Try.func104, Try.ntmps104
    go_wp2_with (go_at_call 103; refine (hu).mono ?_; rintro e w' ⟨rfl, rfl⟩)
    go_returns
    exact ⟨ret_ii (by first | (unfold sgn wrap64; simp; omega) | (unfold sgn; simp)) rfl, rfl⟩

end Go.Proofs.Ytpghkdmljanncaa
