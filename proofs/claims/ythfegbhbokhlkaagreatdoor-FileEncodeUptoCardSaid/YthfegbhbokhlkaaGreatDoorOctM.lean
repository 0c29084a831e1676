import Derived.Test.YthfegbhbokhlkaaGreatDoorKit

/- Oct -/
/- Contracts of package octet: Put and what it calls. -/
namespace Go.Proofs.YthfegbhbokhlkaaGreatDoor
open Go.ChangeShapes Go.WideShapes Go.ChangeAt Go.RowKit Go.PlainAid
set_option linter.unusedSimpArgs false
set_option linter.unusedVariables false

def okSize (z : Int) : Prop := z = 1 ∨ z = 2 ∨ z = 4 ∨ z = 8
def fitsP (n z : Int) : Prop := z = 8 ∨ (z = 1 ∧ -128 ≤ n ∧ n ≤ 255) ∨ (z = 2 ∧ -32768 ≤ n ∧ n ≤ 65535) ∨ (z = 4 ∧ -2147483648 ≤ n ∧ n ≤ 4294967295)
/-- the bytes of n in the size z -/
def putL (n z : Int) : List Int :=
  if z = 1 then [n % 256] else if z = 2 then [n / 256 % 256, n % 256] else if z = 4 then [n / 16777216 % 256, n / 65536 % 256, n / 256 % 256, n % 256]
  else [n / 72057594037927936 % 256, n / 281474976710656 % 256, n / 1099511627776 % 256, n / 4294967296 % 256, n / 16777216 % 256, n / 65536 % 256, n / 256 % 256, n % 256]

theorem conv_new (w : World) (C : Array Value) (z : Nat) (xs : List Int) (hl : xs.length = z) (h : ∀ i, i < z → C[i]? = some (.int .u8 (xs.getD i 0))) (c : Nat) (T : TypeId) :
    (convert 42 9 (.slice (some ⟨w.heap.size, 0, none⟩) z c)).run Tryz.prog (w.alloc (.cells C T)) = .ok (.string (strOfNums xs)) (w.alloc (.cells C T)) := by
  refine run_convert_bytes_arg (P := Tryz.prog) (w.alloc (.cells C T)) 42 5 Tryz.underlying42 Tryz.underlying5 w.heap.size 0 z c xs hl ?_ 9 Tryz.underlying9
  intro i hi
  rw [Nat.zero_add]
  have := h i hi
  simp only [World.cell?, MapKept.heap_alloc]
  exact this

theorem size_ok (z : Int) (h : okSize z) (w : World) :
    Calls Tryz.prog 60 #[.int .i64 z] w fun e w' => e = .returned (.bool true) ∧ w = w' := by
  rcases h with rfl | rfl | rfl | rfl
  all_goals
    go_enter Tryz.func60, Tryz.ntmps60
    go_wp2
    go_ret
    exact ⟨rfl, rfl⟩
theorem size_no (z : Int) (h : ¬ okSize z) (w : World) :
    Calls Tryz.prog 60 #[.int .i64 z] w fun e w' => e = .returned (.bool false) ∧ w = w' := by
  unfold okSize at h
  have e1 := beqF (show z ≠ 1 by omega)
  have e2 := beqF (show z ≠ 2 by omega)
  have e4 := beqF (show z ≠ 4 by omega)
  have e8 := beqF (show z ≠ 8 by omega)
  go_enter Tryz.func60, Tryz.ntmps60
  go_wp2
  go_ret
  exact ⟨rfl, rfl⟩
theorem fits_ok (n z : Int) (h : fitsP n z) (w : World) :
    Calls Tryz.prog 61 #[.int .i64 n, .int .i64 z] w fun e w' => e = .returned (.bool true) ∧ w = w' := by
  rcases h with rfl | ⟨rfl, h1, h2⟩ | ⟨rfl, h1, h2⟩ | ⟨rfl, h1, h2⟩
  all_goals
    go_enter Tryz.func61, Tryz.ntmps61
    go_wp2
    go_ret
    exact ⟨rfl, rfl⟩
theorem fits_no (n z : Int) (hz : okSize z) (h : ¬ fitsP n z) (w : World) :
    Calls Tryz.prog 61 #[.int .i64 n, .int .i64 z] w fun e w' => e = .returned (.bool false) ∧ w = w' := by
  unfold fitsP at h
  rcases hz with rfl | rfl | rfl | rfl
  · rcases (by omega : n < -128 ∨ (-128 ≤ n ∧ 255 < n)) with h1 | ⟨h1, h1'⟩
    all_goals
      clear h
      go_enter Tryz.func61, Tryz.ntmps61
      go_wp2
      go_ret
      exact ⟨ret_bool (by first | rfl | (simp; omega)), rfl⟩
  · rcases (by omega : n < -32768 ∨ (-32768 ≤ n ∧ 65535 < n)) with h1 | ⟨h1, h1'⟩
    all_goals
      clear h
      go_enter Tryz.func61, Tryz.ntmps61
      go_wp2
      go_ret
      exact ⟨ret_bool (by first | rfl | (simp; omega)), rfl⟩
  · rcases (by omega : n < -2147483648 ∨ (-2147483648 ≤ n ∧ 4294967295 < n)) with h1 | ⟨h1, h1'⟩
    all_goals
      clear h
      go_enter Tryz.func61, Tryz.ntmps61
      go_wp2
      go_ret
      exact ⟨ret_bool (by first | rfl | (simp; omega)), rfl⟩
  · omega

theorem put_bad (n z : Int) (h : ¬ okSize z) (w : World) :
    Calls Tryz.prog 48 #[.int .i64 n, .int .i64 z] w fun e w' => e = .returned (.tuple #[.string (strOfNums []), .int .i64 1]) ∧ w = w' := by
  go_enter Tryz.func48, Tryz.ntmps48
  go_wp2_with (go_at_call 60; refine (size_no z h _).mono ?_; rintro e w' ⟨rfl, rfl⟩)
  go_returns
  exact ⟨rfl, rfl⟩
theorem put_big (n z : Int) (hz : okSize z) (h : ¬ fitsP n z) (w : World) :
    Calls Tryz.prog 48 #[.int .i64 n, .int .i64 z] w fun e w' => e = .returned (.tuple #[.string (strOfNums []), .int .i64 8]) ∧ w = w' := by
  go_enter Tryz.func48, Tryz.ntmps48
  go_wp2_with (first | (go_at_call 60; refine (size_ok z hz _).mono ?_; rintro e w' ⟨rfl, rfl⟩) | (go_at_call 61; refine (fits_no n z hz h _).mono ?_; rintro e w' ⟨rfl, rfl⟩))
  go_returns
  exact ⟨rfl, rfl⟩
theorem put_ok (n z : Int) (hz : okSize z) (h : fitsP n z) (w : World) :
    Calls Tryz.prog 48 #[.int .i64 n, .int .i64 z] w fun e w' => e = .returned (.tuple #[.string (strOfNums (putL n z)), .int .i64 0]) ∧ Below w.heap.size w w' := by
  rcases hz with rfl | rfl | rfl | rfl
  · have hz : okSize 1 := by simp [okSize]
    have kc := conv_new w #[.int .u8 (n % 256), .int .u8 0, .int .u8 0, .int .u8 0, .int .u8 0, .int .u8 0, .int .u8 0, .int .u8 0] 1 [n % 256] rfl (by intro i hi; rcases i with _ | i <;> first | rfl | omega) 8 106
    go_enter Tryz.func48, Tryz.ntmps48
    go_wp2_with (first | (go_at_call 60; refine (size_ok _ hz _).mono ?_; rintro e w' ⟨rfl, rfl⟩) | (go_at_call 61; refine (fits_ok n _ h _).mono ?_; rintro e w' ⟨rfl, rfl⟩))
    go_rounds 2
    go_returns
    exact ⟨rfl, by go_grown⟩
  · have hz : okSize 2 := by simp [okSize]
    have kc := conv_new w #[.int .u8 (n / 256 % 256), .int .u8 (n % 256), .int .u8 0, .int .u8 0, .int .u8 0, .int .u8 0, .int .u8 0, .int .u8 0] 2 [n / 256 % 256, n % 256] rfl (by intro i hi; rcases i with _ | _ | i <;> first | rfl | omega) 8 106
    go_enter Tryz.func48, Tryz.ntmps48
    go_wp2_with (first | (go_at_call 60; refine (size_ok _ hz _).mono ?_; rintro e w' ⟨rfl, rfl⟩) | (go_at_call 61; refine (fits_ok n _ h _).mono ?_; rintro e w' ⟨rfl, rfl⟩))
    go_rounds 3
    go_returns
    exact ⟨rfl, by go_grown⟩
  · have hz : okSize 4 := by simp [okSize]
    have kc := conv_new w #[.int .u8 (n / 16777216 % 256), .int .u8 (n / 65536 % 256), .int .u8 (n / 256 % 256), .int .u8 (n % 256), .int .u8 0, .int .u8 0, .int .u8 0, .int .u8 0] 4 [n / 16777216 % 256, n / 65536 % 256, n / 256 % 256, n % 256] rfl (by intro i hi; rcases i with _ | _ | _ | _ | i <;> first | rfl | omega) 8 106
    go_enter Tryz.func48, Tryz.ntmps48
    go_wp2_with (first | (go_at_call 60; refine (size_ok _ hz _).mono ?_; rintro e w' ⟨rfl, rfl⟩) | (go_at_call 61; refine (fits_ok n _ h _).mono ?_; rintro e w' ⟨rfl, rfl⟩))
    go_rounds 5
    go_returns
    exact ⟨rfl, by go_grown⟩
  · have hz : okSize 8 := by simp [okSize]
    have kc := conv_new w #[.int .u8 (n / 72057594037927936 % 256), .int .u8 (n / 281474976710656 % 256), .int .u8 (n / 1099511627776 % 256), .int .u8 (n / 4294967296 % 256), .int .u8 (n / 16777216 % 256), .int .u8 (n / 65536 % 256), .int .u8 (n / 256 % 256), .int .u8 (n % 256)] 8 [n / 72057594037927936 % 256, n / 281474976710656 % 256, n / 1099511627776 % 256, n / 4294967296 % 256, n / 16777216 % 256, n / 65536 % 256, n / 256 % 256, n % 256] rfl (by intro i hi; rcases i with _ | _ | _ | _ | _ | _ | _ | _ | i <;> first | rfl | omega) 8 106
    go_enter Tryz.func48, Tryz.ntmps48
    go_wp2_with (first | (go_at_call 60; refine (size_ok _ hz _).mono ?_; rintro e w' ⟨rfl, rfl⟩) | (go_at_call 61; refine (fits_ok n _ h _).mono ?_; rintro e w' ⟨rfl, rfl⟩))
    go_rounds 9
    go_returns
    exact ⟨rfl, by go_grown⟩

end Go.Proofs.YthfegbhbokhlkaaGreatDoor

/- OctRead -/
/- Contracts of package octet: Unsigned and Signed. -/
namespace Go.Proofs.YthfegbhbokhlkaaGreatDoor
open Go.ChangeShapes Go.WideShapes Go.ChangeAt Go.RowKit Go.PlainAid
set_option linter.unusedSimpArgs false
set_option linter.unusedVariables false

/-- a byte joined to a number moved up by eight bits -/
theorem or_byte (n b : Int) (h0 : 0 ≤ b) (h1 : b ≤ 255) : bits .or .i64 (wrap64 (n * 256)) b = wrap64 (n * 256 + b) := by
  have e : (BitVec.ofInt 64 (wrap64 (n * 256)) ||| BitVec.ofInt 64 b).toNat = ((n * 256) % 18446744073709551616).toNat + b.toNat := by
    rw [BitVec.toNat_or, BitVec.toNat_ofInt, BitVec.toNat_ofInt]
    have e1 : (wrap64 (n * 256) % ((2 ^ 64 : Nat) : Int)).toNat = ((n * 256) % 18446744073709551616).toNat := by unfold wrap64; omega
    have e2 : (b % ((2 ^ 64 : Nat) : Int)).toNat = b.toNat := by omega
    rw [e1, e2]
    obtain ⟨q, hq⟩ : ∃ q : Nat, ((n * 256) % 18446744073709551616).toNat = 256 * q := ⟨((n * 256) % 18446744073709551616).toNat / 256, by omega⟩
    rw [hq, show 256 * q = 2 ^ 8 * q by rfl, ← Nat.two_pow_add_eq_or_of_lt (by omega : b.toNat < 2 ^ 8)]
  show IntKind.i64.wrap ((BitVec.ofInt 64 (wrap64 (n * 256)) ||| BitVec.ofInt 64 b).toNat : Nat) = _
  rw [e, IntKind.wrap_i64]
  unfold wrap64; omega

/-- what k rounds of the reading make of the bytes f 0, f 1, .. -/
def rdU (f : Nat → Int) : Nat → Int
  | 0 => 0
  | k + 1 => wrap64 (rdU f k * 256 + f k)
theorem rdU_bd (f : Nat → Int) : ∀ k, -9223372036854775808 ≤ rdU f k ∧ rdU f k ≤ 9223372036854775807
  | 0 => by simp [rdU]
  | k + 1 => wrap64_bd _

theorem val_int {k : IntKind} {a b : Int} (h : a = b) : Value.int k a = Value.int k b := by rw [h]
def fromB (s : ByteArray) (at' : Nat) : Nat → Int := fun i => bt s (at' + i)

theorem rdU_up (s : ByteArray) (p k : Nat) : bits .or .i64 (wrap64 (rdU (fromB s p) k * 256)) (wrap64 (bt s (p + k))) = rdU (fromB s p) (k + 1) := by
  have h0 := bt_nonneg s (p + k)
  have h1 := bt_le s (p + k)
  rw [wrap64_id (n := bt s (p + k)) (by omega), or_byte _ _ h0 h1]
  rfl

theorem uns_bad (s : ByteArray) (p z : Int) (h : ¬ okSize z) (w : World) :
    Calls Tryz.prog 53 #[.string s, .int .i64 p, .int .i64 z] w fun e w' => e = .returned (.tuple #[.int .i64 0, .int .i64 1]) ∧ w = w' := by
  go_enter Tryz.func53, Tryz.ntmps53
  go_wp2_with (go_at_call 60; refine (size_no z h _).mono ?_; rintro e w' ⟨rfl, rfl⟩)
  go_returns
  exact ⟨rfl, rfl⟩
theorem uns_range (s : ByteArray) (p z : Int) (hz : okSize z) (h : p < 0 ∨ s.size < p) (hs : s.size ≤ 9223372036854775807) (w : World) :
    Calls Tryz.prog 53 #[.string s, .int .i64 p, .int .i64 z] w fun e w' => e = .returned (.tuple #[.int .i64 0, .int .i64 2]) ∧ w = w' := by
  by_cases hp : p < 0
  · clear h
    go_enter Tryz.func53, Tryz.ntmps53
    go_wp2_with (go_at_call 60; refine (size_ok z hz _).mono ?_; rintro e w' ⟨rfl, rfl⟩)
    go_returns
    exact ⟨rfl, rfl⟩
  · have h : (s.size : Int) < p := by omega
    go_enter Tryz.func53, Tryz.ntmps53
    go_wp2_with (go_at_call 60; refine (size_ok z hz _).mono ?_; rintro e w' ⟨rfl, rfl⟩)
    go_returns
    exact ⟨rfl, rfl⟩
theorem uns_short (s : ByteArray) (p z : Int) (hz : okSize z) (h0 : 0 ≤ p) (h1 : p ≤ s.size) (h : s.size - p < z) (hs : s.size ≤ 9223372036854775807) (w : World) :
    Calls Tryz.prog 53 #[.string s, .int .i64 p, .int .i64 z] w fun e w' => e = .returned (.tuple #[.int .i64 0, .int .i64 3]) ∧ w = w' := by
  go_enter Tryz.func53, Tryz.ntmps53
  go_wp2_with (go_at_call 60; refine (size_ok z hz _).mono ?_; rintro e w' ⟨rfl, rfl⟩)
  go_returns
  exact ⟨rfl, rfl⟩
theorem uns_ok (s : ByteArray) (p z : Nat) (hz : okSize z) (h : p + z ≤ s.size) (hs : s.size ≤ 9223372036854775807) (w : World) :
    Calls Tryz.prog 53 #[.string s, .int .i64 p, .int .i64 z] w fun e w' => e = .returned (.tuple #[.int .i64 (rdU (fromB s p) z), .int .i64 0]) ∧ w = w' := by
  have hz8 : (z : Int) ≤ 8 := by unfold okSize at hz; omega
  have hb := get_bt s
  go_enter Tryz.func53, Tryz.ntmps53
  go_wp2_with (go_at_call 60; refine (size_ok z hz _).mono ?_; rintro e w' ⟨rfl, rfl⟩)
  go_loop [8, 28] (fun n i => ∃ k : Nat, k ≤ z ∧ i = .int .i64 k ∧ n = .int .i64 (rdU (fromB s p) k)) (fun _ i => z - (intOf i).toNat)
  case atStart => exact ⟨0, Nat.zero_le _, rfl, rfl⟩
  case round =>
    obtain ⟨k, hk, rfl, rfl⟩ := hrel
    by_cases hlt : k < z
    · have hbd := rdU_bd (fromB s p) k
      go_wp2
      go_round
      case rel => exact ⟨k + 1, by omega, by go_num, val_int (rdU_up s p k)⟩
      case measure => simp [intOf]; omega
    · obtain rfl : k = z := by omega
      go_wp2
      go_returns
      exact ⟨rfl, rfl⟩

/-- the number in two's complement -/
def sgn (z u : Int) : Int := if z = 1 then (u + 128) % 256 - 128 else if z = 2 then (u + 32768) % 65536 - 32768 else if z = 4 then (u + 2147483648) % 4294967296 - 2147483648 else u

theorem sig_err (s : ByteArray) (p z : Int) (x : Int) (hx : x ≠ 0) (w : World)
    (hu : Calls Tryz.prog 53 #[.string s, .int .i64 p, .int .i64 z] w fun e w' => e = .returned (.tuple #[.int .i64 0, .int .i64 x]) ∧ w = w') :
    Calls Tryz.prog 66 #[.string s, .int .i64 p, .int .i64 z] w fun e w' => e = .returned (.tuple #[.int .i64 0, .int .i64 x]) ∧ w = w' := by
  go_enter Tryz.func66, Tryz.ntmps66
  go_wp2_with (go_at_call 53; refine (hu).mono ?_; rintro e w' ⟨rfl, rfl⟩)
  go_returns
  exact ⟨rfl, rfl⟩
theorem sig_ok (s : ByteArray) (p z : Nat) (hz : okSize z) (h : p + z ≤ s.size) (hs : s.size ≤ 9223372036854775807) (w : World) :
    Calls Tryz.prog 66 #[.string s, .int .i64 p, .int .i64 z] w fun e w' => e = .returned (.tuple #[.int .i64 (sgn z (rdU (fromB s p) z)), .int .i64 0]) ∧ w = w' := by
  have hbd := rdU_bd (fromB s p) z
  have hu := uns_ok s p z hz h hs w
  have h4 : z = 1 ∨ z = 2 ∨ z = 4 ∨ z = 8 := by unfold okSize at hz; omega
  obtain ⟨u, hu'⟩ : ∃ u, rdU (fromB s p) z = u := ⟨_, rfl⟩
  rw [hu'] at hu hbd ⊢
  clear hu'
  rcases h4 with rfl | rfl | rfl | rfl
  all_goals
    go_enter Tryz.func66, Tryz.ntmps66
    go_wp2_with (go_at_call 53; refine (hu).mono ?_; rintro e w' ⟨rfl, rfl⟩)
    go_returns
    exact ⟨ret_ii (by first | (unfold sgn wrap64; simp; omega) | (unfold sgn; simp)) rfl, rfl⟩

end Go.Proofs.YthfegbhbokhlkaaGreatDoor

/- OctRef -/
/- Contracts of the reference of layer 2: Put. -/
namespace Go.Proofs.YthfegbhbokhlkaaGreatDoor
open Go.ChangeShapes Go.WideShapes Go.ChangeAt Go.RowKit Go.PlainAid
set_option linter.unusedSimpArgs false
set_option linter.unusedVariables false

theorem i64_mask8 (n : Int) : bits .and .i64 n 255 = n % 256 := by
  have h : (BitVec.ofInt 64 255).toNat = 2 ^ 8 - 1 := by decide
  have key : (BitVec.ofInt 64 n &&& BitVec.ofInt 64 255).toNat = (n % ((2 ^ 64 : Nat) : Int)).toNat % 2 ^ 8 := by
    rw [BitVec.toNat_and, BitVec.toNat_ofInt, h, Nat.and_two_pow_sub_one_eq_mod]
  show IntKind.i64.wrap ((BitVec.ofInt 64 n &&& BitVec.ofInt 64 255).toNat : Nat) = n % 256
  rw [key, IntKind.wrap_i64]
  omega

theorem rsize_ok (z : Int) (h : okSize z) (w : World) :
    Calls Tryz.prog 63 #[.int .i64 z] w fun e w' => e = .returned (.bool true) ∧ w = w' := by
  rcases h with rfl | rfl | rfl | rfl
  all_goals
    go_enter Tryz.func63, Tryz.ntmps63
    go_wp2
    go_ret
    exact ⟨rfl, rfl⟩
theorem rsize_no (z : Int) (h : ¬ okSize z) (w : World) :
    Calls Tryz.prog 63 #[.int .i64 z] w fun e w' => e = .returned (.bool false) ∧ w = w' := by
  unfold okSize at h
  have e1 := beqF (show z ≠ 1 by omega)
  have e2 := beqF (show z ≠ 2 by omega)
  have e4 := beqF (show z ≠ 4 by omega)
  have e8 := beqF (show z ≠ 8 by omega)
  go_enter Tryz.func63, Tryz.ntmps63
  go_wp2
  go_ret
  exact ⟨rfl, rfl⟩

theorem rput_bad (n z : Int) (h : ¬ okSize z) (w : World) :
    Calls Tryz.prog 50 #[.int .i64 n, .int .i64 z] w fun e w' => e = .returned (.tuple #[.string (strOfNums []), .int .i64 1]) ∧ w = w' := by
  go_enter Tryz.func50, Tryz.ntmps50
  go_wp2_with (go_at_call 63; refine (rsize_no z h _).mono ?_; rintro e w' ⟨rfl, rfl⟩)
  go_returns
  exact ⟨rfl, rfl⟩
theorem rput_big (n z : Int) (hz : okSize z) (h : ¬ fitsP n z) (w : World) :
    Calls Tryz.prog 50 #[.int .i64 n, .int .i64 z] w fun e w' => e = .returned (.tuple #[.string (strOfNums []), .int .i64 8]) ∧ w = w' := by
  have hz' := Lib.hid hz
  unfold fitsP at h
  rcases hz with rfl | rfl | rfl | rfl
  · rcases (by omega : n < -128 ∨ (-128 ≤ n ∧ 255 < n)) with h1 | ⟨h1, h1'⟩
    all_goals
      clear h
      go_enter Tryz.func50, Tryz.ntmps50
      go_wp2_with (go_at_call 63; refine (rsize_ok _ hz'.out _).mono ?_; rintro e w' ⟨rfl, rfl⟩)
      go_returns
      exact ⟨rfl, rfl⟩
  · rcases (by omega : n < -32768 ∨ (-32768 ≤ n ∧ 65535 < n)) with h1 | ⟨h1, h1'⟩
    all_goals
      clear h
      go_enter Tryz.func50, Tryz.ntmps50
      go_wp2_with (go_at_call 63; refine (rsize_ok _ hz'.out _).mono ?_; rintro e w' ⟨rfl, rfl⟩)
      go_returns
      exact ⟨rfl, rfl⟩
  · rcases (by omega : n < -2147483648 ∨ (-2147483648 ≤ n ∧ 4294967295 < n)) with h1 | ⟨h1, h1'⟩
    all_goals
      clear h
      go_enter Tryz.func50, Tryz.ntmps50
      go_wp2_with (go_at_call 63; refine (rsize_ok _ hz'.out _).mono ?_; rintro e w' ⟨rfl, rfl⟩)
      go_returns
      exact ⟨rfl, rfl⟩
  · omega
set_option maxRecDepth 100000 in
theorem rput_ok (n z : Int) (hz : okSize z) (h : fitsP n z) (w : World) :
    Calls Tryz.prog 50 #[.int .i64 n, .int .i64 z] w fun e w' => e = .returned (.tuple #[.string (strOfNums (putL n z)), .int .i64 0]) ∧ Below w.heap.size w w' := by
  have hz' := Lib.hid hz
  have hm8 := i64_mask8
  unfold fitsP at h
  rcases hz with rfl | rfl | rfl | rfl
  · have h1 : -128 ≤ n ∧ n ≤ 255 := by omega
    clear h
    have hmk : ∀ w, (Instr.makeSlice 42 (.int .i64 1) (.int .i64 1)).run Tryz.prog w = .ok (.slice (some ⟨w.heap.size, 0, none⟩) 1 1) (w.alloc (.cells #[.int .u8 0] 5)) := fun _ => by kernel_rfl
    have kc := conv_new w #[.int .u8 (n % 256)] 1 [n % 256] rfl (by intro i hi; rcases i with _ | i <;> first | rfl | omega) 1 5
    go_enter Tryz.func50, Tryz.ntmps50
    go_wp2_with (go_at_call 63; refine (rsize_ok _ hz'.out _).mono ?_; rintro e w' ⟨rfl, rfl⟩)
    go_rounds 2
    go_returns
    exact ⟨ret_si (congrArg strOfNums (by simp only [putL]; simp; try omega)) rfl, by go_grown⟩
  · have h1 : -32768 ≤ n ∧ n ≤ 65535 := by omega
    clear h
    have hmk : ∀ w, (Instr.makeSlice 42 (.int .i64 2) (.int .i64 2)).run Tryz.prog w = .ok (.slice (some ⟨w.heap.size, 0, none⟩) 2 2) (w.alloc (.cells #[.int .u8 0, .int .u8 0] 5)) := fun _ => by kernel_rfl
    have kc := conv_new w #[.int .u8 (n / 256 % 256), .int .u8 (n % 256)] 2 [n / 256 % 256, n % 256] rfl (by intro i hi; rcases i with _ | _ | i <;> first | rfl | omega) 2 5
    go_enter Tryz.func50, Tryz.ntmps50
    go_wp2_with (go_at_call 63; refine (rsize_ok _ hz'.out _).mono ?_; rintro e w' ⟨rfl, rfl⟩)
    go_rounds 3
    go_returns
    exact ⟨ret_si (congrArg strOfNums (by simp only [putL]; simp; try omega)) rfl, by go_grown⟩
  · have h1 : -2147483648 ≤ n ∧ n ≤ 4294967295 := by omega
    clear h
    have hmk : ∀ w, (Instr.makeSlice 42 (.int .i64 4) (.int .i64 4)).run Tryz.prog w = .ok (.slice (some ⟨w.heap.size, 0, none⟩) 4 4) (w.alloc (.cells #[.int .u8 0, .int .u8 0, .int .u8 0, .int .u8 0] 5)) := fun _ => by kernel_rfl
    have kc := conv_new w #[.int .u8 (n / 256 / 256 / 256 % 256), .int .u8 (n / 256 / 256 % 256), .int .u8 (n / 256 % 256), .int .u8 (n % 256)] 4 [n / 256 / 256 / 256 % 256, n / 256 / 256 % 256, n / 256 % 256, n % 256] rfl (by intro i hi; rcases i with _ | _ | _ | _ | i <;> first | rfl | omega) 4 5
    go_enter Tryz.func50, Tryz.ntmps50
    go_wp2_with (go_at_call 63; refine (rsize_ok _ hz'.out _).mono ?_; rintro e w' ⟨rfl, rfl⟩)
    go_rounds 5
    go_returns
    exact ⟨ret_si (congrArg strOfNums (by simp only [putL]; simp; try omega)) rfl, by go_grown⟩
  · clear h
    have hmk : ∀ w, (Instr.makeSlice 42 (.int .i64 8) (.int .i64 8)).run Tryz.prog w = .ok (.slice (some ⟨w.heap.size, 0, none⟩) 8 8) (w.alloc (.cells #[.int .u8 0, .int .u8 0, .int .u8 0, .int .u8 0, .int .u8 0, .int .u8 0, .int .u8 0, .int .u8 0] 5)) := fun _ => by kernel_rfl
    have kc := conv_new w #[.int .u8 (n / 256 / 256 / 256 / 256 / 256 / 256 / 256 % 256), .int .u8 (n / 256 / 256 / 256 / 256 / 256 / 256 % 256), .int .u8 (n / 256 / 256 / 256 / 256 / 256 % 256), .int .u8 (n / 256 / 256 / 256 / 256 % 256), .int .u8 (n / 256 / 256 / 256 % 256), .int .u8 (n / 256 / 256 % 256), .int .u8 (n / 256 % 256), .int .u8 (n % 256)] 8 [n / 256 / 256 / 256 / 256 / 256 / 256 / 256 % 256, n / 256 / 256 / 256 / 256 / 256 / 256 % 256, n / 256 / 256 / 256 / 256 / 256 % 256, n / 256 / 256 / 256 / 256 % 256, n / 256 / 256 / 256 % 256, n / 256 / 256 % 256, n / 256 % 256, n % 256] rfl (by intro i hi; rcases i with _ | _ | _ | _ | _ | _ | _ | _ | i <;> first | rfl | omega) 8 5
    go_enter Tryz.func50, Tryz.ntmps50
    go_wp2_with (go_at_call 63; refine (rsize_ok _ hz'.out _).mono ?_; rintro e w' ⟨rfl, rfl⟩)
    go_rounds 9
    go_returns
    exact ⟨ret_si (congrArg strOfNums (by simp only [putL]; simp; try omega)) rfl, by go_grown⟩

end Go.Proofs.YthfegbhbokhlkaaGreatDoor

/- OctRefTwo -/
/- Contracts of the reading functions of package octet and of its reference: one plain function for both. -/
namespace Go.Proofs.YthfegbhbokhlkaaGreatDoor
open Go.ChangeShapes Go.WideShapes Go.ChangeAt Go.RowKit Go.PlainAid
set_option linter.unusedSimpArgs false
set_option linter.unusedVariables false

instance (z : Int) : Decidable (okSize z) := by unfold okSize; infer_instance
instance (n z : Int) : Decidable (fitsP n z) := by unfold fitsP; infer_instance

/-- the reading's error, and its number -/
def unsE (s : ByteArray) (p z : Int) : Int := if ¬ okSize z then 1 else if p < 0 ∨ s.size < p then 2 else if s.size - p < z then 3 else 0
def unsV (s : ByteArray) (p z : Int) : Int := if unsE s p z = 0 then rdU (fromB s p.toNat) z.toNat else 0
def sigV (s : ByteArray) (p z : Int) : Int := sgn z (unsV s p z)

theorem unsE_cases (s : ByteArray) (p z : Int) :
    (¬ okSize z ∧ unsE s p z = 1 ∧ unsV s p z = 0) ∨ (okSize z ∧ (p < 0 ∨ s.size < p) ∧ unsE s p z = 2 ∧ unsV s p z = 0) ∨
    (okSize z ∧ 0 ≤ p ∧ p ≤ s.size ∧ s.size - p < z ∧ unsE s p z = 3 ∧ unsV s p z = 0) ∨
    (okSize z ∧ 0 ≤ p ∧ p + z ≤ s.size ∧ unsE s p z = 0 ∧ unsV s p z = rdU (fromB s p.toNat) z.toNat) := by
  unfold unsV unsE
  by_cases h1 : okSize z
  · by_cases h2 : p < 0 ∨ s.size < p
    · simp [h1, h2]
    · by_cases h3 : s.size - p < z
      · simp [h1, h2, h3]; omega
      · simp [h1, h2, h3]; omega
  · simp [h1]

theorem uns_any (s : ByteArray) (p z : Int) (hs : s.size ≤ 9223372036854775807) (w : World) :
    Calls Tryz.prog 53 #[.string s, .int .i64 p, .int .i64 z] w fun e w' => e = .returned (.tuple #[.int .i64 (unsV s p z), .int .i64 (unsE s p z)]) ∧ w = w' := by
  rcases unsE_cases s p z with ⟨h, h1, h2⟩ | ⟨h, h', h1, h2⟩ | ⟨h, h', h'', h''', h1, h2⟩ | ⟨h, h', h'', h1, h2⟩
  · rw [h1, h2]; exact uns_bad s p z h w
  · rw [h1, h2]; exact uns_range s p z h h' hs w
  · rw [h1, h2]; exact uns_short s p z h h' h'' h''' hs w
  · rw [h1, h2]
    obtain ⟨q, rfl⟩ : ∃ q : Nat, p = q := ⟨p.toNat, by omega⟩
    obtain ⟨y, rfl⟩ : ∃ y : Nat, z = y := ⟨z.toNat, by unfold okSize at h; omega⟩
    exact uns_ok s q y h (by omega) hs w
theorem sgn_zero (z : Int) : sgn z 0 = 0 := by unfold sgn; simp
theorem sig_any (s : ByteArray) (p z : Int) (hs : s.size ≤ 9223372036854775807) (w : World) :
    Calls Tryz.prog 66 #[.string s, .int .i64 p, .int .i64 z] w fun e w' => e = .returned (.tuple #[.int .i64 (sigV s p z), .int .i64 (unsE s p z)]) ∧ w = w' := by
  unfold sigV
  rcases unsE_cases s p z with ⟨h, h1, h2⟩ | ⟨h, h', h1, h2⟩ | ⟨h, h', h'', h''', h1, h2⟩ | ⟨h, h', h'', h1, h2⟩
  · rw [h1, h2, sgn_zero]; exact sig_err s p z 1 (by decide) w (uns_bad s p z h w)
  · rw [h1, h2, sgn_zero]; exact sig_err s p z 2 (by decide) w (uns_range s p z h h' hs w)
  · rw [h1, h2, sgn_zero]; exact sig_err s p z 3 (by decide) w (uns_short s p z h h' h'' h''' hs w)
  · rw [h1, h2]
    obtain ⟨q, rfl⟩ : ∃ q : Nat, p = q := ⟨p.toNat, by omega⟩
    obtain ⟨y, rfl⟩ : ∃ y : Nat, z = y := ⟨z.toNat, by unfold okSize at h; omega⟩
    exact sig_ok s q y h (by omega) hs w

theorem there_any (s : ByteArray) (p z : Int) (hs : s.size ≤ 9223372036854775807) (w : World) :
    Calls Tryz.prog 75 #[.string s, .int .i64 p, .int .i64 z] w fun e w' => e = .returned (.int .i64 (unsE s p z)) ∧ w = w' := by
  rcases unsE_cases s p z with ⟨h, h1, h2⟩ | ⟨h, h', h1, h2⟩ | ⟨h, h', h'', h''', h1, h2⟩ | ⟨h, h', h'', h1, h2⟩
  · rw [h1]; clear h1 h2
    go_enter Tryz.func75, Tryz.ntmps75
    go_wp2_with (go_at_call 63; refine (rsize_no z h _).mono ?_; rintro e w' ⟨rfl, rfl⟩)
    go_ret
    exact ⟨rfl, rfl⟩
  · rw [h1]; clear h1 h2
    by_cases hp : p < 0
    · clear h'
      go_enter Tryz.func75, Tryz.ntmps75
      go_wp2_with (go_at_call 63; refine (rsize_ok z h _).mono ?_; rintro e w' ⟨rfl, rfl⟩)
      go_ret
      exact ⟨rfl, rfl⟩
    · have h' : (s.size : Int) < p := by omega
      go_enter Tryz.func75, Tryz.ntmps75
      go_wp2_with (go_at_call 63; refine (rsize_ok z h _).mono ?_; rintro e w' ⟨rfl, rfl⟩)
      go_ret
      exact ⟨rfl, rfl⟩
  · rw [h1]; clear h1 h2
    go_enter Tryz.func75, Tryz.ntmps75
    go_wp2_with (go_at_call 63; refine (rsize_ok z h _).mono ?_; rintro e w' ⟨rfl, rfl⟩)
    go_ret
    exact ⟨rfl, rfl⟩
  · rw [h1]; clear h1 h2
    have hn : 1 ≤ z := by unfold okSize at h; omega
    go_enter Tryz.func75, Tryz.ntmps75
    go_wp2_with (go_at_call 63; refine (rsize_ok z h _).mono ?_; rintro e w' ⟨rfl, rfl⟩)
    go_ret
    exact ⟨rfl, rfl⟩

def rdS (f : Nat → Int) : Nat → Int
  | 0 => if 127 < f 0 then f 0 - 256 else f 0
  | k + 1 => wrap64 (wrap64 (rdS f k * 256) + f (k + 1))
theorem rdS_bd (f : Nat → Int) (h : 0 ≤ f 0 ∧ f 0 ≤ 255) : ∀ k, -9223372036854775808 ≤ rdS f k ∧ rdS f k ≤ 9223372036854775807
  | 0 => by simp only [rdS]; split <;> omega
  | k + 1 => wrap64_bd _
theorem rd_up (x c y : Int) : wrap64 (wrap64 (wrap64 (x - c) * 256) + y) = wrap64 (wrap64 (x * 256 + y) - c * 256) := by
  unfold wrap64; omega
theorem rdS_U (f : Nat → Int) (h : 0 ≤ f 0 ∧ f 0 ≤ 255) : ∀ k, rdS f k = wrap64 (rdU f (k + 1) - (if 127 < f 0 then 256 ^ (k + 1) else 0))
  | 0 => by
    simp only [rdS, rdU]; unfold wrap64; split <;> omega
  | k + 1 => by
    rw [rdS, rdS_U f h k]
    show _ = wrap64 (wrap64 (rdU f (k + 1) * 256 + f (k + 1)) - _)
    rw [rd_up]
    congr 2
    split
    · rw [Int.pow_succ]; rfl
    · rfl
theorem fromB_bd (s : ByteArray) (p i : Nat) : 0 ≤ fromB s p i ∧ fromB s p i ≤ 255 := ⟨bt_nonneg _ _, bt_le _ _⟩
theorem sgn_rdS (s : ByteArray) (p z : Nat) (hz : okSize z) : rdS (fromB s p) (z - 1) = sgn z (rdU (fromB s p) z) := by
  have h0 := fromB_bd s p 0
  have h1 := fromB_bd s p 1
  have h2 := fromB_bd s p 2
  have h3 := fromB_bd s p 3
  have h4 : z = 1 ∨ z = 2 ∨ z = 4 ∨ z = 8 := by unfold okSize at hz; omega
  rcases h4 with rfl | rfl | rfl | rfl
  · rw [rdS_U _ h0]; simp [rdU, sgn]; unfold wrap64; split <;> omega
  · rw [rdS_U _ h0]; simp [rdU, sgn]; unfold wrap64; split <;> omega
  · rw [rdS_U _ h0]; simp [rdU, sgn]; unfold wrap64; split <;> omega
  · rw [rdS_U _ h0]
    have hb := rdU_bd (fromB s p) 8
    simp only [Nat.add_one_sub_one, Nat.reduceAdd, Nat.reduceSub, sgn]
    generalize rdU (fromB s p) 8 = u at *
    simp
    unfold wrap64; split <;> omega

theorem rsigned_any (s : ByteArray) (p z : Int) (hs : s.size ≤ 9223372036854775807) (w : World) :
    Calls Tryz.prog 67 #[.string s, .int .i64 p, .int .i64 z] w fun e w' => e = .returned (.tuple #[.int .i64 (sigV s p z), .int .i64 (unsE s p z)]) ∧ w = w' := by
  have ht := there_any s p z hs w
  unfold sigV
  rcases unsE_cases s p z with ⟨h, h1, h2⟩ | ⟨h, h', h1, h2⟩ | ⟨h, h', h'', h''', h1, h2⟩ | ⟨h, h', h'', h1, h2⟩
  iterate 3
    · rw [h1] at ht ⊢; rw [h2, sgn_zero]; clear h1 h2
      go_enter Tryz.func67, Tryz.ntmps67
      go_wp2_with (go_at_call 75; refine (ht).mono ?_; rintro e w' ⟨rfl, rfl⟩)
      go_returns
      exact ⟨rfl, rfl⟩
  · rw [h1] at ht ⊢; rw [h2]; clear h1 h2
    obtain ⟨q, rfl⟩ : ∃ q : Nat, p = q := ⟨p.toNat, by omega⟩
    obtain ⟨y, rfl⟩ : ∃ y : Nat, z = y := ⟨z.toNat, by unfold okSize at h; omega⟩
    have hy : 1 ≤ y ∧ y ≤ 8 := by unfold okSize at h; omega
    have hr := Lib.hid (sgn_rdS s q y h)
    have hb := get_bt s
    have hbb := rdS_bd (fromB s q) (fromB_bd s q 0)
    have h0 := fromB_bd s q 0
    unfold fromB at h0
    rw [Nat.add_zero] at h0
    have hw := wrap64_id (n := bt s q) (by omega)
    have hS0 := Lib.hid (show rdS (fromB s q) 0 = if 127 < bt s q then bt s q - 256 else bt s q from rfl)
    by_cases h127 : 127 < bt s q
    all_goals
      go_enter Tryz.func67, Tryz.ntmps67
      go_wp2_with (go_at_call 75; refine (ht).mono ?_; rintro e w' ⟨rfl, rfl⟩)
      go_loop [9, 10] (fun n i => ∃ k : Nat, k + 1 ≤ y ∧ i = .int .i64 ((k + 1 : Nat) : Int) ∧ n = .int .i64 (rdS (fromB s q) k)) (fun _ i => y - (intOf i).toNat)
      case atStart => exact ⟨0, by omega, rfl, by rw [hS0.out]; first | rw [if_pos h127] | rw [if_neg (by omega)]⟩
      case round =>
        obtain ⟨k, hk, rfl, rfl⟩ := hrel
        by_cases hlt : k + 1 < y
        · have hbk := hbb k
          have hb0 := bt_nonneg s (q + (k + 1))
          have hb1 := bt_le s (q + (k + 1))
          go_wp2
          go_round
          case rel => exact ⟨k + 1, by omega, by go_num, rfl⟩
          case measure => simp [intOf]; omega
        · obtain rfl : k + 1 = y := by omega
          go_wp2
          go_returns
          exact ⟨ret_ii hr.out rfl, rfl⟩

end Go.Proofs.YthfegbhbokhlkaaGreatDoor

/- OctLaw -/
/- The statements of layer 2 on Put and on the reading functions. -/
namespace Go.Proofs.YthfegbhbokhlkaaGreatDoor
open Go.ChangeShapes Go.WideShapes Go.ChangeAt Go.RowKit Go.PlainAid
set_option linter.unusedSimpArgs false
set_option linter.unusedVariables false

theorem runs_any (s : ByteArray) (p z : Int) (hs : s.size ≤ 9223372036854775807) (w : World) :
    Calls Tryz.prog 57 #[.string s, .int .i64 p, .int .i64 z] w fun e w' => e = .returned (.tuple #[.int .i64 (unsV s p z), .int .i64 (unsE s p z)]) ∧ w = w' := by
  have ht := rsigned_any s p z hs w
  unfold sigV at ht
  rcases unsE_cases s p z with ⟨h, h1, h2⟩ | ⟨h, h', h1, h2⟩ | ⟨h, h', h'', h''', h1, h2⟩ | ⟨h, h', h'', h1, h2⟩
  iterate 3
    · rw [h1, h2] at ht ⊢; rw [sgn_zero] at ht; clear h1 h2
      go_enter Tryz.func57, Tryz.ntmps57
      go_wp2_with (go_at_call 67; refine (ht).mono ?_; rintro e w' ⟨rfl, rfl⟩)
      go_returns
      exact ⟨rfl, rfl⟩
  · rw [h1, h2] at ht ⊢; clear h1 h2
    obtain ⟨q, rfl⟩ : ∃ q : Nat, p = q := ⟨p.toNat, by omega⟩
    have hf0 := fromB_bd s q 0
    have hf1 := fromB_bd s q 1
    have hf2 := fromB_bd s q 2
    have hf3 := fromB_bd s q 3
    have hbd := rdU_bd (fromB s q)
    have hu : (z = 1 → 0 ≤ rdU (fromB s q) z.toNat ∧ rdU (fromB s q) z.toNat ≤ 255) ∧ (z = 2 → 0 ≤ rdU (fromB s q) z.toNat ∧ rdU (fromB s q) z.toNat ≤ 65535) ∧ (z = 4 → 0 ≤ rdU (fromB s q) z.toNat ∧ rdU (fromB s q) z.toNat ≤ 4294967295) := by
      refine ⟨?_, ?_, ?_⟩ <;> (rintro rfl; simp [rdU]; unfold wrap64; omega)
    have hbz := hbd z.toNat
    simp only [Int.toNat_natCast] at ht ⊢
    obtain ⟨u, hu'⟩ : ∃ u, rdU (fromB s q) z.toNat = u := ⟨_, rfl⟩
    rw [hu'] at hu hbz ht ⊢
    clear hf0 hf1 hf2 hf3 hbd hu'
    rcases h with rfl | rfl | rfl | rfl
    · have hu := hu.1 rfl
      have hs1 : sgn 1 u = if 128 ≤ u then u - 256 else u := by simp only [sgn]; simp; split <;> omega
      rw [hs1] at ht; clear hs1
      by_cases hc : 128 ≤ u
      · rw [if_pos hc] at ht
        go_enter Tryz.func57, Tryz.ntmps57
        go_wp2_with (go_at_call 67; refine (ht).mono ?_; rintro e w' ⟨rfl, rfl⟩)
        go_returns
        exact ⟨ret_ii (by omega) rfl, rfl⟩
      · rw [if_neg hc] at ht
        go_enter Tryz.func57, Tryz.ntmps57
        go_wp2_with (go_at_call 67; refine (ht).mono ?_; rintro e w' ⟨rfl, rfl⟩)
        go_returns
        exact ⟨rfl, rfl⟩
    · have hu := hu.2.1 rfl
      have hs1 : sgn 2 u = if 32768 ≤ u then u - 65536 else u := by simp only [sgn]; simp; split <;> omega
      rw [hs1] at ht; clear hs1
      by_cases hc : 32768 ≤ u
      · rw [if_pos hc] at ht
        go_enter Tryz.func57, Tryz.ntmps57
        go_wp2_with (go_at_call 67; refine (ht).mono ?_; rintro e w' ⟨rfl, rfl⟩)
        go_returns
        exact ⟨ret_ii (by omega) rfl, rfl⟩
      · rw [if_neg hc] at ht
        go_enter Tryz.func57, Tryz.ntmps57
        go_wp2_with (go_at_call 67; refine (ht).mono ?_; rintro e w' ⟨rfl, rfl⟩)
        go_returns
        exact ⟨rfl, rfl⟩
    · have hu := hu.2.2 rfl
      have hs1 : sgn 4 u = if 2147483648 ≤ u then u - 4294967296 else u := by simp only [sgn]; simp; split <;> omega
      rw [hs1] at ht; clear hs1
      by_cases hc : 2147483648 ≤ u
      · rw [if_pos hc] at ht
        go_enter Tryz.func57, Tryz.ntmps57
        go_wp2_with (go_at_call 67; refine (ht).mono ?_; rintro e w' ⟨rfl, rfl⟩)
        go_returns
        exact ⟨ret_ii (by omega) rfl, rfl⟩
      · rw [if_neg hc] at ht
        go_enter Tryz.func57, Tryz.ntmps57
        go_wp2_with (go_at_call 67; refine (ht).mono ?_; rintro e w' ⟨rfl, rfl⟩)
        go_returns
        exact ⟨rfl, rfl⟩
    · have hs1 : sgn 8 u = u := by simp [sgn]
      rw [hs1] at ht; clear hs1
      go_enter Tryz.func57, Tryz.ntmps57
      go_wp2_with (go_at_call 67; refine (ht).mono ?_; rintro e w' ⟨rfl, rfl⟩)
      go_returns
      exact ⟨rfl, rfl⟩

end Go.Proofs.YthfegbhbokhlkaaGreatDoor

/- OctLawTwo -/
/- The statements of layer 2: the examples; Put and the reading functions against the reference. -/
namespace Go.Proofs.YthfegbhbokhlkaaGreatDoor
open Go.ChangeShapes Go.WideShapes Go.ChangeAt Go.RowKit Go.PlainAid
set_option linter.unusedSimpArgs false
set_option linter.unusedVariables false

theorem below_then {w w1 w2 : World} (h1 : Below w.heap.size w w1) (h2 : Below w1.heap.size w1 w2) : Below w.heap.size w w2 := h1.trans (h2.mono h1.size)

def putE (n z : Int) : Int := if ¬ okSize z then 1 else if ¬ fitsP n z then 8 else 0
def putB (n z : Int) : ByteArray := if okSize z ∧ fitsP n z then strOfNums (putL n z) else strOfNums []

theorem put_any (n z : Int) (w : World) :
    Calls Tryz.prog 48 #[.int .i64 n, .int .i64 z] w fun e w' => e = .returned (.tuple #[.string (putB n z), .int .i64 (putE n z)]) ∧ Below w.heap.size w w' := by
  unfold putE putB
  by_cases hz : okSize z
  · by_cases hf : fitsP n z
    · simp only [hz, hf, not_true_eq_false, and_self, if_true, if_false]; exact put_ok n z hz hf w
    · simp only [hz, hf, not_true_eq_false, not_false_eq_true, and_false, if_true, if_false]
      exact (put_big n z hz hf w).mono fun _ _ ⟨a, b⟩ => ⟨a, below_eq b⟩
  · simp only [hz, not_false_eq_true, false_and, if_true, if_false]
    exact (put_bad n z hz w).mono fun _ _ ⟨a, b⟩ => ⟨a, below_eq b⟩
theorem rput_any (n z : Int) (w : World) :
    Calls Tryz.prog 50 #[.int .i64 n, .int .i64 z] w fun e w' => e = .returned (.tuple #[.string (putB n z), .int .i64 (putE n z)]) ∧ Below w.heap.size w w' := by
  unfold putE putB
  by_cases hz : okSize z
  · by_cases hf : fitsP n z
    · simp only [hz, hf, not_true_eq_false, and_self, if_true, if_false]; exact rput_ok n z hz hf w
    · simp only [hz, hf, not_true_eq_false, not_false_eq_true, and_false, if_true, if_false]
      exact (rput_big n z hz hf w).mono fun _ _ ⟨a, b⟩ => ⟨a, below_eq b⟩
  · simp only [hz, not_false_eq_true, false_and, if_true, if_false]
    exact (rput_bad n z hz w).mono fun _ _ ⟨a, b⟩ => ⟨a, below_eq b⟩

theorem gets_ex (w : World) :
    Calls Tryz.prog 65 #[.string ⟨#[120, 0, 1, 97, 98]⟩, .int .i64 1] w fun e w' => e = .returned (.tuple #[.string ⟨#[97]⟩, .int .i64 4, .int .i64 0]) ∧ w = w' := by
  have e1 : unsV ⟨#[120, 0, 1, 97, 98]⟩ 1 2 = 1 := by decide +kernel
  have e2 : unsE ⟨#[120, 0, 1, 97, 98]⟩ 1 2 = 0 := by decide +kernel
  go_enter Tryz.func65, Tryz.ntmps65
  go_wp2_with (go_at_call 53; refine (uns_any _ _ _ (by decide) _).mono ?_; rintro e w' ⟨rfl, rfl⟩)
  go_returns
  exact ⟨rfl, rfl⟩
end Go.Proofs.YthfegbhbokhlkaaGreatDoor

/- OctStr -/
/- Contracts of PutString and GetString, and of their reference; the statement that holds the one against the other. -/
namespace Go.Proofs.YthfegbhbokhlkaaGreatDoor
open Go.ChangeShapes Go.WideShapes Go.ChangeAt Go.RowKit Go.PlainAid
set_option linter.unusedSimpArgs false
set_option linter.unusedVariables false

def psB (s : ByteArray) : ByteArray := if s.size ≤ 65535 then strOfNums (putL s.size 2) ++ s else strOfNums []
def psE (s : ByteArray) : Int := if s.size ≤ 65535 then 0 else 8

theorem put2_size (n : Int) : (strOfNums (putL n 2)).size = 2 := by rw [strOfNums_size]; rfl

theorem puts_any (s : ByteArray) (hs : s.size ≤ 9223372036854775807) (w : World) :
    Calls Tryz.prog 44 #[.string s] w fun e w' => e = .returned (.tuple #[.string (psB s), .int .i64 (psE s)]) ∧ Below w.heap.size w w' := by
  by_cases h : s.size ≤ 65535
  · have hf : fitsP s.size 2 := by unfold fitsP; omega
    have h2 := put2_size s.size
    go_enter Tryz.func44, Tryz.ntmps44
    go_wp2_with (go_at_call 48; refine (put_ok _ _ (by simp [okSize]) hf _).mono ?_; rintro e w1 ⟨rfl, hb1⟩)
    go_returns
    exact ⟨ret_si (by simp [psB, h]) (by simp [psE, h]), hb1⟩
  · go_enter Tryz.func44, Tryz.ntmps44
    go_wp2
    go_returns
    exact ⟨ret_si (by simp [psB, h]; rfl) (by simp [psE, h]), Below.refl _ _⟩
theorem rputs_any (s : ByteArray) (hs : s.size ≤ 9223372036854775807) (w : World) :
    Calls Tryz.prog 64 #[.string s] w fun e w' => e = .returned (.tuple #[.string (psB s), .int .i64 (psE s)]) ∧ Below w.heap.size w w' := by
  by_cases h : s.size ≤ 65535
  · have hf : fitsP s.size 2 := by unfold fitsP; omega
    have h2 := put2_size s.size
    go_enter Tryz.func64, Tryz.ntmps64
    go_wp2_with (go_at_call 50; refine (rput_ok _ _ (by simp [okSize]) hf _).mono ?_; rintro e w1 ⟨rfl, hb1⟩)
    go_returns
    exact ⟨ret_si (by simp [psB, h]) (by simp [psE, h]), hb1⟩
  · have hf : ¬ fitsP s.size 2 := by unfold fitsP; omega
    go_enter Tryz.func64, Tryz.ntmps64
    go_wp2_with (go_at_call 50; refine (rput_big _ _ (by simp [okSize]) hf _).mono ?_; rintro e w' ⟨rfl, rfl⟩)
    go_returns
    exact ⟨ret_si (by simp [psB, h]; rfl) (by simp [psE, h]), Below.refl _ _⟩

def gsE (s : ByteArray) (p : Int) : Int := if unsE s p 2 ≠ 0 then unsE s p 2 else if s.size - (p + 2) < unsV s p 2 then 3 else 0
def gsB (s : ByteArray) (p : Int) : ByteArray := if gsE s p = 0 then s.extract (p + 2).toNat (p + 2 + unsV s p 2).toNat else ⟨#[]⟩
def gsN (s : ByteArray) (p : Int) : Int := if gsE s p = 0 then p + 2 + unsV s p 2 else 0

theorem uns2_bd (s : ByteArray) (p : Int) : 0 ≤ unsV s p 2 ∧ unsV s p 2 ≤ 65535 := by
  have h0 := fromB_bd s p.toNat 0
  have h1 := fromB_bd s p.toNat 1
  unfold unsV; split
  · simp [rdU]; unfold wrap64; omega
  · omega
theorem gs_cases (s : ByteArray) (p : Int) :
    (unsE s p 2 ≠ 0 ∧ gsE s p = unsE s p 2 ∧ gsB s p = ⟨#[]⟩ ∧ gsN s p = 0) ∨
    (unsE s p 2 = 0 ∧ 0 ≤ p ∧ p + 2 ≤ s.size ∧ s.size - (p + 2) < unsV s p 2 ∧ gsE s p = 3 ∧ gsB s p = ⟨#[]⟩ ∧ gsN s p = 0) ∨
    (unsE s p 2 = 0 ∧ 0 ≤ p ∧ p + 2 + unsV s p 2 ≤ s.size ∧ gsE s p = 0 ∧ gsB s p = s.extract (p + 2).toNat (p + 2 + unsV s p 2).toNat ∧ gsN s p = p + 2 + unsV s p 2) := by
  have hc := unsE_cases s p 2
  unfold gsB gsN gsE
  by_cases h : unsE s p 2 = 0
  · have hp : 0 ≤ p ∧ p + 2 ≤ s.size := by omega
    by_cases h2 : s.size - (p + 2) < unsV s p 2
    · simp [h, h2]; omega
    · simp [h, h2]; omega
  · simp [h]

theorem gets_any (s : ByteArray) (p : Int) (hs : s.size ≤ 9223372036854775807) (w : World) :
    Calls Tryz.prog 65 #[.string s, .int .i64 p] w fun e w' => e = .returned (.tuple #[.string (gsB s p), .int .i64 (gsN s p), .int .i64 (gsE s p)]) ∧ w = w' := by
  have hu := uns_any s p 2 hs w
  have hbd := uns2_bd s p
  have hg := gs_cases s p
  generalize unsV s p 2 = u at *
  generalize unsE s p 2 = x at *
  rcases hg with ⟨h, h1, h2, h3⟩ | ⟨rfl, h, h', h'', h1, h2, h3⟩ | ⟨rfl, h, h', h1, h2, h3⟩
  · rw [h1, h2, h3]
    go_enter Tryz.func65, Tryz.ntmps65
    go_wp2_with (go_at_call 53; refine (hu).mono ?_; rintro e w' ⟨rfl, rfl⟩)
    go_returns
    exact ⟨rfl, rfl⟩
  · rw [h1, h2, h3]
    go_enter Tryz.func65, Tryz.ntmps65
    go_wp2_with (go_at_call 53; refine (hu).mono ?_; rintro e w' ⟨rfl, rfl⟩)
    go_returns
    exact ⟨rfl, rfl⟩
  · rw [h1, h2, h3]
    go_enter Tryz.func65, Tryz.ntmps65
    go_wp2_with (go_at_call 53; refine (hu).mono ?_; rintro e w' ⟨rfl, rfl⟩)
    go_returns
    exact ⟨rfl, rfl⟩
theorem rgets_any (s : ByteArray) (p : Int) (hs : s.size ≤ 9223372036854775807) (w : World) :
    Calls Tryz.prog 68 #[.string s, .int .i64 p] w fun e w' => e = .returned (.tuple #[.string (gsB s p), .int .i64 (gsN s p), .int .i64 (gsE s p)]) ∧ w = w' := by
  have hu := runs_any s p 2 hs w
  have hbd := uns2_bd s p
  have hg := gs_cases s p
  generalize unsV s p 2 = u at *
  generalize unsE s p 2 = x at *
  rcases hg with ⟨h, h1, h2, h3⟩ | ⟨rfl, h, h', h'', h1, h2, h3⟩ | ⟨rfl, h, h', h1, h2, h3⟩
  · rw [h1, h2, h3]
    go_enter Tryz.func68, Tryz.ntmps68
    go_wp2_with (go_at_call 57; refine (hu).mono ?_; rintro e w' ⟨rfl, rfl⟩)
    go_returns
    exact ⟨rfl, rfl⟩
  · rw [h1, h2, h3]
    go_enter Tryz.func68, Tryz.ntmps68
    go_wp2_with (go_at_call 57; refine (hu).mono ?_; rintro e w' ⟨rfl, rfl⟩)
    go_returns
    exact ⟨rfl, rfl⟩
  · rw [h1, h2, h3]
    go_enter Tryz.func68, Tryz.ntmps68
    go_wp2_with (go_at_call 57; refine (hu).mono ?_; rintro e w' ⟨rfl, rfl⟩)
    go_returns
    exact ⟨rfl, rfl⟩

end Go.Proofs.YthfegbhbokhlkaaGreatDoor

/- OctRound -/
/- The statements of layer 2 on round trips and on order. -/
namespace Go.Proofs.YthfegbhbokhlkaaGreatDoor
open Go.ChangeShapes Go.WideShapes Go.ChangeAt Go.RowKit Go.PlainAid
set_option linter.unusedSimpArgs false
set_option linter.unusedVariables false

theorem bt_dataO (s : ByteArray) (k : Nat) : bt s k = ((s.data.toList.getD k 0).toNat : Int) := by
  unfold bt
  by_cases h : k < s.size
  · have h' : k < s.data.toList.length := by simpa using h
    rw [dif_pos h, List.getD_eq_getElem?_getD, List.getElem?_eq_getElem h']
    rfl
  · have h' : s.data.toList.length ≤ k := by simpa using Nat.le_of_not_lt h
    rw [dif_neg h, List.getD_eq_getElem?_getD, List.getElem?_eq_none h']
    rfl
theorem data_append (a b : ByteArray) : (a ++ b).data.toList = a.data.toList ++ b.data.toList := by simp
theorem bt_left (a b : ByteArray) (i : Nat) (h : i < a.size) : bt (a ++ b) i = bt a i := by
  have h' : i < a.data.toList.length := by simpa using h
  rw [bt_dataO, bt_dataO, data_append, List.getD_eq_getElem?_getD, List.getD_eq_getElem?_getD, List.getElem?_append_left h']
theorem bt_right (a b : ByteArray) (i : Nat) : bt (a ++ b) (a.size + i) = bt b i := by
  have h' : a.data.toList.length = a.size := by simp
  rw [bt_dataO, bt_dataO, data_append, ← h', List.getD_eq_getElem?_getD, List.getD_eq_getElem?_getD, List.getElem?_append_right (by omega), Nat.add_sub_cancel_left]
theorem bt_nums (xs : List Int) (i : Nat) (h : i < xs.length) (h0 : 0 ≤ xs.getD i 0 ∧ xs.getD i 0 ≤ 255) : bt (strOfNums xs) i = xs.getD i 0 := by
  rw [bt_dataO, strOfNums_data]
  rw [List.getD_eq_getElem?_getD, List.getElem?_map, List.getElem?_eq_getElem h]
  rw [List.getD_eq_getElem?_getD, List.getElem?_eq_getElem h] at h0 ⊢
  simp only [Option.map_some, Option.getD_some] at h0 ⊢
  rw [UInt8.toNat_ofNat']
  omega
theorem mid_bytes (a b c : ByteArray) (i : Nat) (h : i < b.size) : fromB (a ++ b ++ c) a.size i = bt b i := by
  unfold fromB
  rw [bt_left _ _ _ (by rw [ByteArray.size_append]; omega), bt_right]

theorem putL_len (n z : Int) (hz : okSize z) : (putL n z).length = z.toNat := by
  rcases hz with rfl | rfl | rfl | rfl <;> rfl
theorem putL_bd (n z : Int) (i : Nat) : 0 ≤ (putL n z).getD i 0 ∧ (putL n z).getD i 0 ≤ 255 := by
  have hd : ∀ l : List Int, (∀ x ∈ l, 0 ≤ x ∧ x ≤ 255) → 0 ≤ l.getD i 0 ∧ l.getD i 0 ≤ 255 := by
    intro l hl
    rw [List.getD_eq_getElem?_getD]
    by_cases h : i < l.length
    · rw [List.getElem?_eq_getElem h]; exact hl _ (List.getElem_mem h)
    · rw [List.getElem?_eq_none (by omega)]; simp
  apply hd
  intro x hx
  unfold putL at hx
  split at hx
  · simp at hx; omega
  · split at hx
    · simp at hx; omega
    · split at hx
      · simp at hx; omega
      · simp at hx; omega

/-- the number that the bytes of n say -/
def unsOf (n z : Int) : Int := if z = 1 then n % 256 else if z = 2 then n % 65536 else if z = 4 then n % 4294967296 else n

theorem rd_put (f : Nat → Int) (n : Int) (z : Nat) (hz : okSize z) (hn : -9223372036854775808 ≤ n ∧ n ≤ 9223372036854775807) (hf : ∀ i, i < z → f i = (putL n z).getD i 0) : rdU f z = unsOf n z := by
  have h4 : z = 1 ∨ z = 2 ∨ z = 4 ∨ z = 8 := by unfold okSize at hz; omega
  rcases h4 with rfl | rfl | rfl | rfl
  · have f0 := hf 0 (by omega)
    simp [putL] at f0
    simp only [rdU, f0, unsOf]
    simp; unfold wrap64; omega
  · have f0 := hf 0 (by omega)
    have f1 := hf 1 (by omega)
    simp [putL] at f0 f1
    simp only [rdU, f0, f1, unsOf]
    simp; unfold wrap64; omega
  · have f0 := hf 0 (by omega)
    have f1 := hf 1 (by omega)
    have f2 := hf 2 (by omega)
    have f3 := hf 3 (by omega)
    simp [putL] at f0 f1 f2 f3
    have r1 : rdU f 1 = n / 16777216 % 256 := by simp only [rdU, f0]; unfold wrap64; omega
    have r2 : rdU f 2 = n / 65536 % 65536 := by rw [rdU, r1, f1]; unfold wrap64; omega
    have r3 : rdU f 3 = n / 256 % 16777216 := by rw [rdU, r2, f2]; unfold wrap64; omega
    rw [rdU, r3, f3]
    simp [unsOf]; unfold wrap64; omega
  · have f0 := hf 0 (by omega)
    have f1 := hf 1 (by omega)
    have f2 := hf 2 (by omega)
    have f3 := hf 3 (by omega)
    have f4 := hf 4 (by omega)
    have f5 := hf 5 (by omega)
    have f6 := hf 6 (by omega)
    have f7 := hf 7 (by omega)
    simp [putL] at f0 f1 f2 f3 f4 f5 f6 f7
    have r1 : rdU f 1 = n / 72057594037927936 % 256 := by simp only [rdU, f0]; unfold wrap64; omega
    have r2 : rdU f 2 = n / 281474976710656 % 65536 := by rw [rdU, r1, f1]; unfold wrap64; omega
    have r3 : rdU f 3 = n / 1099511627776 % 16777216 := by rw [rdU, r2, f2]; unfold wrap64; omega
    have r4 : rdU f 4 = n / 4294967296 % 4294967296 := by rw [rdU, r3, f3]; unfold wrap64; omega
    have r5 : rdU f 5 = n / 16777216 % 1099511627776 := by rw [rdU, r4, f4]; unfold wrap64; omega
    have r6 : rdU f 6 = n / 65536 % 281474976710656 := by rw [rdU, r5, f5]; unfold wrap64; omega
    have r7 : rdU f 7 = n / 256 % 72057594037927936 := by rw [rdU, r6, f6]; unfold wrap64; omega
    rw [rdU, r7, f7]
    simp [unsOf]; unfold wrap64; omega

theorem uns_put (n z : Int) (a c : ByteArray) (hz : okSize z) (hn : -9223372036854775808 ≤ n ∧ n ≤ 9223372036854775807) :
    unsE (a ++ strOfNums (putL n z) ++ c) a.size z = 0 ∧ unsV (a ++ strOfNums (putL n z) ++ c) a.size z = unsOf n z := by
  have hlen : (strOfNums (putL n z)).size = z.toNat := by rw [strOfNums_size, putL_len n z hz]
  have hz1 : 1 ≤ z ∧ z ≤ 8 := by unfold okSize at hz; omega
  have hsz : (a ++ strOfNums (putL n z) ++ c).size = a.size + z.toNat + c.size := by rw [ByteArray.size_append, ByteArray.size_append, hlen]
  have hc := unsE_cases (a ++ strOfNums (putL n z) ++ c) a.size z
  rw [hsz] at hc
  have h0 : unsE (a ++ strOfNums (putL n z) ++ c) a.size z = 0 ∧ unsV (a ++ strOfNums (putL n z) ++ c) a.size z = rdU (fromB (a ++ strOfNums (putL n z) ++ c) (a.size : Int).toNat) z.toNat := by
    rcases hc with ⟨h, _⟩ | ⟨_, h, _⟩ | ⟨_, _, _, h, _⟩ | ⟨_, _, _, h⟩
    · exact absurd hz h
    · omega
    · omega
    · exact h
  refine ⟨h0.1, ?_⟩
  rw [h0.2, Int.toNat_natCast]
  obtain ⟨y, rfl⟩ : ∃ y : Nat, z = y := ⟨z.toNat, by omega⟩
  rw [Int.toNat_natCast] at hlen ⊢
  refine rd_put _ n y hz hn fun i hi => ?_
  rw [mid_bytes _ _ _ _ (by rw [hlen]; exact hi), bt_nums _ _ (by rw [putL_len n y hz]; exact hi) (putL_bd n y i)]

/-- the facts of a round trip of one number -/
theorem round_facts (n z : Int) (hz : okSize z) (hf : fitsP n z) (hn : -9223372036854775808 ≤ n ∧ n ≤ 9223372036854775807) :
    fitsP (unsOf n z) z ∧ putL (unsOf n z) z = putL n z ∧ (z < 8 → 0 ≤ unsOf n z) ∧ (n < 0 → sgn z (unsOf n z) = n) ∧ (0 ≤ n → unsOf n z = n) ∧ (n < 0 → z < 8 → 127 < unsOf n z) := by
  unfold fitsP at *
  rcases hz with rfl | rfl | rfl | rfl
  · simp [unsOf, putL, sgn] at *; omega
  · simp [unsOf, putL, sgn] at *; omega
  · simp [unsOf, putL, sgn] at *; omega
  · simp [unsOf, putL, sgn] at *

end Go.Proofs.YthfegbhbokhlkaaGreatDoor
