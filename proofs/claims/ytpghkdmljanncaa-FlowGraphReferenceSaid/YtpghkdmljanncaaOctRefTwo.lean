/- Contracts of the reading functions of package octet and of its reference: one plain function for both. -/
import Derived.Test.YtpghkdmljanncaaOctRead
import Derived.Test.YtpghkdmljanncaaOctRef
namespace Go.Proofs.Ytpghkdmljanncaa
open Go.ChangeShapes Go.WideShapes Go.ChangeAt Go.RowKit Go.PlainAid
set_option linter.unusedSimpArgs false
set_option linter.unusedVariables false

instance (z : Int) : Decidable (okSize z) := by unfold okSize; infer_instance
instance (n z : Int) : Decidable (fitsP n z) := by unfold fitsP; infer_instance

/-- the reading's error, and its number -/
def unsE (s : ByteArray) (p z : Int) : Int := if ¬ okSize z then 1 else if p < 0 ∨ s.size < p then 2 else if s.size - p < z then 3 else 0
def unsV (s : ByteArray) (p z : Int) : Int := if unsE s p z = 0 then rdU (fromB s p.toNat) z.toNat else 0
def sigV (s : ByteArray) (p z : Int) : Int := sgn z (unsV s p z)

theorem unsE_cases (s : ByteArray) (p z : Int) :
    (¬ okSize z ∧ unsE s p z = 1 ∧ unsV s p z = 0) ∨ (okSize z ∧ (p < 0 ∨ s.size < p) ∧ unsE s p z = 2 ∧ unsV s p z = 0) ∨
    (okSize z ∧ 0 ≤ p ∧ p ≤ s.size ∧ s.size - p < z ∧ unsE s p z = 3 ∧ unsV s p z = 0) ∨
    (okSize z ∧ 0 ≤ p ∧ p + z ≤ s.size ∧ unsE s p z = 0 ∧ unsV s p z = rdU (fromB s p.toNat) z.toNat) := by
  unfold unsV unsE
  by_cases h1 : okSize z
  · by_cases h2 : p < 0 ∨ s.size < p
    · simp [h1, h2]
    · by_cases h3 : s.size - p < z
      · simp [h1, h2, h3]; omega
      · simp [h1, h2, h3]; omega
  · simp [h1]

theorem uns_any (s : ByteArray) (p z : Int) (hs : s.size ≤ 9223372036854775807) (w : World) :
    Calls Try.prog 103 #[.string s, .int .i64 p, .int .i64 z] w fun e w' => e = .returned (.tuple #[.int .i64 (unsV s p z), .int .i64 (unsE s p z)]) ∧ w = w' := by
  rcases unsE_cases s p z with ⟨h, h1, h2⟩ | ⟨h, h', h1, h2⟩ | ⟨h, h', h'', h''', h1, h2⟩ | ⟨h, h', h'', h1, h2⟩
  · rw [h1, h2]; exact uns_bad s p z h w
  · rw [h1, h2]; exact uns_range s p z h h' hs w
  · rw [h1, h2]; exact uns_short s p z h h' h'' h''' hs w
  · rw [h1, h2]
    obtain ⟨q, rfl⟩ : ∃ q : Nat, p = q := ⟨p.toNat, by omega⟩
    obtain ⟨y, rfl⟩ : ∃ y : Nat, z = y := ⟨z.toNat, by unfold okSize at h; omega⟩
    exact uns_ok s q y h (by omega) hs w
theorem sgn_zero (z : Int) : sgn z 0 = 0 := by unfold sgn; simp
theorem sig_any (s : ByteArray) (p z : Int) (hs : s.size ≤ 9223372036854775807) (w : World) :
    Calls Try.prog 104 #[.string s, .int .i64 p, .int .i64 z] w fun e w' => e = .returned (.tuple #[.int .i64 (sigV s p z), .int .i64 (unsE s p z)]) ∧ w = w' := by
  unfold sigV
  rcases unsE_cases s p z with ⟨h, h1, h2⟩ | ⟨h, h', h1, h2⟩ | ⟨h, h', h'', h''', h1, h2⟩ | ⟨h, h', h'', h1, h2⟩
  · rw [h1, h2, sgn_zero]; exact sig_err s p z 1 (by decide) w (uns_bad s p z h w)
  · rw [h1, h2, sgn_zero]; exact sig_err s p z 2 (by decide) w (uns_range s p z h h' hs w)
  · rw [h1, h2, sgn_zero]; exact sig_err s p z 3 (by decide) w (uns_short s p z h h' h'' h''' hs w)
  · rw [h1, h2]
    obtain ⟨q, rfl⟩ : ∃ q : Nat, p = q := ⟨p.toNat, by omega⟩
    obtain ⟨y, rfl⟩ : ∃ y : Nat, z = y := ⟨z.toNat, by unfold okSize at h; omega⟩
    exact sig_ok s q y h (by omega) hs w

theorem there_any (s : ByteArray) (p z : Int) (hs : s.size ≤ 9223372036854775807) (w : World) :
    Calls Try.prog 112 #[.string s, .int .i64 p, .int .i64 z] w fun e w' => e = .returned (.int .i64 (unsE s p z)) ∧ w = w' := by
  rcases unsE_cases s p z with ⟨h, h1, h2⟩ | ⟨h, h', h1, h2⟩ | ⟨h, h', h'', h''', h1, h2⟩ | ⟨h, h', h'', h1, h2⟩
  · rw [h1]; clear h1 h2
    go_enter Try.func112, Try.ntmps112
    go_wp2_with (go_at_call 111; refine (rsize_no z h _).mono ?_; rintro e w' ⟨rfl, rfl⟩)
    go_ret
    exact ⟨rfl, rfl⟩
  · rw [h1]; clear h1 h2
    by_cases hp : p < 0
    · clear h'
      go_enter Try.func112, Try.ntmps112
      go_wp2_with (go_at_call 111; refine (rsize_ok z h _).mono ?_; rintro e w' ⟨rfl, rfl⟩)
      go_ret
      exact ⟨rfl, rfl⟩
    · have h' : (s.size : Int) < p := by omega
      go_enter Try.func112, Try.ntmps112
      go_wp2_with (go_at_call 111; refine (rsize_ok z h _).mono ?_; rintro e w' ⟨rfl, rfl⟩)
      go_ret
      exact ⟨rfl, rfl⟩
  · rw [h1]; clear h1 h2
    go_enter Try.func112, Try.ntmps112
    go_wp2_with (go_at_call 111; refine (rsize_ok z h _).mono ?_; rintro e w' ⟨rfl, rfl⟩)
    go_ret
    exact ⟨rfl, rfl⟩
  · rw [h1]; clear h1 h2
    have hn : 1 ≤ z := by unfold okSize at h; omega
    go_enter Try.func112, Try.ntmps112
    go_wp2_with (go_at_call 111; refine (rsize_ok z h _).mono ?_; rintro e w' ⟨rfl, rfl⟩)
    go_ret
    exact ⟨rfl, rfl⟩

def rdS (f : Nat → Int) : Nat → Int
  | 0 => if 127 < f 0 then f 0 - 256 else f 0
  | k + 1 => wrap64 (wrap64 (rdS f k * 256) + f (k + 1))
theorem rdS_bd (f : Nat → Int) (h : 0 ≤ f 0 ∧ f 0 ≤ 255) : ∀ k, -9223372036854775808 ≤ rdS f k ∧ rdS f k ≤ 9223372036854775807
  | 0 => by simp only [rdS]; split <;> omega
  | k + 1 => wrap64_bd _
theorem rd_up (x c y : Int) : wrap64 (wrap64 (wrap64 (x - c) * 256) + y) = wrap64 (wrap64 (x * 256 + y) - c * 256) := by
  unfold wrap64; omega
theorem rdS_U (f : Nat → Int) (h : 0 ≤ f 0 ∧ f 0 ≤ 255) : ∀ k, rdS f k = wrap64 (rdU f (k + 1) - (if 127 < f 0 then 256 ^ (k + 1) else 0))
  | 0 => by
    simp only [rdS, rdU]; unfold wrap64; split <;> omega
  | k + 1 => by
    rw [rdS, rdS_U f h k]
    show _ = wrap64 (wrap64 (rdU f (k + 1) * 256 + f (k + 1)) - _)
    rw [rd_up]
    congr 2
    split
    · rw [Int.pow_succ]; rfl
    · rfl
theorem fromB_bd (s : ByteArray) (p i : Nat) : 0 ≤ fromB s p i ∧ fromB s p i ≤ 255 := ⟨bt_nonneg _ _, bt_le _ _⟩
theorem sgn_rdS (s : ByteArray) (p z : Nat) (hz : okSize z) : rdS (fromB s p) (z - 1) = sgn z (rdU (fromB s p) z) := by
  have h0 := fromB_bd s p 0
  have h1 := fromB_bd s p 1
  have h2 := fromB_bd s p 2
  have h3 := fromB_bd s p 3
  have h4 : z = 1 ∨ z = 2 ∨ z = 4 ∨ z = 8 := by unfold okSize at hz; omega
  rcases h4 with rfl | rfl | rfl | rfl
  · rw [rdS_U _ h0]; simp [rdU, sgn]; unfold wrap64; split <;> omega
  · rw [rdS_U _ h0]; simp [rdU, sgn]; unfold wrap64; split <;> omega
  · rw [rdS_U _ h0]; simp [rdU, sgn]; unfold wrap64; split <;> omega
  · rw [rdS_U _ h0]
    have hb := rdU_bd (fromB s p) 8
    simp only [Nat.add_one_sub_one, Nat.reduceAdd, Nat.reduceSub, sgn]
    generalize rdU (fromB s p) 8 = u at *
    simp
    unfold wrap64; split <;> omega

theorem rsigned_any (s : ByteArray) (p z : Int) (hs : s.size ≤ 9223372036854775807) (w : World) :
    Calls Try.prog 105 #[.string s, .int .i64 p, .int .i64 z] w fun e w' => e = .returned (.tuple #[.int .i64 (sigV s p z), .int .i64 (unsE s p z)]) ∧ w = w' := by
  have ht := there_any s p z hs w
  unfold sigV
  rcases unsE_cases s p z with ⟨h, h1, h2⟩ | ⟨h, h', h1, h2⟩ | ⟨h, h', h'', h''', h1, h2⟩ | ⟨h, h', h'', h1, h2⟩
  iterate 3
    · rw [h1] at ht ⊢; rw [h2, sgn_zero]; clear h1 h2
      go_enter Try.func105, Try.ntmps105
      go_wp2_with (go_at_call 112; refine (ht).mono ?_; rintro e w' ⟨rfl, rfl⟩)
      go_returns
      exact ⟨rfl, rfl⟩
  · rw [h1] at ht ⊢; rw [h2]; clear h1 h2
    obtain ⟨q, rfl⟩ : ∃ q : Nat, p = q := ⟨p.toNat, by omega⟩
    obtain ⟨y, rfl⟩ : ∃ y : Nat, z = y := ⟨z.toNat, by unfold okSize at h; omega⟩
    have hy : 1 ≤ y ∧ y ≤ 8 := by unfold okSize at h; omega
    have hr := Lib.hid (sgn_rdS s q y h)
    have hb := get_bt s
    have hbb := rdS_bd (fromB s q) (fromB_bd s q 0)
    have h0 := fromB_bd s q 0
    unfold fromB at h0
    rw [Nat.add_zero] at h0
    have hw := wrap64_id (n := bt s q) (by omega)
    have hS0 := Lib.hid (show rdS (fromB s q) 0 = if 127 < bt s q then bt s q - 256 else bt s q from rfl)
    by_cases h127 : 127 < bt s q
    all_goals
      go_enter Try.func105, Try.ntmps105
      go_wp2_with (go_at_call 112; refine (ht).mono ?_; rintro e w' ⟨rfl, rfl⟩)
      go_loop [9, 10] (fun n i => ∃ k : Nat, k + 1 ≤ y ∧ i = .int .i64 ((k + 1 : Nat) : Int) ∧ n = .int .i64 (rdS (fromB s q) k)) (fun _ i => y - (intOf i).toNat)
      case atStart => exact ⟨0, by omega, rfl, by rw [hS0.out]; first | rw [if_pos h127] | rw [if_neg (by omega)]⟩
      case round =>
        obtain ⟨k, hk, rfl, rfl⟩ := hrel
        by_cases hlt : k + 1 < y
        · have hbk := hbb k
          have hb0 := bt_nonneg s (q + (k + 1))
          have hb1 := bt_le s (q + (k + 1))
          go_wp2
          go_round
          case rel => exact ⟨k + 1, by omega, by go_num, rfl⟩
          case measure => simp [intOf]; omega
        · obtain rfl : k + 1 = y := by omega
          go_wp2
          go_returns
          exact ⟨ret_ii hr.out rfl, rfl⟩

end Go.Proofs.Ytpghkdmljanncaa
