/- The last slash; Package, SimpleName, Join, HasPrefix, IsMemberName, in the package and in its reference. -/
import Derived.Test.YtfpdnhbbbadegaaGreatDoorNameCls
namespace Go.Proofs.YtfpdnhbbbadegaaGreatDoor
open Go.ChangeShapes Go.WideShapes Go.ChangeAt Go.RowKit Go.PlainAid
set_option linter.unusedSimpArgs false
set_option linter.unusedVariables false

def lastFrom (s : ByteArray) : Nat → Int
  | 0 => -1
  | k + 1 => if bt s k = 47 then k else lastFrom s k
def lastI (s : ByteArray) : Int := lastFrom s s.size
theorem last_hit (s : ByteArray) (k : Nat) (h : bt s k = 47) : lastFrom s (k + 1) = k := by rw [lastFrom, if_pos h]
theorem last_miss (s : ByteArray) (k : Nat) (h : bt s k ≠ 47) : lastFrom s (k + 1) = lastFrom s k := by rw [lastFrom, if_neg h]

theorem slash_any (s : ByteArray) (hs : s.size ≤ 9223372036854775807) (w : World) :
    Calls Tryz.prog 63 #[.string s] w fun e w' => e = .returned (.int .i64 (lastI s)) ∧ w = w' := by
  have hb := get_bt s
  go_enter Tryz.func63, Tryz.ntmps63
  go_wp2
  go_loop [3] (fun i => ∃ k : Nat, k ≤ s.size ∧ i = .int .i64 ((k : Int) - 1) ∧ lastFrom s k = lastI s) (fun i => (intOf i + 1).toNat)
  case atStart => exact ⟨s.size, by omega, by go_num, rfl⟩
  case round =>
    obtain ⟨k, hk, rfl, hv⟩ := hrel
    have hv' := Lib.hid hv
    clear hv
    cases k with
    | zero =>
      have hv2 := Lib.hid (show lastI s = -1 from hv'.out.symm.trans rfl)
      go_wp2
      go_ret
      exact ⟨ret_int hv2.out.symm, rfl⟩
    | succ k =>
      have hk1 : ((k + 1 : Nat) : Int) - 1 = k := by omega
      rw [hk1]
      have hlt : k < s.size := by omega
      by_cases h47 : bt s k = 47
      · have hv2 := Lib.hid (show lastI s = k from hv'.out.symm.trans (last_hit s k h47))
        go_wp2
        go_ret
        exact ⟨ret_int hv2.out.symm, rfl⟩
      · have hv2 := Lib.hid (show lastFrom s k = lastI s from (last_miss s k h47).symm.trans hv'.out)
        have hne := beqF h47
        go_wp2
        go_round
        case rel => exact ⟨k, by omega, by go_num, hv2.out⟩
        case measure => simp [intOf]

theorem lastIdxS_any (s : ByteArray) (hs : s.size ≤ 9223372036854775807) (w : World) :
    Calls Tryz.prog 82 #[.string s, .int .u8 47] w fun e w' => e = .returned (.int .i64 (lastI s)) ∧ w = w' := by
  have hb := get_bt s
  go_enter Tryz.func82, Tryz.ntmps82
  go_wp2
  go_loop [5] (fun i => ∃ k : Nat, k ≤ s.size ∧ i = .int .i64 ((k : Int) - 1) ∧ lastFrom s k = lastI s) (fun i => (intOf i + 1).toNat)
  case atStart => exact ⟨s.size, by omega, by go_num, rfl⟩
  case round =>
    obtain ⟨k, hk, rfl, hv⟩ := hrel
    have hv' := Lib.hid hv
    clear hv
    cases k with
    | zero =>
      have hv2 := Lib.hid (show lastI s = -1 from hv'.out.symm.trans rfl)
      go_wp2
      go_ret
      exact ⟨ret_int hv2.out.symm, rfl⟩
    | succ k =>
      have hk1 : ((k + 1 : Nat) : Int) - 1 = k := by omega
      rw [hk1]
      have hlt : k < s.size := by omega
      by_cases h47 : bt s k = 47
      · have hv2 := Lib.hid (show lastI s = k from hv'.out.symm.trans (last_hit s k h47))
        go_wp2
        go_ret
        exact ⟨ret_int hv2.out.symm, rfl⟩
      · have hv2 := Lib.hid (show lastFrom s k = lastI s from (last_miss s k h47).symm.trans hv'.out)
        have hne := beqF h47
        go_wp2
        go_round
        case rel => exact ⟨k, by omega, by go_num, hv2.out⟩
        case measure => simp [intOf]

theorem lastIdx_any (s : ByteArray) (hs : s.size ≤ 9223372036854775807) (w : World) :
    Calls Tryz.prog 61 #[.string s, .int .u8 47] w fun e w' => e = .returned (.int .i64 (lastI s)) ∧ w = w' := by
  go_enter Tryz.func61, Tryz.ntmps61
  go_wp2_with (go_at_call 82; refine (lastIdxS_any _ hs _).mono ?_; rintro e w' ⟨rfl, rfl⟩)
  go_ret
  exact ⟨rfl, rfl⟩

theorem lastFrom_bd (s : ByteArray) : ∀ k, -1 ≤ lastFrom s k ∧ lastFrom s k < k
  | 0 => ⟨Int.le_refl _, by show (-1 : Int) < 0; decide⟩
  | k + 1 => by
    have := lastFrom_bd s k
    unfold lastFrom
    split <;> omega
theorem lastI_cases (s : ByteArray) : lastI s = -1 ∨ ∃ k : Nat, lastI s = k ∧ k < s.size := by
  have := lastFrom_bd s s.size
  unfold lastI
  by_cases h : lastFrom s s.size = -1
  · exact .inl h
  · exact .inr ⟨(lastFrom s s.size).toNat, by omega, by omega⟩

def pkgB (s : ByteArray) : ByteArray := s.extract 0 (lastI s).toNat
def simB (s : ByteArray) : ByteArray := s.extract (lastI s + 1).toNat s.size

theorem extract_all (s : ByteArray) : s.extract 0 s.size = s := ba_ext (by rw [data_extract, List.drop_zero, Nat.sub_zero, List.take_of_length_le (by rw [len_data]; exact Nat.le_refl _)])
theorem rsim_any (s : ByteArray) (hs : s.size ≤ 9223372036854775807) (w : World) :
    Calls Tryz.prog 33 #[.string s] w fun e w' => e = .returned (.string (simB s)) ∧ w = w' := by
  unfold simB
  rcases lastI_cases s with h | ⟨k, h, hk⟩
  · rw [h, show s.extract (-1 + 1 : Int).toNat s.size = s from extract_all s]
    go_enter Tryz.func33, Tryz.ntmps33
    go_wp2_with (go_at_call 63; refine (slash_any _ hs _).mono ?_; rintro e w' ⟨rfl, rfl⟩)
    go_ret
    exact ⟨rfl, rfl⟩
  · rw [h]
    go_enter Tryz.func33, Tryz.ntmps33
    go_wp2_with (go_at_call 63; refine (slash_any _ hs _).mono ?_; rintro e w' ⟨rfl, rfl⟩)
    go_ret
    exact ⟨rfl, rfl⟩
theorem sim_any (s : ByteArray) (hs : s.size ≤ 9223372036854775807) (w : World) :
    Calls Tryz.prog 31 #[.string s] w fun e w' => e = .returned (.string (simB s)) ∧ w = w' := by
  unfold simB
  rcases lastI_cases s with h | ⟨k, h, hk⟩
  · rw [h, show s.extract (-1 + 1 : Int).toNat s.size = s from extract_all s]
    go_enter Tryz.func31, Tryz.ntmps31
    go_wp2_with (go_at_call 61; refine (lastIdx_any _ hs _).mono ?_; rintro e w' ⟨rfl, rfl⟩)
    go_ret
    exact ⟨rfl, rfl⟩
  · rw [h]
    go_enter Tryz.func31, Tryz.ntmps31
    go_wp2_with (go_at_call 61; refine (lastIdx_any _ hs _).mono ?_; rintro e w' ⟨rfl, rfl⟩)
    go_ret
    exact ⟨rfl, rfl⟩

def joinB (p l : ByteArray) : ByteArray := bif p.toList.isEmpty then l else p ++ ⟨#[47]⟩ ++ l
def memB (s : ByteArray) : Bool := (s.toList == [60, 105, 110, 105, 116, 62] || s.toList == [60, 99, 108, 105, 110, 105, 116, 62]) || decide (s.size ≤ 64) && idB s
def pfxB (s p : ByteArray) : Bool := decide (p.size ≤ s.size) && (s.extract 0 p.size).toList == p.toList
theorem spfx_any (s p : ByteArray) (hs : s.size ≤ 9223372036854775807) (w : World) :
    Calls Tryz.prog 35 #[.string s, .string p] w fun e w' => e = .returned (.bool (pfxB s p)) ∧ w = w' := by
  by_cases h : p.size ≤ s.size
  · go_enter Tryz.func35, Tryz.ntmps35
    go_wp2
    go_ret
    exact ⟨ret_bool (by unfold pfxB; rw [decide_eq_true h]; rfl), rfl⟩
  · go_enter Tryz.func35, Tryz.ntmps35
    go_wp2
    go_ret
    exact ⟨ret_bool (by unfold pfxB; rw [decide_eq_false h]; rfl), rfl⟩

end Go.Proofs.YtfpdnhbbbadegaaGreatDoor
