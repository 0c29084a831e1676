/- Layer 53: letters, digits, blanks; part; hexDigit; escape. -/
import Derived.Test.YtfpdnhbbbadegaaGreatDoorYd
import Derived.Test.YtfpdnhbbbadegaaGreatDoorNameIdx
import Derived.Test.YtfpdnhbbbadegaaGreatDoorShelf
import Derived.Deep.QuietTactic
import Derived.BigQuiet
namespace Go.Proofs.YtfpdnhbbbadegaaGreatDoor
open Go.ChangeShapes Go.WideShapes Go.ChangeAt Go.RowKit Go.PlainAid
set_option linter.unusedSimpArgs false
set_option linter.unusedVariables false

theorem drop_bt {s : ByteArray} {k : Nat} (h : k < s.size) : ∃ c r, s.data.toList.drop k = c :: r ∧ (c.toNat : Int) = bt s k ∧ s.data.toList.drop (k + 1) = r := by
  have hl : k < s.data.toList.length := by rw [len_data]; exact h
  refine ⟨s.data.toList[k], s.data.toList.drop (k + 1), List.drop_eq_getElem_cons hl, ?_, rfl⟩
  rw [bt_data, List.getD_eq_getElem?_getD, List.getElem?_eq_getElem hl]; rfl
theorem drop_end8 {s : ByteArray} {k : Nat} (h : s.size ≤ k) : s.data.toList.drop k = [] := List.drop_eq_nil_of_le (by rw [len_data]; exact h)
theorem llet_any (c : Int) (w : World) :
    Calls Tryz.prog 36 #[.int .u8 c] w fun e w' => e = .returned (.bool (letB c)) ∧ w = w' := by
  rcases let_cases c with ⟨h, h'⟩ | ⟨h, h'⟩ | rfl | rfl | ⟨h, h'⟩ | ⟨h, h', h''⟩ | h
  · rw [letB_yes (by omega)]
    go_enter Tryz.func36, Tryz.ntmps36
    go_wp2
    go_ret
    exact ⟨ret_bool (by first | rfl | (simp; omega)), rfl⟩
  · rw [letB_yes (by omega)]
    go_enter Tryz.func36, Tryz.ntmps36
    go_wp2
    go_ret
    exact ⟨ret_bool (by first | rfl | (simp; omega)), rfl⟩
  · rw [letB_yes (by omega)]
    go_enter Tryz.func36, Tryz.ntmps36
    go_wp2
    go_ret
    exact ⟨ret_bool (by first | rfl | (simp; omega)), rfl⟩
  · rw [letB_yes (by omega)]
    go_enter Tryz.func36, Tryz.ntmps36
    go_wp2
    go_ret
    exact ⟨ret_bool (by first | rfl | (simp; omega)), rfl⟩
  · rw [letB_no (by omega)]
    have e1 := beqF h'
    have e2 := beqF (show c ≠ 95 by omega)
    go_enter Tryz.func36, Tryz.ntmps36
    go_wp2
    go_ret
    exact ⟨ret_bool (by first | rfl | (simp; omega)), rfl⟩
  · rw [letB_no (by omega)]
    have e1 := beqF h''
    have e2 := beqF (show c ≠ 36 by omega)
    go_enter Tryz.func36, Tryz.ntmps36
    go_wp2
    go_ret
    exact ⟨ret_bool (by first | rfl | (simp; omega)), rfl⟩
  · rw [letB_no (by omega)]
    have e1 := beqF (show c ≠ 95 by omega)
    have e2 := beqF (show c ≠ 36 by omega)
    go_enter Tryz.func36, Tryz.ntmps36
    go_wp2
    go_ret
    exact ⟨ret_bool (by first | rfl | (simp; omega)), rfl⟩

theorem ldig_any (c : Int) (w : World) : Calls Tryz.prog 38 #[.int .u8 c] w fun e w' => e = .returned (.bool (digB c)) ∧ w = w' := by
  rcases (by omega : c < 48 ∨ (48 ≤ c ∧ c ≤ 57) ∨ 57 < c) with h | ⟨h, h'⟩ | h
  · rw [show digB c = false from decide_eq_false (by omega)]
    go_enter Tryz.func38, Tryz.ntmps38
    go_wp2
    go_ret
    exact ⟨rfl, rfl⟩
  · rw [show digB c = true from decide_eq_true ⟨h, h'⟩]
    go_enter Tryz.func38, Tryz.ntmps38
    go_wp2
    go_ret
    exact ⟨ret_bool (by first | rfl | (simp; omega)), rfl⟩
  · rw [show digB c = false from decide_eq_false (by omega)]
    go_enter Tryz.func38, Tryz.ntmps38
    go_wp2
    go_ret
    exact ⟨ret_bool (by first | rfl | (simp; omega)), rfl⟩
def blB (c : Int) : Bool := decide (c = 9 ∨ c = 10 ∨ c = 13 ∨ c = 32)
theorem bl8_eq (c : UInt8) : bl8 c = blB (c.toNat : Int) := by unfold bl8 blB; rw [Bool.eq_iff_iff, decide_eq_true_eq, decide_eq_true_eq]; omega
theorem lbl_any (c : Int) (w : World) : Calls Tryz.prog 34 #[.int .u8 c] w fun e w' => e = .returned (.bool (blB c)) ∧ w = w' := by
  by_cases h : c = 9 ∨ c = 10 ∨ c = 13 ∨ c = 32
  · rw [show blB c = true from decide_eq_true h]
    rcases h with rfl | rfl | rfl | rfl
    · go_enter Tryz.func34, Tryz.ntmps34
      go_wp2
      go_ret
      exact ⟨rfl, rfl⟩
    · go_enter Tryz.func34, Tryz.ntmps34
      go_wp2
      go_ret
      exact ⟨rfl, rfl⟩
    · go_enter Tryz.func34, Tryz.ntmps34
      go_wp2
      go_ret
      exact ⟨rfl, rfl⟩
    · go_enter Tryz.func34, Tryz.ntmps34
      go_wp2
      go_ret
      exact ⟨rfl, rfl⟩
  · rw [show blB c = false from decide_eq_false h]
    have e1 := beqF (show c ≠ 9 by omega)
    have e2 := beqF (show c ≠ 10 by omega)
    have e3 := beqF (show c ≠ 13 by omega)
    have e4 := beqF (show c ≠ 32 by omega)
    clear h
    go_enter Tryz.func34, Tryz.ntmps34
    go_wp2
    go_ret
    exact ⟨rfl, rfl⟩

set_option maxRecDepth 100000 in
set_option maxHeartbeats 1000000 in
theorem lpart_any (s : ByteArray) (hs : s.size ≤ 9223372036854775807) (w : World) : Calls Tryz.prog 65 #[.string s] w fun e w' => e = .returned (.int .i64 (partL s.data.toList : Nat)) ∧ w = w' := by
  have hb := get_bt s
  go_enter Tryz.func65, Tryz.ntmps65
  go_wp2
  go_loop [3] (fun i => ∃ k : Nat, k ≤ s.size ∧ i = .int .i64 k ∧ (k = 0 ∨ (0 < k ∧ partL s.data.toList = k + ((s.data.toList.drop k).takeWhile nameB).length))) (fun i => s.size - (intOf i).toNat)
  case atStart => exact ⟨0, Nat.zero_le _, rfl, Or.inl rfl⟩
  case round =>
    obtain ⟨k, hk, rfl, hq⟩ := hrel
    have HQ := Lib.hid hq
    clear hq
    by_cases hlt : k < s.size
    · obtain ⟨c, r, hd, hc, hr⟩ := drop_bt hlt
      have hb0 := bt_nonneg s k
      have hb1 := bt_le s k
      have HD := Lib.hid hd
      have HC := Lib.hid hc
      have HR := Lib.hid hr
      clear hd hc hr
      rcases Nat.eq_zero_or_pos k with rfl | hk0
      · have hl0 : s.data.toList = c :: r := by have := HD.out; rwa [List.drop_zero] at this
        have HL := Lib.hid hl0
        clear hl0
        cases hl : letB (bt s 0) with
        | true =>
          have HN := Lib.hid (show partL s.data.toList = 1 + ((s.data.toList.drop 1).takeWhile nameB).length by
            have e : lt8 c = true := by unfold lt8; rw [HC.out]; exact hl
            rw [show s.data.toList.drop 1 = r from HR.out, HL.out]
            show (if lt8 c = true then 1 + (r.takeWhile nameB).length else 0) = _
            rw [if_pos e])
          go_wp2_with (first | (go_at_call 36; refine (llet_any _ _).mono ?_; rintro e w' ⟨rfl, rfl⟩) | (go_at_call 38; refine (ldig_any _ _).mono ?_; rintro e w' ⟨rfl, rfl⟩))
          go_round
          case rel => exact ⟨1, by omega, by first | rfl | go_num, Or.inr ⟨by omega, HN.out⟩⟩
          case measure => simp [intOf]; omega
        | false =>
          have HN := Lib.hid (show partL s.data.toList = 0 by
            have e : lt8 c = false := by unfold lt8; rw [HC.out]; exact hl
            rw [HL.out]
            show (if lt8 c = true then 1 + (r.takeWhile nameB).length else 0) = _
            rw [if_neg (by rw [e]; decide)])
          go_wp2_with (first | (go_at_call 36; refine (llet_any _ _).mono ?_; rintro e w' ⟨rfl, rfl⟩) | (go_at_call 38; refine (ldig_any _ _).mono ?_; rintro e w' ⟨rfl, rfl⟩))
          go_ret
          exact ⟨ret_int1 (by rw [HN.out]; rfl), rfl⟩
      · have HP := Lib.hid (show partL s.data.toList = k + ((c :: r).takeWhile nameB).length by
          rcases HQ.out with h | h
          · omega
          · rw [← HD.out]; exact h.2)
        have hk1 : (0 : Int) < (k : Int) := by omega
        cases hl : letB (bt s k) with
        | true =>
          have HN := Lib.hid (show partL s.data.toList = (k + 1) + ((s.data.toList.drop (k + 1)).takeWhile nameB).length by
            have e : nameB c = true := by unfold nameB; rw [HC.out, hl]; rfl
            rw [HP.out, HR.out, List.takeWhile_cons, if_pos e, List.length_cons]; omega)
          go_wp2_with (first | (go_at_call 36; refine (llet_any _ _).mono ?_; rintro e w' ⟨rfl, rfl⟩) | (go_at_call 38; refine (ldig_any _ _).mono ?_; rintro e w' ⟨rfl, rfl⟩))
          go_round
          case rel => exact ⟨k + 1, by omega, by go_num, Or.inr ⟨by omega, HN.out⟩⟩
          case measure => simp [intOf]; omega
        | false =>
          cases hg : digB (bt s k) with
          | true =>
            have HN := Lib.hid (show partL s.data.toList = (k + 1) + ((s.data.toList.drop (k + 1)).takeWhile nameB).length by
              have e : nameB c = true := by unfold nameB; rw [HC.out, hl, hg]; rfl
              rw [HP.out, HR.out, List.takeWhile_cons, if_pos e, List.length_cons]; omega)
            go_wp2_with (first | (go_at_call 36; refine (llet_any _ _).mono ?_; rintro e w' ⟨rfl, rfl⟩) | (go_at_call 38; refine (ldig_any _ _).mono ?_; rintro e w' ⟨rfl, rfl⟩))
            go_round
            case rel => exact ⟨k + 1, by omega, by go_num, Or.inr ⟨by omega, HN.out⟩⟩
            case measure => simp [intOf]; omega
          | false =>
            have HN := Lib.hid (show partL s.data.toList = k by
              have e : nameB c = false := by unfold nameB; rw [HC.out, hl, hg]; rfl
              rw [HP.out, List.takeWhile_cons, if_neg (by rw [e]; decide)]; rfl)
            go_wp2_with (first | (go_at_call 36; refine (llet_any _ _).mono ?_; rintro e w' ⟨rfl, rfl⟩) | (go_at_call 38; refine (ldig_any _ _).mono ?_; rintro e w' ⟨rfl, rfl⟩))
            go_ret
            exact ⟨ret_int1 (by rw [HN.out]), rfl⟩
    · obtain rfl : k = s.size := by omega
      have HN := Lib.hid (show partL s.data.toList = s.size by
        rcases HQ.out with h | h
        · have := partL_le s.data.toList
          rw [len_data] at this
          omega
        · rw [h.2, drop_end8 (Nat.le_refl _)]; rfl)
      go_wp2
      go_ret
      exact ⟨ret_int1 (by rw [HN.out]), rfl⟩

theorem hx_any (c : Int) (w : World) : Calls Tryz.prog 87 #[.int .u8 c] w fun e w' => e = .returned (.int .i64 (hxV c.toNat.toUInt8)) ∧ w = w' := by
  have K := Lib.hid (show Calls Tryz.prog 108 #[.string ⟨#[48, 49, 50, 51, 52, 53, 54, 55, 56, 57, 97, 98, 99, 100, 101, 102]⟩, .int .u8 c] w fun e w' => e = .returned (.int .i64 (hxV c.toNat.toUInt8)) ∧ w = w' from (Tryz.strings_IndexByte ⟨#[48, 49, 50, 51, 52, 53, 54, 55, 56, 57, 97, 98, 99, 100, 101, 102]⟩ c w).mono fun e w' h => ⟨h.1, h.2.symm⟩)
  go_enter Tryz.func87, Tryz.ntmps87
  go_wp2_with (go_at_call 108; refine K.out.mono ?_; rintro e w' ⟨rfl, rfl⟩)
  go_ret
  exact ⟨rfl, rfl⟩

end Go.Proofs.YtfpdnhbbbadegaaGreatDoor
