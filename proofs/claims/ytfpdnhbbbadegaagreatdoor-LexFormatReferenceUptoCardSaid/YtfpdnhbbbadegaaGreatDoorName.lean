/- Plain functions on bytes for names, and contracts of the small functions of package name and of its reference. -/
import Derived.Test.YtfpdnhbbbadegaaGreatDoorKit
import Derived.Lib.Strings
namespace Go.Proofs.YtfpdnhbbbadegaaGreatDoor
open Go.ChangeShapes Go.WideShapes Go.ChangeAt Go.RowKit Go.PlainAid
set_option linter.unusedSimpArgs false
set_option linter.unusedVariables false

/-! ### bytes -/
theorem bt_data (s : ByteArray) (k : Nat) : bt s k = ((s.data.toList.getD k 0).toNat : Int) := by
  unfold bt
  by_cases h : k < s.size
  · have h' : k < s.data.toList.length := by simpa using h
    rw [dif_pos h, List.getD_eq_getElem?_getD, List.getElem?_eq_getElem h']
    rfl
  · have h' : s.data.toList.length ≤ k := by simpa using Nat.le_of_not_lt h
    rw [dif_neg h, List.getD_eq_getElem?_getD, List.getElem?_eq_none h']
    rfl
theorem len_data (s : ByteArray) : s.data.toList.length = s.size := by simp
theorem data_extract (s : ByteArray) (i j : Nat) : (s.extract i j).data.toList = (s.data.toList.drop i).take (j - i) := by
  simp only [ByteArray.data_extract, Array.toList_extract, List.extract_eq_take_drop]
theorem ba_ext {a b : ByteArray} (h : a.data.toList = b.data.toList) : a = b := by
  cases a; cases b; congr 1; exact Array.ext' h

/-! ### letters, identifiers, class names, on lists of bytes -/
def letB (c : Int) : Bool := decide ((97 ≤ c ∧ c ≤ 122) ∨ (65 ≤ c ∧ c ≤ 90) ∨ c = 95 ∨ c = 36)
def digB (c : Int) : Bool := decide (48 ≤ c ∧ c ≤ 57)
def nameB (c : UInt8) : Bool := letB (c.toNat : Int) || digB (c.toNat : Int)
def okL : List UInt8 → Bool
  | [] => false
  | c :: l => letB (c.toNat : Int) && l.all nameB
def pieces : List UInt8 → List (List UInt8)
  | [] => [[]]
  | c :: l => if c = 47 then [] :: pieces l else match pieces l with
    | [] => [[c]]
    | p :: ps => (c :: p) :: ps
def clsL (l : List UInt8) : Bool := (pieces l).all okL
def idB (s : ByteArray) : Bool := okL s.data.toList
def clsB (s : ByteArray) : Bool := decide (s.size ≤ 64) && clsL s.data.toList

theorem pieces_cons (c : UInt8) (l : List UInt8) : pieces (c :: l) = if c = 47 then [] :: pieces l else match pieces l with
    | [] => [[c]]
    | p :: ps => (c :: p) :: ps := rfl
theorem pieces_ne : ∀ l, pieces l ≠ []
  | [] => by simp [pieces]
  | c :: l => by
    unfold pieces
    split
    · simp
    · split <;> simp
theorem pieces_no : ∀ l, (∀ x ∈ l, x ≠ 47) → pieces l = [l]
  | [], _ => rfl
  | c :: l, h => by
    have ih := pieces_no l (fun x hx => h x (List.mem_cons_of_mem _ hx))
    unfold pieces
    rw [if_neg (h c (List.mem_cons_self ..)), ih]
theorem pieces_app : ∀ a b, pieces (a ++ 47 :: b) = pieces a ++ pieces b
  | [], b => by simp [pieces]
  | c :: a, b => by
    have ih := pieces_app a b
    rw [List.cons_append, pieces_cons, pieces_cons]
    by_cases hc : c = 47
    · rw [if_pos hc, if_pos hc, ih]; rfl
    · rw [if_neg hc, if_neg hc, ih]
      cases hp : pieces a with
      | nil => exact absurd hp (pieces_ne a)
      | cons p ps => rfl
theorem cls_app (a b : List UInt8) : clsL (a ++ 47 :: b) = (clsL a && clsL b) := by
  unfold clsL; rw [pieces_app, List.all_append]
theorem cls_no (a : List UInt8) (h : ∀ x ∈ a, x ≠ 47) : clsL a = okL a := by
  unfold clsL; rw [pieces_no a h]; simp
theorem cls_cut (a b : List UInt8) (h : ∀ x ∈ a, x ≠ 47) : clsL (a ++ 47 :: b) = (okL a && clsL b) := by
  rw [cls_app, cls_no a h]

/-- identifiers by places -/
theorem okL_at (l : List UInt8) : okL l = true ↔ 0 < l.length ∧ letB ((l.getD 0 0).toNat : Int) = true ∧ ∀ j, j < l.length → nameB (l.getD j 0) = true := by
  cases l with
  | nil => simp [okL]
  | cons c l =>
    simp only [okL, Bool.and_eq_true, List.all_eq_true, List.length_cons, List.getD_cons_zero]
    constructor
    · rintro ⟨h1, h2⟩
      refine ⟨by omega, h1, fun j hj => ?_⟩
      cases j with
      | zero => simp [nameB, h1]
      | succ j =>
        rw [List.getD_cons_succ]
        have hjl : j < l.length := by omega
        rw [List.getD_eq_getElem?_getD, List.getElem?_eq_getElem hjl]
        exact h2 _ (List.getElem_mem hjl)
    · rintro ⟨_, h1, h2⟩
      refine ⟨h1, fun x hx => ?_⟩
      obtain ⟨j, hj, rfl⟩ := List.getElem_of_mem hx
      have := h2 (j + 1) (by omega)
      rw [List.getD_cons_succ, List.getD_eq_getElem?_getD, List.getElem?_eq_getElem hj] at this
      exact this
theorem idB_at (s : ByteArray) : idB s = true ↔ 0 < s.size ∧ letB (bt s 0) = true ∧ ∀ j, j < s.size → (letB (bt s j) || digB (bt s j)) = true := by
  unfold idB
  rw [okL_at, len_data]
  constructor
  · rintro ⟨h1, h2, h3⟩
    refine ⟨h1, by rw [bt_data]; exact h2, fun j hj => ?_⟩
    rw [bt_data]; exact h3 j hj
  · rintro ⟨h1, h2, h3⟩
    refine ⟨h1, by rw [bt_data] at h2; exact h2, fun j hj => ?_⟩
    have := h3 j hj
    rw [bt_data] at this; exact this
theorem idB_no (s : ByteArray) (j : Nat) (hj : j < s.size) (h : (letB (bt s j) || digB (bt s j)) = false) : idB s = false := by
  cases hh : idB s with
  | false => rfl
  | true =>
    have := ((idB_at s).1 hh).2.2 j hj
    rw [h] at this; cases this
theorem idB_no0 (s : ByteArray) (h : letB (bt s 0) = false) : idB s = false := by
  cases hh : idB s with
  | false => rfl
  | true =>
    have := ((idB_at s).1 hh).2.1
    rw [h] at this; cases this

/-! ### letters -/
theorem letB_yes {c : Int} (h : (97 ≤ c ∧ c ≤ 122) ∨ (65 ≤ c ∧ c ≤ 90) ∨ c = 95 ∨ c = 36) : letB c = true := decide_eq_true h
theorem letB_no {c : Int} (h : ¬ ((97 ≤ c ∧ c ≤ 122) ∨ (65 ≤ c ∧ c ≤ 90) ∨ c = 95 ∨ c = 36)) : letB c = false := decide_eq_false h
theorem let_cases (c : Int) : (97 ≤ c ∧ c ≤ 122) ∨ (65 ≤ c ∧ c ≤ 90) ∨ c = 95 ∨ c = 36 ∨ (c < 65 ∧ c ≠ 36) ∨ (90 < c ∧ c < 97 ∧ c ≠ 95) ∨ 122 < c := by omega

theorem letter_any (c : Int) (w : World) :
    Calls Tryz.prog 81 #[.int .u8 c] w fun e w' => e = .returned (.bool (letB c)) ∧ w = w' := by
  rcases let_cases c with ⟨h, h'⟩ | ⟨h, h'⟩ | rfl | rfl | ⟨h, h'⟩ | ⟨h, h', h''⟩ | h
  · rw [letB_yes (by omega)]
    go_enter Tryz.func81, Tryz.ntmps81
    go_wp2
    go_ret
    exact ⟨ret_bool (by first | rfl | (simp; omega)), rfl⟩
  · rw [letB_yes (by omega)]
    go_enter Tryz.func81, Tryz.ntmps81
    go_wp2
    go_ret
    exact ⟨ret_bool (by first | rfl | (simp; omega)), rfl⟩
  · rw [letB_yes (by omega)]
    go_enter Tryz.func81, Tryz.ntmps81
    go_wp2
    go_ret
    exact ⟨ret_bool (by first | rfl | (simp; omega)), rfl⟩
  · rw [letB_yes (by omega)]
    go_enter Tryz.func81, Tryz.ntmps81
    go_wp2
    go_ret
    exact ⟨ret_bool (by first | rfl | (simp; omega)), rfl⟩
  · rw [letB_no (by omega)]
    have e1 := beqF h'
    have e2 := beqF (show c ≠ 95 by omega)
    go_enter Tryz.func81, Tryz.ntmps81
    go_wp2
    go_ret
    exact ⟨ret_bool (by first | rfl | (simp; omega)), rfl⟩
  · rw [letB_no (by omega)]
    have e1 := beqF h''
    have e2 := beqF (show c ≠ 36 by omega)
    go_enter Tryz.func81, Tryz.ntmps81
    go_wp2
    go_ret
    exact ⟨ret_bool (by first | rfl | (simp; omega)), rfl⟩
  · rw [letB_no (by omega)]
    have e1 := beqF (show c ≠ 95 by omega)
    have e2 := beqF (show c ≠ 36 by omega)
    go_enter Tryz.func81, Tryz.ntmps81
    go_wp2
    go_ret
    exact ⟨ret_bool (by first | rfl | (simp; omega)), rfl⟩
theorem rletter_any (c : Int) (w : World) :
    Calls Tryz.prog 83 #[.int .u8 c] w fun e w' => e = .returned (.bool (letB c)) ∧ w = w' := by
  rcases let_cases c with ⟨h, h'⟩ | ⟨h, h'⟩ | rfl | rfl | ⟨h, h'⟩ | ⟨h, h', h''⟩ | h
  · rw [letB_yes (by omega)]
    go_enter Tryz.func83, Tryz.ntmps83
    go_wp2
    go_ret
    exact ⟨ret_bool (by first | rfl | (simp; omega)), rfl⟩
  · rw [letB_yes (by omega)]
    go_enter Tryz.func83, Tryz.ntmps83
    go_wp2
    go_ret
    exact ⟨ret_bool (by first | rfl | (simp; omega)), rfl⟩
  · rw [letB_yes (by omega)]
    go_enter Tryz.func83, Tryz.ntmps83
    go_wp2
    go_ret
    exact ⟨ret_bool (by first | rfl | (simp; omega)), rfl⟩
  · rw [letB_yes (by omega)]
    go_enter Tryz.func83, Tryz.ntmps83
    go_wp2
    go_ret
    exact ⟨ret_bool (by first | rfl | (simp; omega)), rfl⟩
  · rw [letB_no (by omega)]
    have e1 := beqF h'
    have e2 := beqF (show c ≠ 95 by omega)
    go_enter Tryz.func83, Tryz.ntmps83
    go_wp2
    go_ret
    exact ⟨ret_bool (by first | rfl | (simp; omega)), rfl⟩
  · rw [letB_no (by omega)]
    have e1 := beqF h''
    have e2 := beqF (show c ≠ 36 by omega)
    go_enter Tryz.func83, Tryz.ntmps83
    go_wp2
    go_ret
    exact ⟨ret_bool (by first | rfl | (simp; omega)), rfl⟩
  · rw [letB_no (by omega)]
    have e1 := beqF (show c ≠ 95 by omega)
    have e2 := beqF (show c ≠ 36 by omega)
    go_enter Tryz.func83, Tryz.ntmps83
    go_wp2
    go_ret
    exact ⟨ret_bool (by first | rfl | (simp; omega)), rfl⟩

/-! ### identifiers -/
theorem empty_data {s : ByteArray} (h : s.size = 0) : s.toList = [] := by
  rw [Lib.toList_data]; exact List.eq_nil_of_length_eq_zero (by rw [len_data]; exact h)
theorem nonempty_data {s : ByteArray} (h : 0 < s.size) : s.toList.isEmpty = false := by
  rw [Lib.toList_data]
  cases hl : s.data.toList with
  | nil => have := len_data s; rw [hl] at this; simp at this; omega
  | cons _ _ => rfl

theorem ident_any (s : ByteArray) (hs : s.size ≤ 9223372036854775807) (w : World) :
    Calls Tryz.prog 60 #[.string s] w fun e w' => e = .returned (.bool (idB s)) ∧ w = w' := by
  have hb := get_bt s
  by_cases h0 : s.size = 0
  · have he := empty_data h0
    have hv : idB s = false := by
      cases hh : idB s with
      | false => rfl
      | true => have := ((idB_at s).1 hh).1; omega
    rw [hv]
    go_enter Tryz.func60, Tryz.ntmps60
    go_wp2
    go_ret
    exact ⟨rfl, rfl⟩
  · have he := nonempty_data (s := s) (by omega)
    by_cases h1 : letB (bt s 0) = true
    · have hst := Lib.hid (show ∀ j, j < 1 → (letB (bt s j) || digB (bt s j)) = true from fun j hj => by
        obtain rfl : j = 0 := by omega
        rw [h1]; rfl)
      go_enter Tryz.func60, Tryz.ntmps60
      go_wp2_with (go_at_call 81; refine (letter_any _ _).mono ?_; rintro e w' ⟨rfl, rfl⟩)
      go_loop [3] (fun i => ∃ k : Nat, 1 ≤ k ∧ k ≤ s.size ∧ i = .int .i64 k ∧ ∀ j, j < k → (letB (bt s j) || digB (bt s j)) = true) (fun i => s.size - (intOf i).toNat)
      case atStart => exact ⟨1, by omega, by omega, rfl, hst.out⟩
      case round =>
        obtain ⟨k, hk1, hk, rfl, hq⟩ := hrel
        have hq' := Lib.hid hq
        clear hq
        by_cases hlt : k < s.size
        · have hb0 := bt_nonneg s k
          have hb1 := bt_le s k
          cases hl : letB (bt s k) with
          | true =>
            go_wp2_with (go_at_call 81; refine (letter_any _ _).mono ?_; rintro e w' ⟨rfl, rfl⟩)
            go_round
            case rel => exact ⟨k + 1, by omega, by omega, by go_num, fun j hj => by
              rcases Nat.lt_or_ge j k with h | h
              · exact hq'.out j h
              · obtain rfl : j = k := by omega
                rw [hl]; rfl⟩
            case measure => simp [intOf]; omega
          | false =>
            rcases (by omega : bt s k < 48 ∨ (48 ≤ bt s k ∧ bt s k ≤ 57) ∨ 57 < bt s k) with hd | hd | hd
            · have hv : idB s = false := idB_no s k hlt (by rw [hl]; exact decide_eq_false (by omega))
              go_wp2_with (go_at_call 81; refine (letter_any _ _).mono ?_; rintro e w' ⟨rfl, rfl⟩)
              go_ret
              exact ⟨ret_bool hv.symm, rfl⟩
            · have hdd : digB (bt s k) = true := decide_eq_true hd
              go_wp2_with (go_at_call 81; refine (letter_any _ _).mono ?_; rintro e w' ⟨rfl, rfl⟩)
              go_round
              case rel => exact ⟨k + 1, by omega, by omega, by go_num, fun j hj => by
                rcases Nat.lt_or_ge j k with h | h
                · exact hq'.out j h
                · obtain rfl : j = k := by omega
                  rw [hdd]; simp⟩
              case measure => simp [intOf]; omega
            · have hv : idB s = false := idB_no s k hlt (by rw [hl]; exact decide_eq_false (by omega))
              go_wp2_with (go_at_call 81; refine (letter_any _ _).mono ?_; rintro e w' ⟨rfl, rfl⟩)
              go_ret
              exact ⟨ret_bool hv.symm, rfl⟩
        · obtain rfl : k = s.size := by omega
          have hv : idB s = true := (idB_at s).2 ⟨by omega, h1, hq'.out⟩
          go_wp2
          go_ret
          exact ⟨ret_bool rfl, rfl⟩
    · have h1' : letB (bt s 0) = false := by simpa using h1
      clear h1
      have hv := idB_no0 s h1'
      rw [hv]
      go_enter Tryz.func60, Tryz.ntmps60
      go_wp2_with (go_at_call 81; refine (letter_any _ _).mono ?_; rintro e w' ⟨rfl, rfl⟩)
      go_ret
      exact ⟨rfl, rfl⟩

end Go.Proofs.YtfpdnhbbbadegaaGreatDoor
