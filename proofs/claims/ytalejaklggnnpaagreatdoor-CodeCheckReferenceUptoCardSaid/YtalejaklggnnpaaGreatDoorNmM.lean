import Derived.Test.YtalejaklggnnpaaGreatDoorKitS
import Derived.Lib.Strings
import Derived.Lib.Bytealg
import Derived.RangeFuncNested
import Derived.RangeFuncBound
import Derived.RangeFuncCalls
import Derived.RangeFuncLeaves
import Derived.Shelf.Abstract
import Derived.Shelf.RegionOpen
import Derived.WalkKit
import Derived.OwnWalkIn
import Derived.TacticsInMore
import Derived.LoopNIn
import Derived.LoopIn
import Derived.Test.YtalejaklggnnpaaGreatDoorInOffS
/- Name -/
/- Plain functions on bytes for names, and contracts of the small functions of package name and of its reference. -/
namespace Go.Proofs.YtalejaklggnnpaaGreatDoor
open Go.ChangeShapes Go.WideShapes Go.ChangeAt Go.RowKit Go.PlainAid
set_option linter.unusedSimpArgs false
set_option linter.unusedVariables false
/-! ### bytes -/
theorem bt_data (s : ByteArray) (k : Nat) : bt s k = ((s.data.toList.getD k 0).toNat : Int) := by
 unfold bt
 by_cases h : k < s.size
 ·
  have h' : k < s.data.toList.length := by simpa using h
  rw [dif_pos h, List.getD_eq_getElem?_getD, List.getElem?_eq_getElem h']
  rfl
 ·
  have h' : s.data.toList.length ≤ k := by simpa using Nat.le_of_not_lt h
  rw [dif_neg h, List.getD_eq_getElem?_getD, List.getElem?_eq_none h']
  rfl
theorem len_data (s : ByteArray) : s.data.toList.length = s.size := by simp
theorem data_extract (s : ByteArray) (i j : Nat) : (s.extract i j).data.toList = (s.data.toList.drop i).take (j - i) := by
 simp only [ByteArray.data_extract, Array.toList_extract, List.extract_eq_take_drop]
theorem ba_ext {a b : ByteArray} (h : a.data.toList = b.data.toList) : a = b := by
 cases a; cases b; congr 1; exact Array.ext' h
/-! ### letters, identifiers, class names, on lists of bytes -/
def letB (c : Int) : Bool := decide ((97 ≤ c ∧ c ≤ 122) ∨ (65 ≤ c ∧ c ≤ 90) ∨ c = 95 ∨ c = 36)
def digB (c : Int) : Bool := decide (48 ≤ c ∧ c ≤ 57)
def nameB (c : UInt8) : Bool := letB (c.toNat : Int) || digB (c.toNat : Int)
def okL : List UInt8 → Bool
 | [] => false
 | c :: l => letB (c.toNat : Int) && l.all nameB
def pieces : List UInt8 → List (List UInt8)
 | [] => [[]]
 | c :: l => if c = 47 then [] :: pieces l else match pieces l with
  | [] => [[c]]
  | p :: ps => (c :: p) :: ps
def clsL (l : List UInt8) : Bool := (pieces l).all okL
def idB (s : ByteArray) : Bool := okL s.data.toList
def clsB (s : ByteArray) : Bool := decide (s.size ≤ 64) && clsL s.data.toList
theorem pieces_cons (c : UInt8) (l : List UInt8) : pieces (c :: l) = if c = 47 then [] :: pieces l else match pieces l with
  | [] => [[c]]
  | p :: ps => (c :: p) :: ps := rfl
theorem pieces_ne : ∀ l, pieces l ≠ []
 | [] => by simp [pieces]
 | c :: l => by
  unfold pieces
  split
  ·
   simp
  ·
   split <;> simp
theorem pieces_no : ∀ l, (∀ x ∈ l, x ≠ 47) → pieces l = [l]
 | [], _ => rfl
 | c :: l, h => by
  have ih := pieces_no l (fun x hx => h x (List.mem_cons_of_mem _ hx))
  unfold pieces
  rw [if_neg (h c (List.mem_cons_self ..)), ih]
theorem pieces_app : ∀ a b, pieces (a ++ 47 :: b) = pieces a ++ pieces b
 | [], b => by simp [pieces]
 | c :: a, b => by
  have ih := pieces_app a b
  rw [List.cons_append, pieces_cons, pieces_cons]
  by_cases hc : c = 47
  ·
   rw [if_pos hc, if_pos hc, ih]; rfl
  ·
   rw [if_neg hc, if_neg hc, ih]
   cases hp : pieces a with
   | nil => exact absurd hp (pieces_ne a)
   | cons p ps => rfl
theorem cls_app (a b : List UInt8) : clsL (a ++ 47 :: b) = (clsL a && clsL b) := by
 unfold clsL; rw [pieces_app, List.all_append]
theorem cls_no (a : List UInt8) (h : ∀ x ∈ a, x ≠ 47) : clsL a = okL a := by
 unfold clsL; rw [pieces_no a h]; simp
theorem cls_cut (a b : List UInt8) (h : ∀ x ∈ a, x ≠ 47) : clsL (a ++ 47 :: b) = (okL a && clsL b) := by
 rw [cls_app, cls_no a h]
/-- identifiers by places -/
theorem okL_at (l : List UInt8) : okL l = true ↔ 0 < l.length ∧ letB ((l.getD 0 0).toNat : Int) = true ∧ ∀ j, j < l.length → nameB (l.getD j 0) = true := by
 cases l with
 | nil => simp [okL]
 | cons c l =>
  simp only [okL, Bool.and_eq_true, List.all_eq_true, List.length_cons, List.getD_cons_zero]
  constructor
  ·
   rintro ⟨h1, h2⟩
   refine ⟨by omega, h1, fun j hj => ?_⟩
   cases j with
   | zero => simp [nameB, h1]
   | succ j =>
    rw [List.getD_cons_succ]
    have hjl : j < l.length := by omega
    rw [List.getD_eq_getElem?_getD, List.getElem?_eq_getElem hjl]
    exact h2 _ (List.getElem_mem hjl)
  ·
   rintro ⟨_, h1, h2⟩
   refine ⟨h1, fun x hx => ?_⟩
   obtain ⟨j, hj, rfl⟩ := List.getElem_of_mem hx
   have := h2 (j + 1) (by omega)
   rw [List.getD_cons_succ, List.getD_eq_getElem?_getD, List.getElem?_eq_getElem hj] at this
   exact this
theorem idB_at (s : ByteArray) : idB s = true ↔ 0 < s.size ∧ letB (bt s 0) = true ∧ ∀ j, j < s.size → (letB (bt s j) || digB (bt s j)) = true := by
 unfold idB
 rw [okL_at, len_data]
 constructor
 ·
  rintro ⟨h1, h2, h3⟩
  refine ⟨h1, by rw [bt_data]; exact h2, fun j hj => ?_⟩
  rw [bt_data]; exact h3 j hj
 ·
  rintro ⟨h1, h2, h3⟩
  refine ⟨h1, by rw [bt_data] at h2; exact h2, fun j hj => ?_⟩
  have := h3 j hj
  rw [bt_data] at this; exact this
theorem idB_no (s : ByteArray) (j : Nat) (hj : j < s.size) (h : (letB (bt s j) || digB (bt s j)) = false) : idB s = false := by
 cases hh : idB s with
 | false => rfl
 | true =>
  have := ((idB_at s).1 hh).2.2 j hj
  rw [h] at this; cases this
theorem idB_no0 (s : ByteArray) (h : letB (bt s 0) = false) : idB s = false := by
 cases hh : idB s with
 | false => rfl
 | true =>
  have := ((idB_at s).1 hh).2.1
  rw [h] at this; cases this
/-! ### letters -/
theorem letB_yes {c : Int} (h : (97 ≤ c ∧ c ≤ 122) ∨ (65 ≤ c ∧ c ≤ 90) ∨ c = 95 ∨ c = 36) : letB c = true := decide_eq_true h
theorem letB_no {c : Int} (h : ¬ ((97 ≤ c ∧ c ≤ 122) ∨ (65 ≤ c ∧ c ≤ 90) ∨ c = 95 ∨ c = 36)) : letB c = false := decide_eq_false h
theorem let_cases (c : Int) : (97 ≤ c ∧ c ≤ 122) ∨ (65 ≤ c ∧ c ≤ 90) ∨ c = 95 ∨ c = 36 ∨ (c < 65 ∧ c ≠ 36) ∨ (90 < c ∧ c < 97 ∧ c ≠ 95) ∨ 122 < c := by omega
theorem letter_any (c : Int) (w : World) :
  Calls Tryz.prog 198 #[.int .u8 c] w fun e w' => e = .returned (.bool (letB c)) ∧ w = w' := by
 rcases let_cases c with ⟨h, h'⟩ | ⟨h, h'⟩ | rfl | rfl | ⟨h, h'⟩ | ⟨h, h', h''⟩ | h
 ·
  rw [letB_yes (by omega)]
  go_enter Tryz.func198, Tryz.ntmps198
  go_wp2
  go_ret
  exact ⟨ret_bool (by first | rfl | (simp; omega)), rfl⟩
 ·
  rw [letB_yes (by omega)]
  go_enter Tryz.func198, Tryz.ntmps198
  go_wp2
  go_ret
  exact ⟨ret_bool (by first | rfl | (simp; omega)), rfl⟩
 ·
  rw [letB_yes (by omega)]
  go_enter Tryz.func198, Tryz.ntmps198
  go_wp2
  go_ret
  exact ⟨ret_bool (by first | rfl | (simp; omega)), rfl⟩
 ·
  rw [letB_yes (by omega)]
  go_enter Tryz.func198, Tryz.ntmps198
  go_wp2
  go_ret
  exact ⟨ret_bool (by first | rfl | (simp; omega)), rfl⟩
 ·
  rw [letB_no (by omega)]
  have e1 := beqF h'
  have e2 := beqF (show c ≠ 95 by omega)
  go_enter Tryz.func198, Tryz.ntmps198
  go_wp2
  go_ret
  exact ⟨ret_bool (by first | rfl | (simp; omega)), rfl⟩
 ·
  rw [letB_no (by omega)]
  have e1 := beqF h''
  have e2 := beqF (show c ≠ 36 by omega)
  go_enter Tryz.func198, Tryz.ntmps198
  go_wp2
  go_ret
  exact ⟨ret_bool (by first | rfl | (simp; omega)), rfl⟩
 ·
  rw [letB_no (by omega)]
  have e1 := beqF (show c ≠ 95 by omega)
  have e2 := beqF (show c ≠ 36 by omega)
  go_enter Tryz.func198, Tryz.ntmps198
  go_wp2
  go_ret
  exact ⟨ret_bool (by first | rfl | (simp; omega)), rfl⟩
theorem rletter_any (c : Int) (w : World) :
  Calls Tryz.prog 196 #[.int .u8 c] w fun e w' => e = .returned (.bool (letB c)) ∧ w = w' := by
 rcases let_cases c with ⟨h, h'⟩ | ⟨h, h'⟩ | rfl | rfl | ⟨h, h'⟩ | ⟨h, h', h''⟩ | h
 ·
  rw [letB_yes (by omega)]
  go_enter Tryz.func196, Tryz.ntmps196
  go_wp2
  go_ret
  exact ⟨ret_bool (by first | rfl | (simp; omega)), rfl⟩
 ·
  rw [letB_yes (by omega)]
  go_enter Tryz.func196, Tryz.ntmps196
  go_wp2
  go_ret
  exact ⟨ret_bool (by first | rfl | (simp; omega)), rfl⟩
 ·
  rw [letB_yes (by omega)]
  go_enter Tryz.func196, Tryz.ntmps196
  go_wp2
  go_ret
  exact ⟨ret_bool (by first | rfl | (simp; omega)), rfl⟩
 ·
  rw [letB_yes (by omega)]
  go_enter Tryz.func196, Tryz.ntmps196
  go_wp2
  go_ret
  exact ⟨ret_bool (by first | rfl | (simp; omega)), rfl⟩
 ·
  rw [letB_no (by omega)]
  have e1 := beqF h'
  have e2 := beqF (show c ≠ 95 by omega)
  go_enter Tryz.func196, Tryz.ntmps196
  go_wp2
  go_ret
  exact ⟨ret_bool (by first | rfl | (simp; omega)), rfl⟩
 ·
  rw [letB_no (by omega)]
  have e1 := beqF h''
  have e2 := beqF (show c ≠ 36 by omega)
  go_enter Tryz.func196, Tryz.ntmps196
  go_wp2
  go_ret
  exact ⟨ret_bool (by first | rfl | (simp; omega)), rfl⟩
 ·
  rw [letB_no (by omega)]
  have e1 := beqF (show c ≠ 95 by omega)
  have e2 := beqF (show c ≠ 36 by omega)
  go_enter Tryz.func196, Tryz.ntmps196
  go_wp2
  go_ret
  exact ⟨ret_bool (by first | rfl | (simp; omega)), rfl⟩
/-! ### identifiers -/
theorem empty_data {s : ByteArray} (h : s.size = 0) : s.toList = [] := by
 rw [Lib.toList_data]; exact List.eq_nil_of_length_eq_zero (by rw [len_data]; exact h)
theorem nonempty_data {s : ByteArray} (h : 0 < s.size) : s.toList.isEmpty = false := by
 rw [Lib.toList_data]
 cases hl : s.data.toList with
 | nil => have := len_data s; rw [hl] at this; simp at this; omega
 | cons _ _ => rfl
theorem ident_any (s : ByteArray) (hs : s.size ≤ 9223372036854775807) (w : World) :
  Calls Tryz.prog 195 #[.string s] w fun e w' => e = .returned (.bool (idB s)) ∧ w = w' := by
 have hb := get_bt s
 by_cases h0 : s.size = 0
 ·
  have he := empty_data h0
  have hv : idB s = false := by
   cases hh : idB s with
   | false => rfl
   | true => have := ((idB_at s).1 hh).1; omega
  rw [hv]
  go_enter Tryz.func195, Tryz.ntmps195
  go_wp2
  go_ret
  exact ⟨rfl, rfl⟩
 ·
  have he := nonempty_data (s := s) (by omega)
  by_cases h1 : letB (bt s 0) = true
  ·
   have hst := Lib.hid (show ∀ j, j < 1 → (letB (bt s j) || digB (bt s j)) = true from fun j hj => by
    obtain rfl : j = 0 := by omega
    rw [h1]; rfl)
   go_enter Tryz.func195, Tryz.ntmps195
   go_wp2_with (go_at_call 198; refine (letter_any _ _).mono ?_; rintro e w' ⟨rfl, rfl⟩)
   go_loop [3] (fun i => ∃ k : Nat, 1 ≤ k ∧ k ≤ s.size ∧ i = .int .i64 k ∧ ∀ j, j < k → (letB (bt s j) || digB (bt s j)) = true) (fun i => s.size - (intOf i).toNat)
   case atStart => exact ⟨1, by omega, by omega, rfl, hst.out⟩
   case round =>
    obtain ⟨k, hk1, hk, rfl, hq⟩ := hrel
    have hq' := Lib.hid hq
    clear hq
    by_cases hlt : k < s.size
    ·
     have hb0 := bt_nonneg s k
     have hb1 := bt_le s k
     cases hl : letB (bt s k) with
     | true =>
      go_wp2_with (go_at_call 198; refine (letter_any _ _).mono ?_; rintro e w' ⟨rfl, rfl⟩)
      go_round
      case rel => exact ⟨k + 1, by omega, by omega, by go_num, fun j hj => by
       rcases Nat.lt_or_ge j k with h | h
       ·
        exact hq'.out j h
       ·
        obtain rfl : j = k := by omega
        rw [hl]; rfl⟩
      case measure => simp [intOf]; omega
     | false =>
      rcases (by omega : bt s k < 48 ∨ (48 ≤ bt s k ∧ bt s k ≤ 57) ∨ 57 < bt s k) with hd | hd | hd
      ·
       have hv : idB s = false := idB_no s k hlt (by rw [hl]; exact decide_eq_false (by omega))
       go_wp2_with (go_at_call 198; refine (letter_any _ _).mono ?_; rintro e w' ⟨rfl, rfl⟩)
       go_ret
       exact ⟨ret_bool hv.symm, rfl⟩
      ·
       have hdd : digB (bt s k) = true := decide_eq_true hd
       go_wp2_with (go_at_call 198; refine (letter_any _ _).mono ?_; rintro e w' ⟨rfl, rfl⟩)
       go_round
       case rel => exact ⟨k + 1, by omega, by omega, by go_num, fun j hj => by
        rcases Nat.lt_or_ge j k with h | h
        ·
         exact hq'.out j h
        ·
         obtain rfl : j = k := by omega
         rw [hdd]; simp⟩
       case measure => simp [intOf]; omega
      ·
       have hv : idB s = false := idB_no s k hlt (by rw [hl]; exact decide_eq_false (by omega))
       go_wp2_with (go_at_call 198; refine (letter_any _ _).mono ?_; rintro e w' ⟨rfl, rfl⟩)
       go_ret
       exact ⟨ret_bool hv.symm, rfl⟩
    ·
     obtain rfl : k = s.size := by omega
     have hv : idB s = true := (idB_at s).2 ⟨by omega, h1, hq'.out⟩
     go_wp2
     go_ret
     exact ⟨ret_bool rfl, rfl⟩
  ·
   have h1' : letB (bt s 0) = false := by simpa using h1
   clear h1
   have hv := idB_no0 s h1'
   rw [hv]
   go_enter Tryz.func195, Tryz.ntmps195
   go_wp2_with (go_at_call 198; refine (letter_any _ _).mono ?_; rintro e w' ⟨rfl, rfl⟩)
   go_ret
   exact ⟨rfl, rfl⟩
end Go.Proofs.YtalejaklggnnpaaGreatDoor
/- NameTwo -/
/- Contracts of the reference of layer 3: part, IsClassName; and of the last slash, in the code and in the reference. -/
namespace Go.Proofs.YtalejaklggnnpaaGreatDoor
open Go.ChangeShapes Go.WideShapes Go.ChangeAt Go.RowKit Go.PlainAid
set_option linter.unusedSimpArgs false
set_option linter.unusedVariables false
theorem part_any (s : ByteArray) (hs : s.size ≤ 9223372036854775807) (w : World) :
  Calls Tryz.prog 189 #[.string s] w fun e w' => e = .returned (.bool (idB s)) ∧ w = w' := by
 have hb := get_bt s
 by_cases h1 : s.size = 0 ∨ letB (bt s 0) = true
 ·
  go_enter Tryz.func189, Tryz.ntmps189
  go_wp2
  go_loop [3] (fun i => ∃ k : Nat, k ≤ s.size ∧ i = .int .i64 k ∧ ∀ j, j < k → (letB (bt s j) || digB (bt s j)) = true) (fun i => s.size - (intOf i).toNat)
  case atStart => exact ⟨0, by omega, rfl, fun j hj => absurd hj (by omega)⟩
  case round =>
   obtain ⟨k, hk, rfl, hq⟩ := hrel
   have hq' := Lib.hid hq
   clear hq
   by_cases hlt : k < s.size
   ·
    have hb0 := bt_nonneg s k
    have hb1 := bt_le s k
    cases hl : letB (bt s k) with
    | true =>
     clear h1
     go_wp2_with (go_at_call 196; refine (rletter_any _ _).mono ?_; rintro e w' ⟨rfl, rfl⟩)
     go_round
     case rel => exact ⟨k + 1, by omega, by go_num, fun j hj => by
      rcases Nat.lt_or_ge j k with h | h
      ·
       exact hq'.out j h
      ·
       obtain rfl : j = k := by omega
       rw [hl]; rfl⟩
     case measure => simp [intOf]; omega
    | false =>
     have hk0 : k ≠ 0 := by
      rintro rfl
      rcases h1 with h | h
      ·
       omega
      ·
       rw [hl] at h; cases h
     clear h1
     rcases (by omega : bt s k < 48 ∨ (48 ≤ bt s k ∧ bt s k ≤ 57) ∨ 57 < bt s k) with hd | hd | hd
     ·
      have hv : idB s = false := idB_no s k hlt (by rw [hl]; exact decide_eq_false (by omega))
      go_wp2_with (go_at_call 196; refine (rletter_any _ _).mono ?_; rintro e w' ⟨rfl, rfl⟩)
      go_ret
      exact ⟨ret_bool (by first | rfl | exact hv.symm), rfl⟩
     ·
      have hdd : digB (bt s k) = true := decide_eq_true hd
      have hk1 : 1 ≤ k := by omega
      have hkb := beqF (show (k : Int) ≠ 0 by omega)
      go_wp2_with (go_at_call 196; refine (rletter_any _ _).mono ?_; rintro e w' ⟨rfl, rfl⟩)
      go_round
      case rel => exact ⟨k + 1, by omega, by go_num, fun j hj => by
       rcases Nat.lt_or_ge j k with h | h
       ·
        exact hq'.out j h
       ·
        obtain rfl : j = k := by omega
        rw [hdd]; simp⟩
      case measure => simp [intOf]; omega
     ·
      have hv : idB s = false := idB_no s k hlt (by rw [hl]; exact decide_eq_false (by omega))
      go_wp2_with (go_at_call 196; refine (rletter_any _ _).mono ?_; rintro e w' ⟨rfl, rfl⟩)
      go_ret
      exact ⟨ret_bool (by first | rfl | exact hv.symm), rfl⟩
   ·
    obtain rfl : k = s.size := by omega
    have hv : idB s = decide (0 < s.size) := by
     by_cases h0 : 0 < s.size
     ·
      rw [decide_eq_true h0]
      exact (idB_at s).2 ⟨h0, by rcases h1 with h | h; omega; exact h, hq'.out⟩
     ·
      rw [decide_eq_false h0]
      cases hh : idB s with
      | false => rfl
      | true => exact absurd ((idB_at s).1 hh).1 h0
    have hv' := Lib.hid hv
    clear hv h1
    go_wp2
    go_ret
    exact ⟨ret_bool (by first | (rw [hv'.out]; done) | (rw [hv'.out]; simp)), rfl⟩
 ·
  have h0 : 0 < s.size := by omega
  have h1' : letB (bt s 0) = false := by
   cases hh : letB (bt s 0) with
   | false => rfl
   | true => exact absurd (Or.inr hh) h1
  clear h1
  have hv := idB_no0 s h1'
  rw [hv]
  go_enter Tryz.func189, Tryz.ntmps189
  go_wp2
  refine wp_loop_rounds 1 ?_
  rw [rounds_succ]
  go_wp2_with (go_at_call 196; refine (rletter_any _ _).mono ?_; rintro e w' ⟨rfl, rfl⟩)
  go_ret
  exact ⟨rfl, rfl⟩
/-! ### the reference's class names -/
theorem drop_at (s : ByteArray) (i : Nat) (h : i < s.size) (h47 : bt s i = 47) (f : Nat) (hf : f ≤ i) (hno : ∀ j, f ≤ j → j < i → bt s j ≠ 47) :
  s.data.toList.drop f = (s.extract f i).data.toList ++ 47 :: s.data.toList.drop (i + 1) ∧ ∀ x ∈ (s.extract f i).data.toList, x ≠ 47 := by
 have hl : i < s.data.toList.length := by rw [len_data]; exact h
 have hx : s.data.toList[i] = 47 := by
  rw [bt_data, List.getD_eq_getElem?_getD, List.getElem?_eq_getElem hl] at h47
  simp only [Option.getD_some] at h47
  apply UInt8.toNat_inj.1
  have h48 : (s.data.toList[i]).toNat = 47 := by omega
  rw [h48]; rfl
 constructor
 ·
  rw [data_extract]
  have e1 : s.data.toList.drop i = 47 :: s.data.toList.drop (i + 1) := by
   rw [List.drop_eq_getElem_cons hl, hx]
  have e2 : (s.data.toList.drop f).drop (i - f) = s.data.toList.drop i := by rw [List.drop_drop]; congr 1; omega
  rw [← e1, ← e2, List.take_append_drop]
 ·
  intro x hx'
  rw [data_extract] at hx'
  obtain ⟨j, hj, rfl⟩ := List.getElem_of_mem hx'
  rw [List.length_take, List.length_drop] at hj
  have hj2 : f + j < s.data.toList.length := by omega
  have := hno (f + j) (by omega) (by omega)
  rw [bt_data, List.getD_eq_getElem?_getD, List.getElem?_eq_getElem hj2] at this
  simp only [Option.getD_some] at this
  rw [List.getElem_take, List.getElem_drop]
  intro hc
  rw [hc] at this
  exact this rfl
theorem drop_end (s : ByteArray) (f : Nat) (hf : f ≤ s.size) (hno : ∀ j, f ≤ j → j < s.size → bt s j ≠ 47) :
  s.data.toList.drop f = (s.extract f s.size).data.toList ∧ ∀ x ∈ (s.extract f s.size).data.toList, x ≠ 47 := by
 constructor
 ·
  rw [data_extract, List.take_of_length_le (by rw [List.length_drop, len_data]; omega)]
 ·
  intro x hx'
  rw [data_extract] at hx'
  obtain ⟨j, hj, rfl⟩ := List.getElem_of_mem hx'
  rw [List.length_take, List.length_drop] at hj
  have hl := len_data s
  have hj2 : f + j < s.data.toList.length := by omega
  have := hno (f + j) (by omega) (by omega)
  rw [bt_data, List.getD_eq_getElem?_getD, List.getElem?_eq_getElem hj2] at this
  simp only [Option.getD_some] at this
  rw [List.getElem_take, List.getElem_drop]
  intro hc
  rw [hc] at this
  exact this rfl
theorem rcls_any (s : ByteArray) (hs : s.size ≤ 9223372036854775807) (w : World) :
  Calls Tryz.prog 188 #[.string s] w fun e w' => e = .returned (.bool (clsB s)) ∧ w = w' := by
 have hb := get_bt s
 by_cases h64 : s.size ≤ 64
 ·
  have hc : clsB s = clsL s.data.toList := by unfold clsB; rw [decide_eq_true h64]; rfl
  rw [hc]
  have hstart := Lib.hid (show clsL (s.data.toList.drop 0) = clsL s.data.toList by rw [List.drop_zero])
  go_enter Tryz.func188, Tryz.ntmps188
  go_wp2
  go_loop [3, 4] (fun f i => ∃ a k : Nat, a ≤ k ∧ k ≤ s.size ∧ f = .int .i64 a ∧ i = .int .i64 k ∧ (∀ j, a ≤ j → j < k → bt s j ≠ 47) ∧ clsL (s.data.toList.drop a) = clsL s.data.toList) (fun _ i => s.size - (intOf i).toNat)
  case atStart => exact ⟨0, 0, by omega, by omega, rfl, rfl, fun j h1 h2 => absurd h2 (by omega), hstart.out⟩
  case round =>
   obtain ⟨a, k, hak, hk, rfl, rfl, hq, hv⟩ := hrel
   have hq' := Lib.hid hq
   have hv' := Lib.hid hv
   clear hq hv hc
   by_cases hlt : k < s.size
   ·
    by_cases h47 : bt s k = 47
    ·
     obtain ⟨d1, d2⟩ := drop_at s k hlt h47 a hak hq'.out
     have hcut := cls_cut _ (s.data.toList.drop (k + 1)) d2
     rw [← d1, hv'.out] at hcut
     have hcut' := Lib.hid hcut
     have hz : (s.extract a k).size ≤ 9223372036854775807 := by rw [ByteArray.size_extract]; omega
     clear hcut d1 d2
     have hid : idB (s.extract a k) = okL (s.extract a k).data.toList := rfl
     rw [← hid] at hcut'
     clear hid
     cases hi : idB (s.extract a k) with
     | true =>
      go_wp2_with (go_at_call 189; refine (part_any _ hz _).mono ?_; rintro e w' ⟨rfl, rfl⟩)
      go_round
      case rel => exact ⟨k + 1, k + 1, by omega, by omega, by go_num, by go_num, fun j h1 h2 => absurd h2 (by omega), by rw [hcut'.out, hi]; rfl⟩
      case measure => simp [intOf]; omega
     | false =>
      go_wp2_with (go_at_call 189; refine (part_any _ hz _).mono ?_; rintro e w' ⟨rfl, rfl⟩)
      go_ret
      exact ⟨ret_bool (by rw [hcut'.out, hi]; rfl), rfl⟩
    ·
     have hne := beqF h47
     go_wp2
     go_round
     case rel => exact ⟨a, k + 1, by omega, by omega, by go_num, by go_num, fun j h1 h2 => by
      rcases Nat.lt_or_ge j k with h | h
      ·
       exact hq'.out j h1 h
      ·
       obtain rfl : j = k := by omega
       exact h47, hv'.out⟩
     case measure => simp [intOf]; omega
   ·
    obtain rfl : k = s.size := by omega
    obtain ⟨d1, d2⟩ := drop_end s a hak hq'.out
    have hend : clsL s.data.toList = idB (s.extract a s.size) := by rw [← hv'.out, d1, cls_no _ d2]; rfl
    have hend' := Lib.hid hend
    have hz : (s.extract a s.size).size ≤ 9223372036854775807 := by rw [ByteArray.size_extract]; omega
    clear hend d1 d2
    go_wp2_with (go_at_call 189; refine (part_any _ hz _).mono ?_; rintro e w' ⟨rfl, rfl⟩)
    go_ret
    exact ⟨ret_bool hend'.out.symm, rfl⟩
 ·
  have hc : clsB s = false := by unfold clsB; rw [decide_eq_false h64]; rfl
  rw [hc]
  go_enter Tryz.func188, Tryz.ntmps188
  go_wp2
  go_ret
  exact ⟨rfl, rfl⟩
end Go.Proofs.YtalejaklggnnpaaGreatDoor
/- NameIdx -/
/- strings.Index at "/"; where the first slash stands. -/
namespace Go.Proofs.YtalejaklggnnpaaGreatDoor
open Go.ChangeShapes Go.WideShapes Go.ChangeAt Go.RowKit Go.PlainAid
set_option linter.unusedSimpArgs false
set_option linter.unusedVariables false
def slash : ByteArray := ⟨#[47]⟩
theorem index_cases : ∀ l : List UInt8, (Lib.indexByte l 47 = -1 ∧ ∀ x ∈ l, x ≠ 47) ∨
  ∃ k : Nat, Lib.indexByte l 47 = k ∧ k < l.length ∧ l = l.take k ++ 47 :: l.drop (k + 1) ∧ ∀ x ∈ l.take k, x ≠ 47
 | [] => .inl ⟨rfl, by simp⟩
 | b :: l => by
  by_cases hb : b = 47
  ·
   subst hb
   exact .inr ⟨0, rfl, by simp, by simp, by simp⟩
  ·
   have hbe : (b == (47 : UInt8)) = false := by simpa using hb
   rcases index_cases l with ⟨h1, h2⟩ | ⟨k, h1, h2, h3, h4⟩
   ·
    refine .inl ⟨?_, fun x hx => ?_⟩
    ·
     unfold Lib.indexByte
     rw [hbe, h1]; rfl
    ·
     rcases List.mem_cons.1 hx with rfl | h
     ·
      exact hb
     ·
      exact h2 x h
   ·
    refine .inr ⟨k + 1, ?_, by simp; omega, ?_, fun x hx => ?_⟩
    ·
     unfold Lib.indexByte
     rw [hbe, h1]
     have hk : (((k : Nat) : Int) == -1) = false := by simp
     rw [hk]
     simp
    ·
     rw [List.take_succ_cons, List.drop_succ_cons, List.cons_append, ← h3]
    ·
     rw [List.take_succ_cons] at hx
     rcases List.mem_cons.1 hx with rfl | h
     ·
      exact hb
     ·
      exact h4 x h
set_option maxHeartbeats 1000000 in
set_option maxRecDepth 100000 in
theorem indexByte_any (s : ByteArray) (c : Int) (w : World) :
  Calls Tryz.prog 186 #[.string s, .int .u8 c] w fun e w' => e = .returned (.int .i64 (Lib.indexByte s.data.toList c.toNat.toUInt8)) ∧ w = w' := by
 go_enter Tryz.func186, Tryz.ntmps186
 go_wp2
 rw [run_callFunc_extern Tryz.func193 (by kernel_rfl) (by kernel_rfl) (by kernel_rfl) (e := Extern.BytealgIndexByte.indexByte) (by kernel_rfl), Lib.run_indexByteString]
 simp only [Result.andThen]
 rw [Oper.upon_value]
 go_wp2
 go_ret
 exact ⟨rfl, rfl⟩
set_option maxHeartbeats 2000000 in
set_option maxRecDepth 100000 in
theorem sindex1_any (s : ByteArray) (c : UInt8) (w : World) :
  Calls Tryz.prog 203 #[.string s, .string ⟨#[c]⟩] w fun e w' => e = .returned (.int .i64 (Lib.indexByte s.data.toList c)) ∧ w = w' := by
 go_enter Tryz.func203, Tryz.ntmps203
 go_wp2_with (go_at_call 186; refine (indexByte_any _ _ _).mono ?_; rintro e w' ⟨rfl, rfl⟩)
 ·
  have h : ([c] == s.toList) = true := by assumption
  go_ret
  refine ⟨?_, rfl⟩
  have e : s.data.toList = [c] := by rw [← Lib.toList_data]; exact (beq_iff_eq.1 h).symm
  rw [e]
  simp [Lib.indexByte]
 ·
  go_ret
  exact ⟨rfl, rfl⟩
theorem index1_any (s : ByteArray) (c : UInt8) (w : World) :
  Calls Tryz.prog 201 #[.string s, .string ⟨#[c]⟩] w fun e w' => e = .returned (.int .i64 (Lib.indexByte s.data.toList c)) ∧ w = w' := by
 go_enter Tryz.func201, Tryz.ntmps201
 go_wp2_with (go_at_call 203; refine (sindex1_any _ _ _).mono ?_; rintro e w' ⟨rfl, rfl⟩)
 go_ret
 exact ⟨rfl, rfl⟩
theorem index_any (s : ByteArray) (w : World) :
  Calls Tryz.prog 201 #[.string s, .string slash] w fun e w' => e = .returned (.int .i64 (Lib.indexByte s.data.toList 47)) ∧ w = w' := index1_any s 47 w
end Go.Proofs.YtalejaklggnnpaaGreatDoor
/- NameSplit -/
/- The pieces of a string between slashes, as strings.SplitSeq hands them to a loop: the iterator's contract for a loop that stops at the first piece that is no identifier. -/
namespace Go.Proofs.YtalejaklggnnpaaGreatDoor
open Go.ChangeShapes Go.WideShapes Go.ChangeAt Go.RowKit Go.PlainAid Go.Shelf
set_option linter.unusedSimpArgs false
set_option linter.unusedVariables false
attribute [local go_sem] Oper.semAt_some
/-- the three boxes of the iterator: what is left, the separator, the bytes kept of it -/
structure Bx (bs bp bv : Nat) (r : ByteArray) (W : World) : Prop where
 cs : W.cell? ⟨bs, 0, none⟩ = some (.string r)
 fs : W.frozen? ⟨bs, 0, none⟩ = false
 cp : W.cell? ⟨bp, 0, none⟩ = some (.string slash)
 cv : W.cell? ⟨bv, 0, none⟩ = some (.int .i64 0)
theorem Bx.set {bs bp bv : Nat} {r : ByteArray} {W : World} (h : Bx bs bp bv r W) (hp : bs ≠ bp) (hv : bs ≠ bv) (r' : ByteArray) : Bx bs bp bv r' (W.setCell ⟨bs, 0, none⟩ (.string r')) :=
 ⟨World.cell?_setCell_same' _ _ _ (by rw [h.cs]; rfl), by rw [World.frozen?_setCell]; exact h.fs,
   (World.cell?_of_block (Below.heap_setCell W ⟨bs, 0, none⟩ _ bp (Ne.symm hp))).trans h.cp, (World.cell?_of_block (Below.heap_setCell W ⟨bs, 0, none⟩ _ bv (Ne.symm hv))).trans h.cv⟩
def leftIn (bs : Nat) (W : World) : Nat := match W.cell? ⟨bs, 0, none⟩ with
 | some (.string r) => r.size
 | _ => 0
theorem leftIn_eq {bs bp bv : Nat} {r : ByteArray} {W : World} (h : Bx bs bp bv r W) : leftIn bs W = r.size := by
 unfold leftIn; rw [h.cs]
set_option maxRecDepth 100000 in
set_option maxHeartbeats 2000000 in
theorem split_in (F : Fence) (n : Nat) (hF : F.fn 199) (hF2 : F.fn 201) (hI : ∀ (s : ByteArray) (w : World), CallsIn F (n - 1) Tryz.prog 201 #[.string s, .string slash] w fun e w' => e = .returned (.int .i64 (Lib.indexByte s.data.toList 47)) ∧ w = w')
  (hro : F.round = none) (hn : 1 ≤ n) (l bs bp bv : Nat) (hsp : bs ≠ bp) (hsv : bs ≠ bv) (J Jx : World → Prop)
  (hJ : ∀ r r' W, J W → Bx bs bp bv r W → J (W.setCell ⟨bs, 0, none⟩ (.string r')))
  (hY : ∀ (r x : ByteArray) (W : World), x.size ≤ 9223372036854775807 → J W → Bx bs bp bv r W → YieldAt F (n - 1) Tryz.prog l #[.string x] W fun e W' =>
   (e = .returned (.bool true) ∧ idB x = true ∧ J W' ∧ Bx bs bp bv r W') ∨ (e = .returned (.bool false) ∧ idB x = false ∧ Jx W'))
  (s : ByteArray) (hs : s.size ≤ 9223372036854775807) (W : World) (hB : Bx bs bp bv s W) (h0 : J W) :
  CallsIn F n Tryz.prog 199 #[.func (.yield l) #[] #[], .pointer (some ⟨bp, 0, none⟩), .pointer (some ⟨bs, 0, none⟩), .pointer (some ⟨bv, 0, none⟩)] W fun e W' =>
   (∃ v, e = .returned v) ∧ ((clsL s.data.toList = true ∧ J W') ∨ (clsL s.data.toList = false ∧ Jx W')) := by
 refine callsIn_of_wp Tryz.func199 rfl hF ?_ hro
 simp only [Tryz.ntmps199, List.size_toArray, List.length_cons, List.length_nil, Nat.reduceAdd, Nat.reduceSub, Array.replicate_succ, Array.replicate_zero, List.push_toArray, List.append_toArray, List.nil_append, List.cons_append]
 have hcp := hB.cp
 have hz : slash.size = 1 := rfl
 gi_wp2
 clear hcp
 gi_loopw [] (fun wr => ∃ r : ByteArray, Bx bs bp bv r wr ∧ J wr ∧ clsL r.data.toList = clsL s.data.toList ∧ r.size ≤ 9223372036854775807) (fun wr => leftIn bs wr)
 case atStart => exact ⟨s, hB, h0, rfl, hs⟩
 case round =>
  clear hB h0
  obtain ⟨r, hb, hj, hv, hr⟩ := hrel
  have hcs := hb.cs
  have hcp := hb.cp
  have hcv := hb.cv
  have hfs := hb.fs
  have hv' := Lib.hid hv
  clear hv
  rcases index_cases r.data.toList with ⟨hi, hno⟩ | ⟨k, hi, hk, hcut, hno⟩
  ·
   have hend : clsL s.data.toList = idB r := by rw [← hv'.out]; exact cls_no _ hno
   have hend' := Lib.hid hend
   clear hend hno
   obtain ⟨fn, tmps, assign, body, hy, hR⟩ := hY r r wr hr hj hb
   gi_wp2_with (gi_at_call 201; refine (hI _ _).mono ?_; rintro e w' ⟨rfl, rfl⟩)
   refine hR.mono ?_
   rintro e W3 (⟨rfl, hi3, hj3, hb3⟩ | ⟨rfl, hi3, hj3⟩)
   ·
    gi_wp2
    go_end0
    exact ⟨⟨_, rfl⟩, .inl ⟨hend'.out.trans hi3, hj3⟩⟩
   ·
    gi_wp2
    go_end0
    exact ⟨⟨_, rfl⟩, .inr ⟨hend'.out.trans hi3, hj3⟩⟩
  ·
   have hkr : k < r.size := by rw [← len_data]; exact hk
   have hx : (r.extract 0 k).size ≤ 9223372036854775807 := by rw [ByteArray.size_extract]; omega
   have hd1 : (r.extract 0 k).data.toList = r.data.toList.take k := by rw [data_extract]; simp
   have hd2 : (r.extract (k + 1) r.size).data.toList = r.data.toList.drop (k + 1) := by
    rw [data_extract, List.take_of_length_le (by rw [List.length_drop, len_data]; omega)]
   have hcut2 : clsL s.data.toList = (idB (r.extract 0 k) && clsL (r.extract (k + 1) r.size).data.toList) := by
    rw [← hv'.out, hd2, show idB (r.extract 0 k) = okL (r.data.toList.take k) by unfold idB; rw [hd1]]
    conv => lhs; rw [hcut]
    exact cls_cut _ _ hno
   have hcut' := Lib.hid hcut2
   clear hcut hcut2 hno hd1 hd2
   obtain ⟨fn, tmps, assign, body, hy, hR⟩ := hY r (r.extract 0 k) wr hx hj hb
   gi_wp2_with (gi_at_call 201; refine (hI _ _).mono ?_; rintro e w' ⟨rfl, rfl⟩)
   refine hR.mono ?_
   rintro e W3 (⟨rfl, hi3, hj3, hb3⟩ | ⟨rfl, hi3, hj3⟩)
   ·
    have hcs3 := hb3.cs
    have hcp3 := hb3.cp
    have hfs3 := hb3.fs
    gi_wp2
    have hb4 : Bx bs bp bv (r.extract (k + 1) r.size) (W3.setCell ⟨bs, 0, none⟩ (.string (r.extract (k + 1) r.size))) := hb3.set hsp hsv _
    refine ⟨⟨_, hb4, hJ _ _ _ hj3 hb3, by rw [hcut'.out, hi3]; rfl, by rw [ByteArray.size_extract]; omega⟩, ?_⟩
    rw [leftIn_eq hb4, leftIn_eq hb, ByteArray.size_extract]; omega
   ·
    gi_wp2
    refine bodyPost_ret (results_none rfl _ _ _) rfl ?_
    exact ⟨⟨_, rfl⟩, .inr ⟨by rw [hcut'.out, hi3]; rfl, hj3⟩⟩
end Go.Proofs.YtalejaklggnnpaaGreatDoor
/- NameCls -/
/- name.IsClassName. -/
namespace Go.Proofs.YtalejaklggnnpaaGreatDoor
open Go.ChangeShapes Go.WideShapes Go.ChangeAt Go.RowKit Go.PlainAid Go.Shelf
set_option linter.unusedSimpArgs false
set_option linter.unusedVariables false
attribute [local go_sem] Oper.semAt_some
def boxed (w : World) (s : ByteArray) : World := ((w.alloc (.cells #[.string s] 9)).alloc (.cells #[.string slash] 9)).alloc (.cells #[.int .i64 0] 3)
theorem splitSeq_any (s : ByteArray) (w : World) :
  Calls Tryz.prog 194 #[.string s, .string slash] w fun e w' =>
   e = .returned (.func (.func 199) #[] #[.pointer (some ⟨w.heap.size + 1, 0, none⟩), .pointer (some ⟨w.heap.size, 0, none⟩), .pointer (some ⟨w.heap.size + 1 + 1, 0, none⟩)]) ∧ w' = boxed w s := by
 unfold boxed
 go_enter Tryz.func194, Tryz.ntmps194
 go_wp2
 go_ret
 exact ⟨rfl, rfl⟩
theorem cell_of_box {W : World} {B : Nat} {v : Value} {t : TypeId} (h : W.heap[B]? = some (.cells #[v] t (0, 0))) : W.cell? ⟨B, 0, none⟩ = some v ∧ W.frozen? ⟨B, 0, none⟩ = false := by
 constructor <;> simp [World.cell?, World.frozen?, h]
theorem put_below {n₀ : Nat} {w W : World} {l : Nat} {o : Obj} (h : Below n₀ w W) (hn : n₀ ≤ w.heap.size) (hl : n₀ ≤ l) : Below n₀ w (W.putObj l o) :=
 h.grown (grownBy_putObj' W l o) (Nat.le_trans hn h.size) (fun k e => by cases e; exact hl)
theorem put_cell {W : World} {l k : Nat} {o : Obj} {v : Value} (hk : k ≠ l) (h : W.cell? ⟨k, 0, none⟩ = some v) : (W.putObj l o).cell? ⟨k, 0, none⟩ = some v := (World.cell?_of_block (World.putObj_heap_other hk)).trans h
theorem put_frozen {W : World} {l k : Nat} {o : Obj} {b : Bool} (hk : k ≠ l) (h : W.frozen? ⟨k, 0, none⟩ = b) : (W.putObj l o).frozen? ⟨k, 0, none⟩ = b := (World.frozen?_of_block (World.putObj_heap_other hk)).trans h
theorem Bx.put {bs bp bv l : Nat} {r : ByteArray} {W : World} {o : Obj} (h : Bx bs bp bv r W) (h1 : bs ≠ l) (h2 : bp ≠ l) (h3 : bv ≠ l) : Bx bs bp bv r (W.putObj l o) :=
 ⟨put_cell h1 h.cs, put_frozen h1 h.fs, put_cell h2 h.cp, put_cell h3 h.cv⟩
set_option maxRecDepth 100000 in
set_option maxHeartbeats 2000000 in
theorem cls_in (s : ByteArray) (h64 : s.size ≤ 64) (w : World) :
  CallsIn Fence.wide 3 Tryz.prog 187 #[.string s] w fun e w' => e = .returned (.bool (clsL s.data.toList)) ∧ Below w.heap.size w w' := by
 refine callsIn_of_wp_marks Tryz.func187 rfl trivial ?_ rfl
 simp only [Tryz.ntmps187, List.size_toArray, List.length_cons, List.length_nil, Nat.reduceAdd, Nat.reduceSub, Array.replicate_succ, Array.replicate_zero, List.push_toArray, List.append_toArray, List.nil_append, List.cons_append]
 gi_wp2_with (refine ⟨trivial, ?_⟩; gi_at_call 194; refine (callsIn_wide.2 (splitSeq_any _ _)).mono ?_; rintro e w' ⟨rfl, rfl⟩)
 obtain ⟨W0, hW0⟩ : ∃ W0, boxed (w.alloc (.cells #[.bool false] 4)) s = W0 := ⟨_, rfl⟩
 have hs0 : W0.heap.size = w.heap.size + 4 := by rw [← hW0]; simp [boxed]
 have hb0 : Below w.heap.size w W0 := by
  rw [← hW0]; exact ((((Below.refl _ w).alloc (Nat.le_refl _) _).alloc (by simp only [World.size_alloc]; omega) _).alloc (by simp only [World.size_alloc]; omega) _).alloc (by simp only [World.size_alloc]; omega) _
 have c0 : W0.heap[w.heap.size]? = some (.cells #[.bool false] 4) := by
  rw [← hW0]; exact ((Below.heap_alloc _ _ _ (by simp only [World.size_alloc]; omega)).trans ((Below.heap_alloc _ _ _ (by simp only [World.size_alloc]; omega)).trans (Below.heap_alloc _ _ _ (by simp)))).trans (World.alloc_heap_new w _)
 have c1 : W0.heap[w.heap.size + 1]? = some (.cells #[.string s] 9) := by
  rw [← hW0]
  refine ((Below.heap_alloc _ _ _ (by simp only [World.size_alloc]; omega)).trans (Below.heap_alloc _ _ _ (by simp))).trans ?_
  have := World.alloc_heap_new (w.alloc (.cells #[.bool false] 4)) (.cells #[.string s] 9)
  rwa [World.size_alloc] at this
 have c2 : W0.heap[w.heap.size + 1 + 1]? = some (.cells #[.string slash] 9) := by
  rw [← hW0]
  refine (Below.heap_alloc _ _ _ (by simp)).trans ?_
  have := World.alloc_heap_new ((w.alloc (.cells #[.bool false] 4)).alloc (.cells #[.string s] 9)) (.cells #[.string slash] 9)
  rwa [World.size_alloc, World.size_alloc] at this
 have c3 : W0.heap[w.heap.size + 1 + 1 + 1]? = some (.cells #[.int .i64 0] 3) := by
  rw [← hW0]
  have := World.alloc_heap_new (((w.alloc (.cells #[.bool false] 4)).alloc (.cells #[.string s] 9)).alloc (.cells #[.string slash] 9)) (.cells #[.int .i64 0] 3)
  rwa [World.size_alloc, World.size_alloc, World.size_alloc] at this
 rw [hW0]
 clear hW0
 refine range_by (F := Fence.wide) rfl (by omega) (gf := 199) (lb := #[.pointer (some ⟨w.heap.size + 1 + 1, 0, none⟩), .pointer (some ⟨w.heap.size + 1, 0, none⟩), .pointer (some ⟨w.heap.size + 1 + 1 + 1, 0, none⟩)]) rfl trivial (enters_of Tryz.func199 (by kernel_rfl) rfl)
  (fun x : ByteArray => #[.string x]) (fun _ => rfl)
  (fun x => { tmps := #[.string s, undef, .pointer (some ⟨w.heap.size, 0, none⟩), .string x, .string s, .int .i64 s.size, .bool (decide (64 < (s.size : Int))), .string s,
   .func (.func 199) #[] #[.pointer (some ⟨w.heap.size + 1 + 1, 0, none⟩), .pointer (some ⟨w.heap.size + 1, 0, none⟩), .pointer (some ⟨w.heap.size + 1 + 1 + 1, 0, none⟩)], .string x, undef, undef, undef], defers := [] }) ?assign ?it
 case assign =>
  intro l x W K hK
  gi_wp2
  exact hK
 case it =>
  intro l D Rd Dn W1 hD hDl hl hb1 hsz hRd hRl hDnl hY hR1
  have up : ∀ k o, W0.heap[k]? = some o → W1.heap[k]? = some o := fun k o h => (hb1.block k (Array.getElem?_eq_some_iff.1 h).1).trans h
  obtain ⟨e0, f0⟩ := cell_of_box (up _ _ c0)
  obtain ⟨e1, f1⟩ := cell_of_box (up _ _ c1)
  obtain ⟨e2, f2⟩ := cell_of_box (up _ _ c2)
  obtain ⟨e3, f3⟩ := cell_of_box (up _ _ c3)
  refine (split_in Fence.wide 2 trivial trivial (fun s w => callsIn_wide.2 (index_any s w)) rfl (by omega) l (w.heap.size + 1) (w.heap.size + 1 + 1) (w.heap.size + 1 + 1 + 1) (by omega) (by omega)
   (fun W => Rd W ∧ W.cell? ⟨w.heap.size, 0, none⟩ = some (.bool false) ∧ W.frozen? ⟨w.heap.size, 0, none⟩ = false ∧ Below w.heap.size w W)
   (fun W => Dn W ∧ W.cell? ⟨w.heap.size, 0, none⟩ = some (.bool false) ∧ Below w.heap.size w W) ?_ ?_ s (by omega) W1 ⟨e1, f1, e2, e3⟩ ⟨hR1, e0, f0, hb0.trans (hb1.mono hb0.size)⟩).mono ?_
  ·
   rintro r r' W ⟨h1, h2, h3, h4⟩ hb
   exact ⟨hRd _ _ ((KeepsOthers.setCell _ _ _).from _) h1, (World.cell?_of_block (Below.heap_setCell W ⟨w.heap.size + 1, 0, none⟩ _ w.heap.size (by show w.heap.size ≠ w.heap.size + 1; omega))).trans h2,
    by rw [World.frozen?_setCell]; exact h3, h4.setCell (p := ⟨w.heap.size + 1, 0, none⟩) (by show w.heap.size ≤ w.heap.size + 1; omega) _⟩
  ·
   rintro r x W hx ⟨h1, h2, h3, h4⟩ hb
   refine hY x _ W h1 fun o => ?_
   have hll := hRl W h1
   have hcr := put_cell (o := o) (show w.heap.size ≠ l by omega) h2
   have hfr := put_frozen (o := o) (show w.heap.size ≠ l by omega) h3
   have hbb := put_below (o := o) h4 (Nat.le_refl _) (show w.heap.size ≤ l by omega)
   have hbx := hb.put (o := o) (show w.heap.size + 1 ≠ l by omega) (show w.heap.size + 1 + 1 ≠ l by omega) (show w.heap.size + 1 + 1 + 1 ≠ l by omega)
   generalize W.putObj l o = V at *
   cases hi : idB x with
   | true =>
    gi_wp2_with (refine ⟨trivial, ?_⟩; gi_at_call 195; refine (CallsIn.inRound l (callsIn_wide.2 (ident_any x hx _))).mono ?_; rintro e w' ⟨rfl, rfl⟩)
    exact ⟨KeepsFrom.refl _ _, fun o2 hR => ⟨rfl, ⟨hR, put_cell (by omega) hcr, put_frozen (by omega) hfr, put_below hbb (Nat.le_refl _) (by omega)⟩, hbx.put (by omega) (by omega) (by omega)⟩⟩
   | false =>
    gi_wp2_with (refine ⟨trivial, ?_⟩; gi_at_call 195; refine (CallsIn.inRound l (callsIn_wide.2 (ident_any x hx _))).mono ?_; rintro e w' ⟨rfl, rfl⟩)
    refine ⟨(KeepsOthers.setCell _ _ _).from _, fun o2 hR => ⟨rfl, hR, put_cell (by omega) (World.cell?_setCell_same' _ _ _ (by rw [hcr]; rfl)), put_below (hbb.setCell (p := ⟨w.heap.size, 0, none⟩) (Nat.le_refl _) _) (Nat.le_refl _) (by omega)⟩⟩
  ·
   rintro e W2 ⟨hv, ⟨hc, h1, h2, h3, h4⟩ | ⟨hc, h1, h2, h4⟩⟩
   ·
    refine ⟨hv, .inl ⟨h1, fun o hd => ?_⟩⟩
    have hcr := put_cell (o := o) (show w.heap.size ≠ l by omega) h2
    have hfr := put_frozen (o := o) (show w.heap.size ≠ l by omega) h3
    have hbb := put_below (o := o) h4 (Nat.le_refl _) (show w.heap.size ≤ l by omega)
    generalize W2.putObj l o = V at *
    gi_wp2
    have hd2 := (Below.heap_setCell V ⟨w.heap.size, 0, none⟩ (.bool true) D (by show D ≠ w.heap.size; omega)).trans hd
    refine ⟨by simp, .inl ⟨_, _, rfl, run_takeDeferred hd2, ?_⟩⟩
    have hc5 := put_cell (o := .deferred none) (l := D) (show w.heap.size ≠ D by omega) (World.cell?_setCell_same' V ⟨w.heap.size, 0, none⟩ (.bool true) (by rw [hcr]; rfl))
    refine ⟨.bool true, ?_, by rw [hc], put_below (hbb.setCell (p := ⟨w.heap.size, 0, none⟩) (Nat.le_refl _) _) (Nat.le_refl _) (by omega)⟩
    simp [results, Tryz.f187, go_sem, hc5]
   ·
    refine ⟨hv, .inr ⟨h1, fun o hd => ?_⟩⟩
    have hcr := put_cell (o := o) (show w.heap.size ≠ l by omega) h2
    have hbb := put_below (o := o) h4 (Nat.le_refl _) (show w.heap.size ≤ l by omega)
    generalize W2.putObj l o = V at *
    gi_wp2
    refine ⟨by simp, .inl ⟨_, _, rfl, run_takeDeferred hd, ?_⟩⟩
    have hc5 := put_cell (o := .deferred none) (l := D) (show w.heap.size ≠ D by omega) hcr
    refine ⟨.bool false, ?_, by rw [hc], put_below hbb (Nat.le_refl _) (by omega)⟩
    simp [results, Tryz.f187, go_sem, hc5]
theorem cls_any (s : ByteArray) (w : World) :
  Calls Tryz.prog 187 #[.string s] w fun e w' => e = .returned (.bool (clsB s)) ∧ Below w.heap.size w w' := by
 by_cases h64 : s.size ≤ 64
 ·
  have hc : clsB s = clsL s.data.toList := by unfold clsB; rw [decide_eq_true h64]; rfl
  rw [hc]
  exact callsIn_wide.1 (cls_in s h64 w)
 ·
  have hc : clsB s = false := by unfold clsB; rw [decide_eq_false h64]; rfl
  rw [hc]
  go_enter Tryz.func187, Tryz.ntmps187
  go_wp2
  have hc5 := (cell_of_box (World.alloc_heap_new w (.cells #[.bool false] 4))).1
  refine bodyPost_ret (v := .bool false) ?_ rfl ⟨rfl, (Below.refl _ w).alloc (Nat.le_refl _) _⟩
  simp [results, Tryz.f187, go_sem, hc5]
end Go.Proofs.YtalejaklggnnpaaGreatDoor
/- NameLast -/
/- The last slash; Package, SimpleName, Join, HasPrefix, IsMemberName, in the package and in its reference. -/
namespace Go.Proofs.YtalejaklggnnpaaGreatDoor
open Go.ChangeShapes Go.WideShapes Go.ChangeAt Go.RowKit Go.PlainAid
set_option linter.unusedSimpArgs false
set_option linter.unusedVariables false
def memB (s : ByteArray) : Bool := (s.toList == [60, 105, 110, 105, 116, 62] || s.toList == [60, 99, 108, 105, 110, 105, 116, 62]) || decide (s.size ≤ 64) && idB s
theorem rmem_any (s : ByteArray) (hs : s.size ≤ 9223372036854775807) (w : World) :
  Calls Tryz.prog 175 #[.string s] w fun e w' => e = .returned (.bool (memB s)) ∧ w = w' := by
 cases e1 : s.toList == [60, 105, 110, 105, 116, 62] with
 | true =>
  go_enter Tryz.func175, Tryz.ntmps175
  go_wp2_with (go_at_call 189; refine (part_any _ hs _).mono ?_; rintro e w' ⟨rfl, rfl⟩)
  go_ret
  exact ⟨ret_bool (by unfold memB; rw [e1]; rfl), rfl⟩
 | false =>
  cases e2 : s.toList == [60, 99, 108, 105, 110, 105, 116, 62] with
  | true =>
   go_enter Tryz.func175, Tryz.ntmps175
   go_wp2_with (go_at_call 189; refine (part_any _ hs _).mono ?_; rintro e w' ⟨rfl, rfl⟩)
   go_ret
   exact ⟨ret_bool (by unfold memB; rw [e1, e2]; rfl), rfl⟩
  | false =>
   by_cases h64 : s.size ≤ 64
   ·
    go_enter Tryz.func175, Tryz.ntmps175
    go_wp2_with (go_at_call 189; refine (part_any _ hs _).mono ?_; rintro e w' ⟨rfl, rfl⟩)
    go_ret
    exact ⟨ret_bool (by unfold memB; rw [e1, e2, decide_eq_true h64]; rfl), rfl⟩
   ·
    go_enter Tryz.func175, Tryz.ntmps175
    go_wp2_with (go_at_call 189; refine (part_any _ hs _).mono ?_; rintro e w' ⟨rfl, rfl⟩)
    go_ret
    exact ⟨ret_bool (by unfold memB; rw [e1, e2, decide_eq_false h64]; rfl), rfl⟩
theorem mem_any (s : ByteArray) (hs : s.size ≤ 9223372036854775807) (w : World) :
  Calls Tryz.prog 191 #[.string s] w fun e w' => e = .returned (.bool (memB s)) ∧ w = w' := by
 cases e1 : s.toList == [60, 105, 110, 105, 116, 62] with
 | true =>
  go_enter Tryz.func191, Tryz.ntmps191
  go_wp2_with (go_at_call 195; refine (ident_any _ hs _).mono ?_; rintro e w' ⟨rfl, rfl⟩)
  go_ret
  exact ⟨ret_bool (by unfold memB; rw [e1]; rfl), rfl⟩
 | false =>
  cases e2 : s.toList == [60, 99, 108, 105, 110, 105, 116, 62] with
  | true =>
   go_enter Tryz.func191, Tryz.ntmps191
   go_wp2_with (go_at_call 195; refine (ident_any _ hs _).mono ?_; rintro e w' ⟨rfl, rfl⟩)
   go_ret
   exact ⟨ret_bool (by unfold memB; rw [e1, e2]; rfl), rfl⟩
  | false =>
   by_cases h64 : s.size ≤ 64
   ·
    go_enter Tryz.func191, Tryz.ntmps191
    go_wp2_with (go_at_call 195; refine (ident_any _ hs _).mono ?_; rintro e w' ⟨rfl, rfl⟩)
    go_ret
    exact ⟨ret_bool (by unfold memB; rw [e1, e2, decide_eq_true h64]; rfl), rfl⟩
   ·
    go_enter Tryz.func191, Tryz.ntmps191
    go_wp2_with (go_at_call 195; refine (ident_any _ hs _).mono ?_; rintro e w' ⟨rfl, rfl⟩)
    go_ret
    exact ⟨ret_bool (by unfold memB; rw [e1, e2, decide_eq_false h64]; rfl), rfl⟩
end Go.Proofs.YtalejaklggnnpaaGreatDoor
