/- Layer 53, the reference: digit, letter, is, part, Keywords, Has. -/
import Derived.Test.YtfpdnhbbbadegaaGreatDoorYr
namespace Go.Proofs.YtfpdnhbbbadegaaGreatDoor
open Go.ChangeShapes Go.WideShapes Go.ChangeAt Go.RowKit Go.PlainAid
set_option linter.unusedSimpArgs false
set_option linter.unusedVariables false

theorem rlet_any (c : Int) (w : World) :
    Calls Tryz.prog 43 #[.int .u8 c] w fun e w' => e = .returned (.bool (letB c)) ∧ w = w' := by
  rcases let_cases c with ⟨h, h'⟩ | ⟨h, h'⟩ | rfl | rfl | ⟨h, h'⟩ | ⟨h, h', h''⟩ | h
  · rw [letB_yes (by omega)]
    go_enter Tryz.func43, Tryz.ntmps43
    go_wp2
    go_ret
    exact ⟨ret_bool (by first | rfl | (simp; omega)), rfl⟩
  · rw [letB_yes (by omega)]
    go_enter Tryz.func43, Tryz.ntmps43
    go_wp2
    go_ret
    exact ⟨ret_bool (by first | rfl | (simp; omega)), rfl⟩
  · rw [letB_yes (by omega)]
    go_enter Tryz.func43, Tryz.ntmps43
    go_wp2
    go_ret
    exact ⟨ret_bool (by first | rfl | (simp; omega)), rfl⟩
  · rw [letB_yes (by omega)]
    go_enter Tryz.func43, Tryz.ntmps43
    go_wp2
    go_ret
    exact ⟨ret_bool (by first | rfl | (simp; omega)), rfl⟩
  · rw [letB_no (by omega)]
    have e1 := beqF h'
    have e2 := beqF (show c ≠ 95 by omega)
    go_enter Tryz.func43, Tryz.ntmps43
    go_wp2
    go_ret
    exact ⟨ret_bool (by first | rfl | (simp; omega)), rfl⟩
  · rw [letB_no (by omega)]
    have e1 := beqF h''
    have e2 := beqF (show c ≠ 36 by omega)
    go_enter Tryz.func43, Tryz.ntmps43
    go_wp2
    go_ret
    exact ⟨ret_bool (by first | rfl | (simp; omega)), rfl⟩
  · rw [letB_no (by omega)]
    have e1 := beqF (show c ≠ 95 by omega)
    have e2 := beqF (show c ≠ 36 by omega)
    go_enter Tryz.func43, Tryz.ntmps43
    go_wp2
    go_ret
    exact ⟨ret_bool (by first | rfl | (simp; omega)), rfl⟩

theorem rdig_any (c : Int) (w : World) : Calls Tryz.prog 45 #[.int .u8 c] w fun e w' => e = .returned (.bool (digB c)) ∧ w = w' := by
  rcases (by omega : c < 48 ∨ (48 ≤ c ∧ c ≤ 57) ∨ 57 < c) with h | ⟨h, h'⟩ | h
  · rw [show digB c = false from decide_eq_false (by omega)]
    go_enter Tryz.func45, Tryz.ntmps45
    go_wp2
    go_ret
    exact ⟨rfl, rfl⟩
  · rw [show digB c = true from decide_eq_true ⟨h, h'⟩]
    go_enter Tryz.func45, Tryz.ntmps45
    go_wp2
    go_ret
    exact ⟨ret_bool (by first | rfl | (simp; omega)), rfl⟩
  · rw [show digB c = false from decide_eq_false (by omega)]
    go_enter Tryz.func45, Tryz.ntmps45
    go_wp2
    go_ret
    exact ⟨ret_bool (by first | rfl | (simp; omega)), rfl⟩

def wdN (l : List UInt8) : Nat := (l.takeWhile nameB).length
theorem wd_le (l : List UInt8) : wdN l ≤ l.length := tw_le _ _
theorem part_wd {l : List UInt8} {c : UInt8} {r : List UInt8} (h : l = c :: r) (hc : lt8 c = true) : partL l = wdN l := by
  subst h
  show (if lt8 c = true then 1 + (r.takeWhile nameB).length else 0) = ((c :: r).takeWhile nameB).length
  have hn : nameB c = true := by
    unfold lt8 at hc
    unfold nameB
    rw [hc]; rfl
  rw [if_pos hc, List.takeWhile_cons, if_pos hn, List.length_cons, Nat.add_comm]
theorem part_no {l : List UInt8} {c : UInt8} {r : List UInt8} (h : l = c :: r) (hc : lt8 c = false) : partL l = 0 := by
  subst h
  show (if lt8 c = true then 1 + (r.takeWhile nameB).length else 0) = 0
  rw [if_neg (by rw [hc]; decide)]
theorem is_ext {s t : ByteArray} {a : Nat} : t.data.toList.isPrefixOf (s.data.toList.drop a) = true → s.extract a (a + t.size) = t := by
  intro h
  refine (ba_ext ?_)
  rw [data_extract, Nat.add_sub_cancel_left, ← len_data]
  exact pfx_take h
theorem is_not {s t : ByteArray} {a : Nat} (h : t.data.toList.isPrefixOf (s.data.toList.drop a) = false) : ¬ (s.extract a (a + t.size)).toList = t.toList := by
  intro e
  rw [Lib.toList_data, Lib.toList_data, data_extract, Nat.add_sub_cancel_left] at e
  have : t.data.toList.isPrefixOf (s.data.toList.drop a) = true := List.isPrefixOf_iff_prefix.2 (by rw [← e]; exact List.take_prefix _ _)
  rw [this] at h; cases h
set_option maxRecDepth 100000 in
set_option maxHeartbeats 1000000 in
theorem ris_any (s t : ByteArray) (a : Nat) (hs : s.size ≤ 1000000000) (ht : t.size ≤ 1000000000) (ha : a ≤ s.size) (w : World) :
    Calls Tryz.prog 42 #[.string s, .int .i64 (a : Int), .string t] w fun e w' => e = .returned (.bool (t.data.toList.isPrefixOf (s.data.toList.drop a))) ∧ w = w' := by
  by_cases h : t.size ≤ s.size - a
  · have h1 : (t.size : Int) ≤ (s.size : Int) - (a : Int) := by omega
    have h2 : (a : Int) ≤ (a : Int) + (t.size : Int) := by omega
    have h3 : (a : Int) + (t.size : Int) ≤ (s.size : Int) := by omega
    cases hp : t.data.toList.isPrefixOf (s.data.toList.drop a) with
    | true =>
      have he := is_ext hp
      clear hp h
      go_enter Tryz.func42, Tryz.ntmps42
      go_wp2
      go_ret
      exact ⟨rfl, rfl⟩
    | false =>
      have he := is_not hp
      clear hp h
      go_enter Tryz.func42, Tryz.ntmps42
      go_wp2
      go_ret
      exact ⟨by simp [he], rfl⟩
  · have h1 : ¬ (t.size : Int) ≤ (s.size : Int) - (a : Int) := by omega
    have hp : t.data.toList.isPrefixOf (s.data.toList.drop a) = false := by
      rw [Bool.eq_false_iff]
      intro hp
      have := pfx_len hp
      rw [List.length_drop, len_data, len_data] at this
      omega
    rw [hp]
    clear hp h
    go_enter Tryz.func42, Tryz.ntmps42
    go_wp2
    go_ret
    exact ⟨rfl, rfl⟩
set_option maxRecDepth 100000 in
set_option maxHeartbeats 1000000 in
theorem rpart_any (s : ByteArray) (a : Nat) (hs : s.size ≤ 1000000000) (ha : a ≤ s.size) (w : World) :
    Calls Tryz.prog 72 #[.string s, .int .i64 (a : Int)] w fun e w' => e = .returned (.int .i64 ((a + wdN (s.data.toList.drop a) : Nat) : Int)) ∧ w = w' := by
  have hb := get_bt s
  obtain ⟨V, hV⟩ : ∃ V, a + wdN (s.data.toList.drop a) = V := ⟨_, rfl⟩
  have HV := Lib.hid hV
  rw [hV]
  clear hV
  go_enter Tryz.func72, Tryz.ntmps72
  go_wp2
  go_loop [1] (fun i => ∃ k : Nat, k ≤ s.size ∧ i = .int .i64 k ∧ k + wdN (s.data.toList.drop k) = V) (fun i => s.size - (intOf i).toNat)
  case atStart => exact ⟨a, ha, rfl, HV.out⟩
  case round =>
    obtain ⟨k, hk, rfl, hq⟩ := hrel
    by_cases hlt : k < s.size
    · obtain ⟨c, r, hd, hc, hr⟩ := drop_bt hlt
      have hb0 := bt_nonneg s k
      have hb1 := bt_le s k
      have hst : wdN (s.data.toList.drop k) = if nameB c = true then 1 + wdN (s.data.toList.drop (k + 1)) else 0 := by
        unfold wdN
        rw [hd, hr, List.takeWhile_cons]
        split
        · rw [List.length_cons, Nat.add_comm]
        · rfl
      have HQ := Lib.hid hq
      have HS := Lib.hid hst
      have HC := Lib.hid hc
      clear hq hst hd hr hc
      cases hl : letB (bt s k) with
      | true =>
        have HN := Lib.hid (show k + 1 + wdN (s.data.toList.drop (k + 1)) = V by
          have h1 := HS.out
          rw [if_pos (by unfold nameB; rw [HC.out, hl]; rfl)] at h1
          rw [← HQ.out, h1]; omega)
        go_wp2_with (first | (go_at_call 43; refine (rlet_any _ _).mono ?_; rintro e w' ⟨rfl, rfl⟩) | (go_at_call 45; refine (rdig_any _ _).mono ?_; rintro e w' ⟨rfl, rfl⟩))
        go_round
        case rel => exact ⟨k + 1, by omega, by go_num, HN.out⟩
        case measure => simp [intOf]; omega
      | false =>
        cases hg : digB (bt s k) with
        | true =>
          have HN := Lib.hid (show k + 1 + wdN (s.data.toList.drop (k + 1)) = V by
            have h1 := HS.out
            rw [if_pos (by unfold nameB; rw [HC.out, hl, hg]; rfl)] at h1
            rw [← HQ.out, h1]; omega)
          go_wp2_with (first | (go_at_call 43; refine (rlet_any _ _).mono ?_; rintro e w' ⟨rfl, rfl⟩) | (go_at_call 45; refine (rdig_any _ _).mono ?_; rintro e w' ⟨rfl, rfl⟩))
          go_round
          case rel => exact ⟨k + 1, by omega, by go_num, HN.out⟩
          case measure => simp [intOf]; omega
        | false =>
          have HN := Lib.hid (show k = V by
            have h1 := HS.out
            rw [if_neg (by unfold nameB; rw [HC.out, hl, hg]; decide)] at h1
            rw [← HQ.out, h1]; omega)
          go_wp2_with (first | (go_at_call 43; refine (rlet_any _ _).mono ?_; rintro e w' ⟨rfl, rfl⟩) | (go_at_call 45; refine (rdig_any _ _).mono ?_; rintro e w' ⟨rfl, rfl⟩))
          go_ret
          exact ⟨ret_int1 (by rw [HN.out]), rfl⟩
    · obtain rfl : k = s.size := by omega
      have HN := Lib.hid (show s.size = V by rw [← hq, drop_end8 (Nat.le_refl _)]; rfl)
      go_wp2
      go_ret
      exact ⟨ret_int1 (by rw [HN.out]), rfl⟩
def strO (L : List (List UInt8)) : Obj := .cells (L.map fun l => Value.string (bsB l)).toArray 9
theorem rkws_any (w : World) : Calls Tryz.prog 14 #[] w fun e w' => e = .returned (.slice (some ⟨w.heap.size, 0, none⟩) 28 28) ∧ w' = w.alloc (strO kwL) := by
  go_enter Tryz.func14, Tryz.ntmps14
  go_wp2
  go_ret
  exact ⟨rfl, rfl⟩
set_option maxRecDepth 100000 in
set_option maxHeartbeats 1000000 in
theorem rhas_any {w : World} {g n c : Nat} {L : List (List UInt8)} (hn : L.length = n) (hN : n ≤ 1000000) (hc : ∀ k x, L[k]? = some x → w.cell? ⟨g, k, none⟩ = some (.string (bsB x))) (t : ByteArray) :
    Calls Tryz.prog 54 #[.slice (some ⟨g, 0, none⟩) n c, .string t] w fun e w' => e = .returned (.bool (L.contains t.data.toList)) ∧ w = w' := by
  obtain ⟨V, hV⟩ : ∃ V, L.contains t.data.toList = V := ⟨_, rfl⟩
  have HV := Lib.hid hV
  rw [hV]
  have HN := Lib.hid hn
  have HC := Lib.hid hc
  clear hV hn hc
  go_enter Tryz.func54, Tryz.ntmps54
  go_wp2
  go_loop [5] (fun i => ∃ k : Nat, k ≤ n ∧ i = .int .i64 k ∧ (L.drop k).contains t.data.toList = V) (fun i => n - (intOf i).toNat)
  case atStart => exact ⟨0, Nat.zero_le _, rfl, HV.out⟩
  case round =>
    obtain ⟨k, hk, rfl, hq⟩ := hrel
    have HQ := Lib.hid hq
    clear hq
    by_cases hlt : k < n
    · have hl : k < L.length := by rw [HN.out]; exact hlt
      obtain ⟨x, hx⟩ : ∃ x, L[k] = x := ⟨_, rfl⟩
      have hcx := HC.out k x (by rw [List.getElem?_eq_getElem hl, hx])
      have hd : L.drop k = x :: L.drop (k + 1) := by rw [← hx]; exact List.drop_eq_getElem_cons hl
      have HD := Lib.hid hd
      have hk0 : (0 : Int) ≤ (k : Int) := by omega
      have hk1 : (k : Int) < (n : Int) := by omega
      have HX := Lib.hid (bsB_data x)
      obtain ⟨B, hB⟩ : ∃ B, bsB x = B := ⟨_, rfl⟩
      rw [hB] at hcx HX
      clear hd hx hB
      by_cases he : B = t
      · have HN2 := Lib.hid (show V = true by
          rw [← HQ.out, HD.out, ← he, HX.out]; simp)
        subst he
        go_wp2
        go_ret
        exact ⟨by rw [HN2.out]; rfl, rfl⟩
      · have he' : (B.toList == t.toList) = false := by rw [beq_eq_false_iff_ne]; exact fun e => he (toList_iff.1 e)
        have HN2 := Lib.hid (show (L.drop (k + 1)).contains t.data.toList = V by
          rw [← HQ.out, HD.out, List.contains_cons]
          have : (t.data.toList == x) = false := by
            rw [beq_eq_false_iff_ne]
            intro e
            exact he (ba_ext (by rw [HX.out, e]))
          rw [this]; rfl)
        clear he
        go_wp2
        go_round
        case rel => exact ⟨k + 1, by omega, by go_num, HN2.out⟩
        case measure => simp [intOf]; omega
    · obtain rfl : k = n := by omega
      have HN2 := Lib.hid (show V = false by rw [← HQ.out, List.drop_eq_nil_of_le (by rw [HN.out]; exact Nat.le_refl _)]; rfl)
      go_wp2
      go_ret
      exact ⟨by rw [HN2.out]; rfl, rfl⟩

end Go.Proofs.YtfpdnhbbbadegaaGreatDoor
