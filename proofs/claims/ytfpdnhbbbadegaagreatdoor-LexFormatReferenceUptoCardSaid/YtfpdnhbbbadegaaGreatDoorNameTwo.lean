/- Contracts of the reference of layer 3: part, IsClassName; and of the last slash, in the code and in the reference. -/
import Derived.Test.YtfpdnhbbbadegaaGreatDoorName
namespace Go.Proofs.YtfpdnhbbbadegaaGreatDoor
open Go.ChangeShapes Go.WideShapes Go.ChangeAt Go.RowKit Go.PlainAid
set_option linter.unusedSimpArgs false
set_option linter.unusedVariables false

theorem part_any (s : ByteArray) (hs : s.size ≤ 9223372036854775807) (w : World) :
    Calls Tryz.prog 62 #[.string s] w fun e w' => e = .returned (.bool (idB s)) ∧ w = w' := by
  have hb := get_bt s
  by_cases h1 : s.size = 0 ∨ letB (bt s 0) = true
  · go_enter Tryz.func62, Tryz.ntmps62
    go_wp2
    go_loop [3] (fun i => ∃ k : Nat, k ≤ s.size ∧ i = .int .i64 k ∧ ∀ j, j < k → (letB (bt s j) || digB (bt s j)) = true) (fun i => s.size - (intOf i).toNat)
    case atStart => exact ⟨0, by omega, rfl, fun j hj => absurd hj (by omega)⟩
    case round =>
      obtain ⟨k, hk, rfl, hq⟩ := hrel
      have hq' := Lib.hid hq
      clear hq
      by_cases hlt : k < s.size
      · have hb0 := bt_nonneg s k
        have hb1 := bt_le s k
        cases hl : letB (bt s k) with
        | true =>
          clear h1
          go_wp2_with (go_at_call 83; refine (rletter_any _ _).mono ?_; rintro e w' ⟨rfl, rfl⟩)
          go_round
          case rel => exact ⟨k + 1, by omega, by go_num, fun j hj => by
            rcases Nat.lt_or_ge j k with h | h
            · exact hq'.out j h
            · obtain rfl : j = k := by omega
              rw [hl]; rfl⟩
          case measure => simp [intOf]; omega
        | false =>
          have hk0 : k ≠ 0 := by
            rintro rfl
            rcases h1 with h | h
            · omega
            · rw [hl] at h; cases h
          clear h1
          rcases (by omega : bt s k < 48 ∨ (48 ≤ bt s k ∧ bt s k ≤ 57) ∨ 57 < bt s k) with hd | hd | hd
          · have hv : idB s = false := idB_no s k hlt (by rw [hl]; exact decide_eq_false (by omega))
            go_wp2_with (go_at_call 83; refine (rletter_any _ _).mono ?_; rintro e w' ⟨rfl, rfl⟩)
            go_ret
            exact ⟨ret_bool (by first | rfl | exact hv.symm), rfl⟩
          · have hdd : digB (bt s k) = true := decide_eq_true hd
            have hk1 : 1 ≤ k := by omega
            have hkb := beqF (show (k : Int) ≠ 0 by omega)
            go_wp2_with (go_at_call 83; refine (rletter_any _ _).mono ?_; rintro e w' ⟨rfl, rfl⟩)
            go_round
            case rel => exact ⟨k + 1, by omega, by go_num, fun j hj => by
              rcases Nat.lt_or_ge j k with h | h
              · exact hq'.out j h
              · obtain rfl : j = k := by omega
                rw [hdd]; simp⟩
            case measure => simp [intOf]; omega
          · have hv : idB s = false := idB_no s k hlt (by rw [hl]; exact decide_eq_false (by omega))
            go_wp2_with (go_at_call 83; refine (rletter_any _ _).mono ?_; rintro e w' ⟨rfl, rfl⟩)
            go_ret
            exact ⟨ret_bool (by first | rfl | exact hv.symm), rfl⟩
      · obtain rfl : k = s.size := by omega
        have hv : idB s = decide (0 < s.size) := by
          by_cases h0 : 0 < s.size
          · rw [decide_eq_true h0]
            exact (idB_at s).2 ⟨h0, by rcases h1 with h | h; omega; exact h, hq'.out⟩
          · rw [decide_eq_false h0]
            cases hh : idB s with
            | false => rfl
            | true => exact absurd ((idB_at s).1 hh).1 h0
        have hv' := Lib.hid hv
        clear hv h1
        go_wp2
        go_ret
        exact ⟨ret_bool (by first | (rw [hv'.out]; done) | (rw [hv'.out]; simp)), rfl⟩
  · have h0 : 0 < s.size := by omega
    have h1' : letB (bt s 0) = false := by
      cases hh : letB (bt s 0) with
      | false => rfl
      | true => exact absurd (Or.inr hh) h1
    clear h1
    have hv := idB_no0 s h1'
    rw [hv]
    go_enter Tryz.func62, Tryz.ntmps62
    go_wp2
    refine wp_loop_rounds 1 ?_
    rw [rounds_succ]
    go_wp2_with (go_at_call 83; refine (rletter_any _ _).mono ?_; rintro e w' ⟨rfl, rfl⟩)
    go_ret
    exact ⟨rfl, rfl⟩

/-! ### the reference's class names -/
theorem drop_at (s : ByteArray) (i : Nat) (h : i < s.size) (h47 : bt s i = 47) (f : Nat) (hf : f ≤ i) (hno : ∀ j, f ≤ j → j < i → bt s j ≠ 47) :
    s.data.toList.drop f = (s.extract f i).data.toList ++ 47 :: s.data.toList.drop (i + 1) ∧ ∀ x ∈ (s.extract f i).data.toList, x ≠ 47 := by
  have hl : i < s.data.toList.length := by rw [len_data]; exact h
  have hx : s.data.toList[i] = 47 := by
    rw [bt_data, List.getD_eq_getElem?_getD, List.getElem?_eq_getElem hl] at h47
    simp only [Option.getD_some] at h47
    apply UInt8.toNat_inj.1
    have h48 : (s.data.toList[i]).toNat = 47 := by omega
    rw [h48]; rfl
  constructor
  · rw [data_extract]
    have e1 : s.data.toList.drop i = 47 :: s.data.toList.drop (i + 1) := by
      rw [List.drop_eq_getElem_cons hl, hx]
    have e2 : (s.data.toList.drop f).drop (i - f) = s.data.toList.drop i := by rw [List.drop_drop]; congr 1; omega
    rw [← e1, ← e2, List.take_append_drop]
  · intro x hx'
    rw [data_extract] at hx'
    obtain ⟨j, hj, rfl⟩ := List.getElem_of_mem hx'
    rw [List.length_take, List.length_drop] at hj
    have hj2 : f + j < s.data.toList.length := by omega
    have := hno (f + j) (by omega) (by omega)
    rw [bt_data, List.getD_eq_getElem?_getD, List.getElem?_eq_getElem hj2] at this
    simp only [Option.getD_some] at this
    rw [List.getElem_take, List.getElem_drop]
    intro hc
    rw [hc] at this
    exact this rfl
theorem drop_end (s : ByteArray) (f : Nat) (hf : f ≤ s.size) (hno : ∀ j, f ≤ j → j < s.size → bt s j ≠ 47) :
    s.data.toList.drop f = (s.extract f s.size).data.toList ∧ ∀ x ∈ (s.extract f s.size).data.toList, x ≠ 47 := by
  constructor
  · rw [data_extract, List.take_of_length_le (by rw [List.length_drop, len_data]; omega)]
  · intro x hx'
    rw [data_extract] at hx'
    obtain ⟨j, hj, rfl⟩ := List.getElem_of_mem hx'
    rw [List.length_take, List.length_drop] at hj
    have hl := len_data s
    have hj2 : f + j < s.data.toList.length := by omega
    have := hno (f + j) (by omega) (by omega)
    rw [bt_data, List.getD_eq_getElem?_getD, List.getElem?_eq_getElem hj2] at this
    simp only [Option.getD_some] at this
    rw [List.getElem_take, List.getElem_drop]
    intro hc
    rw [hc] at this
    exact this rfl

theorem rcls_any (s : ByteArray) (hs : s.size ≤ 9223372036854775807) (w : World) :
    Calls Tryz.prog 32 #[.string s] w fun e w' => e = .returned (.bool (clsB s)) ∧ w = w' := by
  have hb := get_bt s
  by_cases h64 : s.size ≤ 64
  · have hc : clsB s = clsL s.data.toList := by unfold clsB; rw [decide_eq_true h64]; rfl
    rw [hc]
    have hstart := Lib.hid (show clsL (s.data.toList.drop 0) = clsL s.data.toList by rw [List.drop_zero])
    go_enter Tryz.func32, Tryz.ntmps32
    go_wp2
    go_loop [3, 4] (fun f i => ∃ a k : Nat, a ≤ k ∧ k ≤ s.size ∧ f = .int .i64 a ∧ i = .int .i64 k ∧ (∀ j, a ≤ j → j < k → bt s j ≠ 47) ∧ clsL (s.data.toList.drop a) = clsL s.data.toList) (fun _ i => s.size - (intOf i).toNat)
    case atStart => exact ⟨0, 0, by omega, by omega, rfl, rfl, fun j h1 h2 => absurd h2 (by omega), hstart.out⟩
    case round =>
      obtain ⟨a, k, hak, hk, rfl, rfl, hq, hv⟩ := hrel
      have hq' := Lib.hid hq
      have hv' := Lib.hid hv
      clear hq hv hc
      by_cases hlt : k < s.size
      · by_cases h47 : bt s k = 47
        · obtain ⟨d1, d2⟩ := drop_at s k hlt h47 a hak hq'.out
          have hcut := cls_cut _ (s.data.toList.drop (k + 1)) d2
          rw [← d1, hv'.out] at hcut
          have hcut' := Lib.hid hcut
          have hz : (s.extract a k).size ≤ 9223372036854775807 := by rw [ByteArray.size_extract]; omega
          clear hcut d1 d2
          have hid : idB (s.extract a k) = okL (s.extract a k).data.toList := rfl
          rw [← hid] at hcut'
          clear hid
          cases hi : idB (s.extract a k) with
          | true =>
            go_wp2_with (go_at_call 62; refine (part_any _ hz _).mono ?_; rintro e w' ⟨rfl, rfl⟩)
            go_round
            case rel => exact ⟨k + 1, k + 1, by omega, by omega, by go_num, by go_num, fun j h1 h2 => absurd h2 (by omega), by rw [hcut'.out, hi]; rfl⟩
            case measure => simp [intOf]; omega
          | false =>
            go_wp2_with (go_at_call 62; refine (part_any _ hz _).mono ?_; rintro e w' ⟨rfl, rfl⟩)
            go_ret
            exact ⟨ret_bool (by rw [hcut'.out, hi]; rfl), rfl⟩
        · have hne := beqF h47
          go_wp2
          go_round
          case rel => exact ⟨a, k + 1, by omega, by omega, by go_num, by go_num, fun j h1 h2 => by
            rcases Nat.lt_or_ge j k with h | h
            · exact hq'.out j h1 h
            · obtain rfl : j = k := by omega
              exact h47, hv'.out⟩
          case measure => simp [intOf]; omega
      · obtain rfl : k = s.size := by omega
        obtain ⟨d1, d2⟩ := drop_end s a hak hq'.out
        have hend : clsL s.data.toList = idB (s.extract a s.size) := by rw [← hv'.out, d1, cls_no _ d2]; rfl
        have hend' := Lib.hid hend
        have hz : (s.extract a s.size).size ≤ 9223372036854775807 := by rw [ByteArray.size_extract]; omega
        clear hend d1 d2
        go_wp2_with (go_at_call 62; refine (part_any _ hz _).mono ?_; rintro e w' ⟨rfl, rfl⟩)
        go_ret
        exact ⟨ret_bool hend'.out.symm, rfl⟩
  · have hc : clsB s = false := by unfold clsB; rw [decide_eq_false h64]; rfl
    rw [hc]
    go_enter Tryz.func32, Tryz.ntmps32
    go_wp2
    go_ret
    exact ⟨rfl, rfl⟩

end Go.Proofs.YtfpdnhbbbadegaaGreatDoor
