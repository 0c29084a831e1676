/- Layer 3: a string's package and last component, joined. -/
import Derived.Test.YtfafmanjgillcaaDoorNamePre
namespace Go.Proofs.YtfafmanjgillcaaDoor
open Go.ChangeShapes Go.WideShapes Go.ChangeAt Go.RowKit Go.PlainAid
set_option linter.unusedSimpArgs false
set_option linter.unusedVariables false

/-! ### the last slash of a list -/
theorem bt_list (s : ByteArray) (k : Nat) (hk : k < s.data.toList.length) : bt s k = ((s.data.toList[k]).toNat : Int) := by
  rw [bt_data, List.getD_eq_getElem?_getD, List.getElem?_eq_getElem hk]; rfl
theorem lastFrom_spec (s : ByteArray) : ∀ k, k ≤ s.size → (lastFrom s k = -1 ∧ ∀ j, j < k → bt s j ≠ 47) ∨ ∃ i : Nat, lastFrom s k = i ∧ i < k ∧ bt s i = 47 ∧ ∀ j, i < j → j < k → bt s j ≠ 47
  | 0, _ => .inl ⟨rfl, fun j h => absurd h (by omega)⟩
  | k + 1, h => by
    by_cases h47 : bt s k = 47
    · exact .inr ⟨k, last_hit s k h47, by omega, h47, fun j h1 h2 => absurd h2 (by omega)⟩
    · rw [last_miss s k h47]
      rcases lastFrom_spec s k (by omega) with ⟨h1, h2⟩ | ⟨i, h1, h2, h3, h4⟩
      · refine .inl ⟨h1, fun j hj => ?_⟩
        rcases Nat.lt_or_ge j k with h | h
        · exact h2 j h
        · obtain rfl : j = k := by omega
          exact h47
      · refine .inr ⟨i, h1, by omega, h3, fun j hj hj2 => ?_⟩
        rcases Nat.lt_or_ge j k with h | h
        · exact h4 j hj h
        · obtain rfl : j = k := by omega
          exact h47
/-- no slash: the package is empty and the last component is all; else the string is package, slash, last component, and the last component has no slash -/
theorem parts (s : ByteArray) : (pkgB s = ⟨#[]⟩ ∧ simB s = s ∧ ∀ x ∈ s.data.toList, x ≠ 47) ∨
    (s.data.toList = (pkgB s).data.toList ++ 47 :: (simB s).data.toList ∧ ∀ x ∈ (simB s).data.toList, x ≠ 47) := by
  have no : ∀ f, f ≤ s.size → (∀ j, f ≤ j → j < s.size → bt s j ≠ 47) → ∀ x ∈ (s.extract f s.size).data.toList, x ≠ 47 := fun f hf h => (drop_end s f hf h).2
  rcases lastFrom_spec s s.size (Nat.le_refl _) with ⟨h1, h2⟩ | ⟨i, h1, h2, h3, h4⟩
  · have hl : lastI s = -1 := h1
    refine .inl ⟨?_, ?_, ?_⟩
    · unfold pkgB; rw [hl]; exact ba_ext (by rw [data_extract]; rfl)
    · unfold simB; rw [hl]; exact extract_all s
    · have := no 0 (Nat.zero_le _) (fun j _ h => h2 j h)
      rwa [extract_all] at this
  · have hl : lastI s = i := h1
    refine .inr ⟨?_, ?_⟩
    · unfold pkgB simB
      rw [hl, show ((i : Int) + 1).toNat = i + 1 by omega, show ((i : Int)).toNat = i by omega, data_extract, data_extract, List.drop_zero, Nat.sub_zero,
        List.take_of_length_le (l := s.data.toList.drop (i + 1)) (by rw [List.length_drop, len_data]; omega)]
      have hlt : i < s.data.toList.length := by rw [len_data]; exact h2
      have hx : s.data.toList[i] = 47 := by
        rw [bt_list s i hlt] at h3
        apply UInt8.toNat_inj.1
        have h48 : (s.data.toList[i]).toNat = 47 := by omega
        rw [h48]; rfl
      have e := List.take_append_drop i s.data.toList
      rw [List.drop_eq_getElem_cons hlt, hx] at e
      exact e.symm
    · unfold simB
      rw [hl, show ((i : Int) + 1).toNat = i + 1 by omega]
      exact no (i + 1) (by omega) (fun j h5 h6 => h4 j (by omega) h6)

theorem index_no : ∀ l : List UInt8, (∀ x ∈ l, x ≠ 47) → Lib.indexByte l 47 = -1 := fun l h => by
  rcases index_cases l with ⟨h1, _⟩ | ⟨k, _, h2, h3, _⟩
  · exact h1
  · exact absurd rfl (h 47 (by rw [h3]; simp))
theorem join_none (l : ByteArray) : joinB ⟨#[]⟩ l = l := by
  unfold joinB
  rw [Lib.toList_data]; rfl
theorem join_some (p l : ByteArray) (h : p.data.toList ≠ []) : (joinB p l).data.toList = p.data.toList ++ 47 :: l.data.toList := by
  unfold joinB
  rw [Lib.toList_data]
  cases hp : p.data.toList with
  | nil => exact absurd hp h
  | cons c k => simp [hp]
theorem empty_of {p : ByteArray} (h : p.data.toList = []) : p = ⟨#[]⟩ := ba_ext h

/-- joined again: the string itself, or its only slash is its first byte -/
theorem join_parts (s : ByteArray) : joinB (pkgB s) (simB s) = s ∨ (⟨#[47]⟩ ++ simB s : ByteArray) = s := by
  rcases parts s with ⟨h1, h2, _⟩ | ⟨h1, _⟩
  · rw [h1, h2, join_none]; exact .inl rfl
  · by_cases hp : (pkgB s).data.toList = []
    · right
      refine ba_ext ?_
      rw [app_data, h1, hp]; rfl
    · left
      exact ba_ext (by rw [join_some _ _ hp, ← h1])
theorem no_slash_in_last (s : ByteArray) : Lib.indexByte (simB s).data.toList 47 = -1 := by
  rcases parts s with ⟨h1, h2, h3⟩ | ⟨h1, h2⟩
  · rw [h2]; exact index_no _ h3
  · exact index_no _ h2
theorem cls_nil : clsL [] = false := rfl
theorem cls_last (b : List UInt8) (h : ∀ x ∈ b, x ≠ 47) : clsL b = okL b := by
  unfold clsL
  rw [pieces_no b h]; simp
/-- a class name's package is empty or a class name, its last component an identifier -/
theorem cls_parts (s : ByteArray) (h : clsB s = true) : joinB (pkgB s) (simB s) = s ∧ ((pkgB s) = ⟨#[]⟩ ∨ clsB (pkgB s) = true) ∧ idB (simB s) = true ∧ (simB s).size ≤ 64 := by
  unfold clsB at h
  rw [Bool.and_eq_true, decide_eq_true_iff] at h
  obtain ⟨hs, hc⟩ := h
  rcases parts s with ⟨h1, h2, h3⟩ | ⟨h1, h2⟩
  · rw [h1, h2, join_none]
    refine ⟨rfl, .inl rfl, ?_, hs⟩
    unfold idB
    rw [← cls_last _ h3]; exact hc
  · have hz : s.size = (pkgB s).size + 1 + (simB s).size := by
      have := congrArg List.length h1
      rw [List.length_append, List.length_cons, len_data, len_data, len_data] at this
      omega
    rw [h1, cls_app, Bool.and_eq_true] at hc
    have hp : (pkgB s).data.toList ≠ [] := by
      intro e; rw [e, cls_nil] at hc; cases hc.1
    refine ⟨ba_ext (by rw [join_some _ _ hp, ← h1]), .inr ?_, ?_, by omega⟩
    · unfold clsB
      rw [Bool.and_eq_true, decide_eq_true_iff]
      exact ⟨by omega, hc.1⟩
    · unfold idB
      rw [← cls_last _ h2]; exact hc.2
theorem id_first (s : ByteArray) (h : idB s = true) : 0 < s.size ∧ bt s 0 ≠ 60 := by
  unfold idB at h
  cases hl : s.data.toList with
  | nil => rw [hl] at h; cases h
  | cons c k =>
    rw [hl, okL, Bool.and_eq_true] at h
    have hs : 0 < s.size := by rw [← len_data, hl]; simp
    refine ⟨hs, ?_⟩
    rw [bt_data, hl]
    intro e
    simp only [List.getD_cons_zero] at e
    rw [e] at h
    have := h.1
    revert this
    decide

theorem mem_of_id (s : ByteArray) (h : idB s = true) (h64 : s.size ≤ 64) : memB s = true := by
  unfold memB
  rw [h, decide_eq_true h64]; simp

set_option maxHeartbeats 2000000 in
theorem join_a (s : ByteArray) (h1 : s.size ≤ 2000) (hc : clsB s = true) (c2 : pkgB s = ⟨#[]⟩) (w : World) :
    Calls Tryd.prog 4 #[.string s] w fun e w' => e = .returned (.bool true) ∧ Below w.heap.size w w' := by
  have hB : Below w.heap.size w w := Below.refl _ _
  have hi := no_slash_in_last s
  have hl : (simB s).size ≤ 2000 := by unfold simB; rw [ByteArray.size_extract]; omega
  have hp : (pkgB s).size ≤ 2000 := by unfold pkgB; rw [ByteArray.size_extract]; omega
  obtain ⟨c1, _, c3, c4⟩ := cls_parts s hc
  obtain ⟨i1, i2⟩ := id_first _ c3
  have c5 := mem_of_id _ c3 c4
  have hb := get_bt (simB s)
  have i3 := beqF i2
  rw [c2] at c1
  clear i2 c3
  go_enter Tryd.func4, Tryd.ntmps4
  go_wp2_with (first | (go_at_call 14; refine (awake_any _).mono ?_; rintro e w1 ⟨rfl, hb1⟩; replace hB := Below.trans hB (hb1.mono hB.size); clear hb1) | (go_at_call 15; refine (cls_any _ _).mono ?_; rintro e w1 ⟨rfl, hb1⟩; replace hB := Below.trans hB (hb1.mono hB.size); clear hb1) | (go_at_call 17; refine (mem_any _ (by omega) _).mono ?_; rintro e w' ⟨rfl, rfl⟩) | (go_at_call 19; refine (pkg_any _ (by omega) _).mono ?_; rintro e w' ⟨rfl, rfl⟩) | (go_at_call 21; refine (sim_any _ (by omega) _).mono ?_; rintro e w' ⟨rfl, rfl⟩) | (go_at_call 23; refine (join_any _ _ (by first | decide | omega) (by omega) _).mono ?_; rintro e w' ⟨rfl, rfl⟩) | (go_at_call 27; refine (contains_any _ 47 _).mono ?_; rintro e w' ⟨rfl, rfl⟩))
  all_goals go_ret
  all_goals exact ⟨ret_bool (by first | rfl | (simp [bne, i3])), hB⟩

set_option maxHeartbeats 2000000 in
theorem join_b (s : ByteArray) (h1 : s.size ≤ 2000) (hc : clsB s = true) (c2 : clsB (pkgB s) = true) (w : World) :
    Calls Tryd.prog 4 #[.string s] w fun e w' => e = .returned (.bool true) ∧ Below w.heap.size w w' := by
  have hB : Below w.heap.size w w := Below.refl _ _
  have hi := no_slash_in_last s
  have hl : (simB s).size ≤ 2000 := by unfold simB; rw [ByteArray.size_extract]; omega
  have hp : (pkgB s).size ≤ 2000 := by unfold pkgB; rw [ByteArray.size_extract]; omega
  obtain ⟨c1, _, c3, c4⟩ := cls_parts s hc
  obtain ⟨i1, i2⟩ := id_first _ c3
  have c5 := mem_of_id _ c3 c4
  have hb := get_bt (simB s)
  have i3 := beqF i2
  clear i2 c3
  go_enter Tryd.func4, Tryd.ntmps4
  go_wp2_with (first | (go_at_call 14; refine (awake_any _).mono ?_; rintro e w1 ⟨rfl, hb1⟩; replace hB := Below.trans hB (hb1.mono hB.size); clear hb1) | (go_at_call 15; refine (cls_any _ _).mono ?_; rintro e w1 ⟨rfl, hb1⟩; replace hB := Below.trans hB (hb1.mono hB.size); clear hb1) | (go_at_call 17; refine (mem_any _ (by omega) _).mono ?_; rintro e w' ⟨rfl, rfl⟩) | (go_at_call 19; refine (pkg_any _ (by omega) _).mono ?_; rintro e w' ⟨rfl, rfl⟩) | (go_at_call 21; refine (sim_any _ (by omega) _).mono ?_; rintro e w' ⟨rfl, rfl⟩) | (go_at_call 23; refine (join_any _ _ (by first | decide | omega) (by omega) _).mono ?_; rintro e w' ⟨rfl, rfl⟩) | (go_at_call 27; refine (contains_any _ 47 _).mono ?_; rintro e w' ⟨rfl, rfl⟩))
  all_goals go_ret
  all_goals exact ⟨ret_bool (by first | rfl | (simp [bne, i3])), hB⟩

set_option maxHeartbeats 2000000 in
theorem join_c (s : ByteArray) (h1 : s.size ≤ 2000) (hc : clsB s = false) (hj : joinB (pkgB s) (simB s) = s) (w : World) :
    Calls Tryd.prog 4 #[.string s] w fun e w' => e = .returned (.bool true) ∧ Below w.heap.size w w' := by
  have hB : Below w.heap.size w w := Below.refl _ _
  have hi := no_slash_in_last s
  have hl : (simB s).size ≤ 2000 := by unfold simB; rw [ByteArray.size_extract]; omega
  have hp : (pkgB s).size ≤ 2000 := by unfold pkgB; rw [ByteArray.size_extract]; omega
  go_enter Tryd.func4, Tryd.ntmps4
  go_wp2_with (first | (go_at_call 14; refine (awake_any _).mono ?_; rintro e w1 ⟨rfl, hb1⟩; replace hB := Below.trans hB (hb1.mono hB.size); clear hb1) | (go_at_call 15; refine (cls_any _ _).mono ?_; rintro e w1 ⟨rfl, hb1⟩; replace hB := Below.trans hB (hb1.mono hB.size); clear hb1) | (go_at_call 17; refine (mem_any _ (by omega) _).mono ?_; rintro e w' ⟨rfl, rfl⟩) | (go_at_call 19; refine (pkg_any _ (by omega) _).mono ?_; rintro e w' ⟨rfl, rfl⟩) | (go_at_call 21; refine (sim_any _ (by omega) _).mono ?_; rintro e w' ⟨rfl, rfl⟩) | (go_at_call 23; refine (join_any _ _ (by first | decide | omega) (by omega) _).mono ?_; rintro e w' ⟨rfl, rfl⟩) | (go_at_call 27; refine (contains_any _ 47 _).mono ?_; rintro e w' ⟨rfl, rfl⟩))
  go_ret
  exact ⟨rfl, hB⟩

set_option maxHeartbeats 2000000 in
theorem join_d (s : ByteArray) (h1 : s.size ≤ 2000) (hc : clsB s = false) (hj : (⟨#[47]⟩ ++ simB s : ByteArray) = s) (w : World) :
    Calls Tryd.prog 4 #[.string s] w fun e w' => e = .returned (.bool true) ∧ Below w.heap.size w w' := by
  have hB : Below w.heap.size w w := Below.refl _ _
  have hi := no_slash_in_last s
  have hl : (simB s).size ≤ 2000 := by unfold simB; rw [ByteArray.size_extract]; omega
  have hp : (pkgB s).size ≤ 2000 := by unfold pkgB; rw [ByteArray.size_extract]; omega
  go_enter Tryd.func4, Tryd.ntmps4
  go_wp2_with (first | (go_at_call 14; refine (awake_any _).mono ?_; rintro e w1 ⟨rfl, hb1⟩; replace hB := Below.trans hB (hb1.mono hB.size); clear hb1) | (go_at_call 15; refine (cls_any _ _).mono ?_; rintro e w1 ⟨rfl, hb1⟩; replace hB := Below.trans hB (hb1.mono hB.size); clear hb1) | (go_at_call 17; refine (mem_any _ (by omega) _).mono ?_; rintro e w' ⟨rfl, rfl⟩) | (go_at_call 19; refine (pkg_any _ (by omega) _).mono ?_; rintro e w' ⟨rfl, rfl⟩) | (go_at_call 21; refine (sim_any _ (by omega) _).mono ?_; rintro e w' ⟨rfl, rfl⟩) | (go_at_call 23; refine (join_any _ _ (by first | decide | omega) (by omega) _).mono ?_; rintro e w' ⟨rfl, rfl⟩) | (go_at_call 27; refine (contains_any _ 47 _).mono ?_; rintro e w' ⟨rfl, rfl⟩))
  all_goals go_ret
  all_goals exact ⟨rfl, hB⟩

theorem join_law (s : ByteArray) (hs : s.size ≤ 140737488351232) (w : World) :
    Calls Tryd.prog 4 #[.string s] w fun e w' => e = .returned (.bool true) ∧ Below w.heap.size w w' := by
  have hB : Below w.heap.size w w := Below.refl _ _
  by_cases h1 : s.size ≤ 2000
  · cases hc : clsB s with
    | true =>
      rcases (cls_parts s hc).2.1 with c2 | c2
      · exact join_a s h1 hc c2 w
      · exact join_b s h1 hc c2 w
    | false =>
      rcases join_parts s with hj | hj
      · exact join_c s h1 hc hj w
      · exact join_d s h1 hc hj w
  · go_enter Tryd.func4, Tryd.ntmps4
    go_wp2_with (go_at_call 14; refine (awake_any _).mono ?_; rintro e w1 ⟨rfl, hb1⟩; replace hB := Below.trans hB (hb1.mono hB.size); clear hb1)
    go_ret
    exact ⟨rfl, hB⟩

end Go.Proofs.YtfafmanjgillcaaDoor
