/- Layer 53: what is known of the tokens of a text, pure. -/
import Derived.Test.YtfpdnhbbbadegaaGreatDoorYt
namespace Go.Proofs.YtfpdnhbbbadegaaGreatDoor
open Go.ChangeShapes Go.WideShapes Go.ChangeAt Go.RowKit Go.PlainAid
set_option linter.unusedSimpArgs false
set_option linter.unusedVariables false

theorem sc_rng {l : List UInt8} {t : Sc} (h : scL l = some t) : -9223372036854775808 ≤ t.n ∧ t.n ≤ 9223372036854775807 := by
  have hall : ∀ c ∈ l.take (dgN l), dg8 c = true := by
    intro c hc
    have e : l.take (dgN l) = l.takeWhile dg8 := by unfold dgN; exact (List.prefix_iff_eq_take.1 (List.takeWhile_prefix dg8)).symm
    rw [e] at hc
    exact (List.all_eq_true.1 (List.all_takeWhile (p := dg8) (l := l))) c hc
  cases l with
  | nil => cases h
  | cons c l =>
    rw [sc_cons] at h
    split at h
    · unfold scNm at h
      split at h
      · cases h; simp only; omega
      · cases h
    · split at h
      · unfold scNu at h
        split at h
        · cases h
        · split at h
          · cases hp : okI (Lib.parseIntB 64 ((c :: l).take (dgN (c :: l)))) with
            | none => rw [hp] at h; cases h
            | some v =>
              obtain ⟨u, rfl, hu⟩ := okI_rng hp hall
              rw [hp] at h; cases h; simp only; omega
          · cases hp : okI (Lib.parseIntB 32 ((c :: l).take (dgN (c :: l)))) with
            | none => rw [hp] at h; cases h
            | some v =>
              obtain ⟨u, rfl, hu⟩ := okI_rng hp hall
              rw [hp] at h; cases h; simp only; omega
      · split at h
        · unfold scSt at h
          cases hs : strGo (c :: l).length ((c :: l).drop 1) with
          | none => rw [hs] at h; cases h
          | some x =>
            rw [hs] at h
            simp only at h
            split at h
            · cases h; simp only; omega
            · cases h
        · unfold scOp at h
          cases hf : opL.find? (·.isPrefixOf (c :: l)) with
          | none => rw [hf] at h; cases h
          | some o => rw [hf] at h; cases h; simp only; omega
theorem tk_rng : ∀ (f cnt a : Nat) (l : List UInt8), ∀ t ∈ (tkGo f cnt a l).1, -9223372036854775808 ≤ t.n ∧ t.n ≤ 9223372036854775807
  | 0, _, _, _, t, ht => by cases ht
  | f + 1, cnt, a, l, t, ht => by
    by_cases h : (tkGo (f + 1) cnt a l).2.2 = 0
    · rcases tk_ok h with h1 | ⟨x, hs, h2, h3, h1⟩
      · rw [h1] at ht; cases ht
      · rw [h1] at ht
        rcases List.mem_cons.1 ht with rfl | ht
        · exact sc_rng hs
        · exact tk_rng f _ _ _ t ht
    · rw [(tk_err (f + 1) cnt a l).2.1 h] at ht; cases ht
theorem tkL_rng (l : List UInt8) : ∀ t ∈ (tkL l).1, -9223372036854775808 ≤ t.n ∧ t.n ≤ 9223372036854775807 := by
  unfold tkL
  split
  · intro t ht; cases ht
  · exact tk_rng _ _ _ _
theorem tkL_len (l : List UInt8) : (tkL l).1.length ≤ 5000 := by
  by_cases h : (tkL l).2.2 = 0
  · unfold tkL at h ⊢
    split
    · exact Nat.zero_le _
    · rename_i h2
      rw [if_neg h2] at h
      have := tk_len _ 0 0 l h (Nat.zero_le _)
      omega
  · unfold tkL at h ⊢
    split
    · exact Nat.zero_le _
    · rename_i h2
      rw [if_neg h2] at h
      rw [(tk_err _ _ _ _).2.1 h]; exact Nat.zero_le _
theorem tkL_err (l : List UInt8) (hl : l.length ≤ 20000) : ((tkL l).2.2 = 0 → (tkL l).2.1 = 0) ∧ ((tkL l).2.2 = 0 ∨ ((tkL l).2.2 = 5 ∧ (tkL l).2.1 = 0) ∨ ((tkL l).2.2 = 70 ∧ 0 ≤ (tkL l).2.1 ∧ (tkL l).2.1 < l.length)) := by
  unfold tkL
  rw [if_neg (by omega)]
  have := tk_err (l.length + 1) 0 0 l
  refine ⟨this.1, ?_⟩
  rcases this.2.2 with h | h | h
  · exact Or.inl h
  · exact Or.inr (Or.inl h)
  · refine Or.inr (Or.inr ⟨h.1, by have := h.2.1; omega, by have := h.2.2; omega⟩)
theorem same_refl (L : List Tk) : SameT L L := rfl
theorem no10_of {r : ByteArray} (h : ∀ j, j < r.size → bt r j ≠ 10) : ∀ c ∈ r.data.toList, c ≠ 10 := by
  intro c hc he
  obtain ⟨j, hj, hx⟩ := List.getElem_of_mem hc
  rw [len_data] at hj
  refine h j hj ?_
  rw [bt_data, List.getD_eq_getElem?_getD, List.getElem?_eq_getElem (by rw [len_data]; exact hj), hx, he]; rfl

end Go.Proofs.YtfpdnhbbbadegaaGreatDoor
