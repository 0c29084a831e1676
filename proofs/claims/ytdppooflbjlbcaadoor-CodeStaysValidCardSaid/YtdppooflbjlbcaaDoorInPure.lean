/- Layer 8: sizes and offsets, pure. -/
import Derived.Test.YtdppooflbjlbcaaDoorIn
namespace Go.Proofs.YtdppooflbjlbcaaDoor.I
set_option linter.unusedSimpArgs false
set_option linter.unusedVariables false

/-- an instruction's size -/
def szV (i : In) : Int := if i.op = 53 then 9 + 2 * (i.tn : Int) else if i.op = 54 then 5 + 6 * (i.kn : Int) else sizeV i.op
/-- the offset of the k-th -/
def atN (L : List In) : Nat → Int
  | 0 => 0
  | k + 1 => atN L k + (match L[k]? with | some i => szV i | none => 0)
theorem atN_succ {L : List In} {k : Nat} {i : In} (h : L[k]? = some i) : atN L (k + 1) = atN L k + szV i := by
  show atN L k + (match L[k]? with | some i => szV i | none => 0) = _
  rw [h]
/-- the first fault of an instruction -/
def chkE : List In → Int
  | [] => 0
  | i :: r => if ciE i = 0 then chkE r else ciE i
theorem chkE_ok : ∀ {L : List In}, (∀ (j : Nat) (i : In), L[j]? = some i → ciE i = 0) → chkE L = 0
  | [], _ => rfl
  | i :: r, h => by
    unfold chkE
    rw [if_pos (h 0 i rfl)]
    exact chkE_ok fun j i hj => h (j + 1) i hj
theorem chkE_bad : ∀ {L : List In} {k : Nat} {i : In}, (∀ (j : Nat) (i : In), j < k → L[j]? = some i → ciE i = 0) → L[k]? = some i → ciE i ≠ 0 → chkE L = ciE i
  | [], k, i, _, h, _ => by simp at h
  | x :: r, 0, i, _, h, hn => by
    obtain rfl : x = i := by simpa using h
    unfold chkE
    rw [if_neg hn]
  | x :: r, k + 1, i, hj, h, hn => by
    unfold chkE
    rw [if_pos (hj 0 x (by omega) rfl)]
    exact chkE_bad (fun j i hjk hi => hj (j + 1) i (by omega) hi) h hn
theorem chkE_all : ∀ {L : List In}, chkE L = 0 → ∀ (j : Nat) (i : In), L[j]? = some i → ciE i = 0
  | [], _, j, i, h => by simp at h
  | x :: r, h, j, i, hj => by
    unfold chkE at h
    by_cases hx : ciE x = 0
    · rw [if_pos hx] at h
      cases j with
      | zero =>
        obtain rfl : x = i := by simpa using hj
        exact hx
      | succ j => exact chkE_all h j i hj
    · rw [if_neg hx] at h; exact absurd h hx
def ofE (L : List In) : Int := if chkE L = 0 then (if 1000 < L.length then 5 else if 20000 < atN L L.length then 8 else 0) else chkE L
/-- the offsets of the first k -/
def ofN (L : List In) (k : Nat) : List Int := (List.range k).map (atN L)
theorem ofN_len (L : List In) (k : Nat) : (ofN L k).length = k := by simp [ofN]
theorem ofN_succ (L : List In) (k : Nat) : ofN L (k + 1) = ofN L k ++ [atN L k] := by unfold ofN; rw [List.range_succ, List.map_append]; rfl
def ofP (L : List In) : List Int := if ofE L = 0 then ofN L (L.length + 1) else []
theorem of_1 {L : List In} (h : chkE L ≠ 0) : ofE L = chkE L ∧ ofP L = [] := by
  have : ofE L = chkE L := if_neg h
  exact ⟨this, by unfold ofP; rw [this, if_neg h]⟩
theorem of_2 {L : List In} (h : chkE L = 0) (h1 : 1000 < L.length) : ofE L = 5 ∧ ofP L = [] := by
  have : ofE L = 5 := by unfold ofE; rw [if_pos h, if_pos h1]
  exact ⟨this, by unfold ofP; rw [this]; rfl⟩
theorem of_3 {L : List In} (h : chkE L = 0) (h1 : ¬ 1000 < L.length) (h2 : 20000 < atN L L.length) : ofE L = 8 ∧ ofP L = [] := by
  have : ofE L = 8 := by unfold ofE; rw [if_pos h, if_neg h1, if_pos h2]
  exact ⟨this, by unfold ofP; rw [this]; rfl⟩
theorem of_4 {L : List In} (h : chkE L = 0) (h1 : ¬ 1000 < L.length) (h2 : ¬ 20000 < atN L L.length) : ofE L = 0 ∧ ofP L = ofN L (L.length + 1) := by
  have : ofE L = 0 := by unfold ofE; rw [if_pos h, if_neg h1, if_neg h2]
  exact ⟨this, by unfold ofP; rw [this]; rfl⟩
theorem of_ok {L : List In} (h : ofE L = 0) : chkE L = 0 ∧ L.length ≤ 1000 ∧ atN L L.length ≤ 20000 ∧ ofP L = ofN L (L.length + 1) := by
  by_cases h0 : chkE L = 0
  · by_cases h1 : 1000 < L.length
    · have := (of_2 h0 h1).1; omega
    · by_cases h2 : 20000 < atN L L.length
      · have := (of_3 h0 h1 h2).1; omega
      · exact ⟨h0, by omega, by omega, (of_4 h0 h1 h2).2⟩
  · have := (of_1 h0).1; omega
theorem sizeV_bd {o : Int} (h : 0 ≤ kindV o) : o = 53 ∨ o = 54 ∨ (1 ≤ sizeV o ∧ sizeV o ≤ 9) := by
  rcases kind_bd o with k | k | k | k | k | k | k | k | k
  · omega
  · right; right; unfold sizeV; rw [k]; simp
  · right; right; unfold sizeV; rw [k]; simp
  · right; right; unfold sizeV; rw [k]; simp
  · right; right; unfold sizeV; rw [k]; simp
  · right; right; unfold sizeV; rw [k]; simp
  · right; right; unfold sizeV; rw [k]; simp
  · exact Or.inl (kind6.1 k)
  · exact Or.inr (Or.inl (kind7.1 k))
/-- a valid instruction has a small size -/
theorem szV_bd {i : In} (h : ciE i = 0) : 1 ≤ szV i ∧ szV i ≤ 400 ∧ (i.op = 53 → i.tn ≤ 64) ∧ (i.op = 54 → i.kn ≤ 64 ∧ i.tn = i.kn) := by
  have hk : 0 ≤ kindV i.op := by
    by_cases h1 : kindV i.op < 0
    · unfold ciE at h; rw [if_pos h1] at h; omega
    · omega
  by_cases h3 : i.op = 53
  · have k6 := kind6.2 h3
    have ht : i.tn ≤ 64 := by
      unfold ciE at h
      rw [k6] at h
      simp at h
      have : tsE i = 0 := by
        split at h
        · omega
        · split at h
          · omega
          · exact h
      unfold tsE at this
      by_cases h9 : i.tn = 0 ∨ 64 < i.tn
      · rw [if_pos h9] at this; simp at this
      · omega
    exact ⟨by unfold szV; rw [if_pos h3]; omega, by unfold szV; rw [if_pos h3]; omega, fun _ => ht, fun h4 => by omega⟩
  · by_cases h4 : i.op = 54
    · have k7 := kind7.2 h4
      have ht : i.kn ≤ 64 ∧ i.tn = i.kn := by
        unfold ciE at h
        rw [k7] at h
        simp at h
        have : ksE i = 0 := by
          split at h
          · omega
          · split at h
            · omega
            · exact h
        unfold ksE at this
        by_cases h9 : 64 < i.kn ∨ i.tn ≠ i.kn
        · rw [if_pos h9] at this; simp at this
        · omega
      exact ⟨by unfold szV; rw [if_neg h3, if_pos h4]; omega, by unfold szV; rw [if_neg h3, if_pos h4]; omega, fun h => absurd h h3, fun _ => ht⟩
    · have := sizeV_bd hk
      exact ⟨by unfold szV; rw [if_neg h3, if_neg h4]; omega, by unfold szV; rw [if_neg h3, if_neg h4]; omega, fun h => absurd h h3, fun h => absurd h h4⟩
theorem atN_bd {L : List In} : ∀ k, k ≤ L.length → (∀ (j : Nat) (i : In), j < k → L[j]? = some i → ciE i = 0) → (k : Int) ≤ atN L k ∧ atN L k ≤ 400 * k
  | 0, _, _ => ⟨by simp [atN], by simp [atN]⟩
  | k + 1, hk, h => by
    have ih := atN_bd k (by omega) fun j i hj => h j i (by omega)
    have hi := List.getElem?_eq_getElem (show k < L.length by omega)
    have hb := szV_bd (h k _ (by omega) hi)
    rw [atN_succ hi]
    constructor <;> (push_cast; omega)

end Go.Proofs.YtdppooflbjlbcaaDoor.I
