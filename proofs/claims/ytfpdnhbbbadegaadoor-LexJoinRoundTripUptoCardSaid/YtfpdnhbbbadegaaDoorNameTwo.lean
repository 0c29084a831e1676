/- Contracts of the reference of layer 3: part, IsClassName; and of the last slash, in the code and in the reference. -/
import Derived.Test.YtfpdnhbbbadegaaDoorName
namespace Go.Proofs.YtfpdnhbbbadegaaDoor
open Go.ChangeShapes Go.WideShapes Go.ChangeAt Go.RowKit Go.PlainAid
set_option linter.unusedSimpArgs false
set_option linter.unusedVariables false

/-! ### the reference's class names -/
theorem drop_at (s : ByteArray) (i : Nat) (h : i < s.size) (h47 : bt s i = 47) (f : Nat) (hf : f ≤ i) (hno : ∀ j, f ≤ j → j < i → bt s j ≠ 47) :
    s.data.toList.drop f = (s.extract f i).data.toList ++ 47 :: s.data.toList.drop (i + 1) ∧ ∀ x ∈ (s.extract f i).data.toList, x ≠ 47 := by
  have hl : i < s.data.toList.length := by rw [len_data]; exact h
  have hx : s.data.toList[i] = 47 := by
    rw [bt_data, List.getD_eq_getElem?_getD, List.getElem?_eq_getElem hl] at h47
    simp only [Option.getD_some] at h47
    apply UInt8.toNat_inj.1
    have h48 : (s.data.toList[i]).toNat = 47 := by omega
    rw [h48]; rfl
  constructor
  · rw [data_extract]
    have e1 : s.data.toList.drop i = 47 :: s.data.toList.drop (i + 1) := by
      rw [List.drop_eq_getElem_cons hl, hx]
    have e2 : (s.data.toList.drop f).drop (i - f) = s.data.toList.drop i := by rw [List.drop_drop]; congr 1; omega
    rw [← e1, ← e2, List.take_append_drop]
  · intro x hx'
    rw [data_extract] at hx'
    obtain ⟨j, hj, rfl⟩ := List.getElem_of_mem hx'
    rw [List.length_take, List.length_drop] at hj
    have hj2 : f + j < s.data.toList.length := by omega
    have := hno (f + j) (by omega) (by omega)
    rw [bt_data, List.getD_eq_getElem?_getD, List.getElem?_eq_getElem hj2] at this
    simp only [Option.getD_some] at this
    rw [List.getElem_take, List.getElem_drop]
    intro hc
    rw [hc] at this
    exact this rfl
theorem drop_end (s : ByteArray) (f : Nat) (hf : f ≤ s.size) (hno : ∀ j, f ≤ j → j < s.size → bt s j ≠ 47) :
    s.data.toList.drop f = (s.extract f s.size).data.toList ∧ ∀ x ∈ (s.extract f s.size).data.toList, x ≠ 47 := by
  constructor
  · rw [data_extract, List.take_of_length_le (by rw [List.length_drop, len_data]; omega)]
  · intro x hx'
    rw [data_extract] at hx'
    obtain ⟨j, hj, rfl⟩ := List.getElem_of_mem hx'
    rw [List.length_take, List.length_drop] at hj
    have hl := len_data s
    have hj2 : f + j < s.data.toList.length := by omega
    have := hno (f + j) (by omega) (by omega)
    rw [bt_data, List.getD_eq_getElem?_getD, List.getElem?_eq_getElem hj2] at this
    simp only [Option.getD_some] at this
    rw [List.getElem_take, List.getElem_drop]
    intro hc
    rw [hc] at this
    exact this rfl

end Go.Proofs.YtfpdnhbbbadegaaDoor
