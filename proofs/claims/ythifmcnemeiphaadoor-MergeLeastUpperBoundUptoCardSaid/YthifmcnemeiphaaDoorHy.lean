/- Layer 16: CommonSuperclass of the package. -/
import Derived.Test.YthifmcnemeiphaaDoorHv
import Derived.Test.YthifmcnemeiphaaDoorSet
namespace Go.Proofs.YthifmcnemeiphaaDoor
open Go.ChangeShapes Go.WideShapes Go.ChangeAt Go.RowKit Go.PlainAid Go.Maps
set_option linter.unusedSimpArgs false
set_option linter.unusedVariables false

abbrev rootS : ByteArray := ⟨#[108, 97, 110, 103, 47, 79, 98, 106, 101, 99, 116]⟩
def csF (P Q : List ByteArray) : ByteArray := (P.find? fun s => hasL Q s).getD rootS
/-- the nearest common superclass -/
def csV (L : List CI) (a b : ByteArray) : ByteArray :=
  if (a.toList == b.toList) = true then a
  else if fB L a = false ∨ fB L b = false ∨ (lkC L a).isI = true ∨ (lkC L b).isI = true then rootS
  else csF (supL L a) (supL L b)
theorem hasS_L (S : List ByteArray) (s : ByteArray) : hasS S s = hasL S s := by
  unfold hasS hasL
  congr 1
  funext x
  rw [ByteArray.toList_eq, ByteArray.toList_eq]
theorem csF_hit {P Q : List ByteArray} {k : Nat} (hk : k < P.length) (h1 : ∀ j (hj : j < k), hasL Q (P[j]'(by omega)) = false) (h2 : hasL Q P[k] = true) : csF P Q = P[k] := by
  unfold csF
  have : P.find? (fun s => hasL Q s) = some P[k] := by
    rw [List.find?_eq_some_iff_append]
    refine ⟨h2, P.take k, P.drop (k + 1), ?_, ?_⟩
    · rw [List.getElem_cons_drop, List.take_append_drop]
    · intro s hs
      obtain ⟨j, hj, rfl⟩ := List.getElem_of_mem hs
      rw [List.length_take] at hj
      rw [List.getElem_take, h1 j (by omega)]
      rfl
  rw [this]; rfl
theorem csF_miss {P Q : List ByteArray} (h1 : ∀ j (hj : j < P.length), hasL Q P[j] = false) : csF P Q = rootS := by
  unfold csF
  have : P.find? (fun s => hasL Q s) = none := by
    rw [List.find?_eq_none]
    intro s hs
    obtain ⟨j, hj, rfl⟩ := List.getElem_of_mem hs
    rw [h1 j hj]
    simp
  rw [this]; rfl
theorem str_at {w : World} {base n c : Nat} {A : Option Addr} {S : List ByteArray} (h : w.ownsRow base 9 1 (.slice A n c) n (strs S)) {j : Nat} (hj : j < S.length) (hn : S.length = n) : ∃ g, A = some ⟨g, 0, none⟩ ∧ w.cell? ⟨g, j, none⟩ = some (.string S[j]) ∧ g < w.heap.size ∧ base ≤ g := by
  obtain ⟨g, cap, hv, hb, hlt⟩ := h.form (by omega)
  injection hv with hA _ hc
  subst hA hc
  refine ⟨g, rfl, ?_, hlt, hb⟩
  rw [h.cellAt j (by omega)]
  unfold strs
  rw [List.getElem?_map, List.getElem?_eq_getElem hj]; rfl
theorem SetOf.below {w w' : World} {b n : Nat} {S : List ByteArray} (h : SetOf w b n S) (hb : Below w.heap.size w w') : SetOf w' b n S := by
  have hl := h.lt
  obtain ⟨D, ⟨es, clock, h1, F, h4, h5⟩, h2, h3⟩ := h
  exact ⟨D, ⟨es, clock, (hb.block b hl).trans h1, F, h4, h5⟩, h2, h3⟩
theorem chain_size {L : List CI} {A : Option Addr} {w : World} (h : CIs w w.heap.size A L) : ∀ (k : Nat) (a : ByteArray), a.size ≤ 9223372036854775807 → ∀ s ∈ chain L k a, s.size ≤ 9223372036854775807
  | 0, _, _, s, hs => by cases hs
  | k + 1, a, ha, s, hs => by
    unfold chain at hs
    split at hs
    · rcases List.mem_cons.1 hs with rfl | hs
      · exact ha
      · exact chain_size h k _ (lkC_ok h a).2.1 s hs
    · cases hs
end Go.Proofs.YthifmcnemeiphaaDoor
