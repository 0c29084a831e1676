/- Layer 16: classes of a hierarchy in memory; where a name is found first. -/
import Derived.Test.YthifmcnemeiphaaDoorBase
import Derived.Shelf.Abstract
namespace Go.Proofs.YthifmcnemeiphaaDoor
open Go.ChangeShapes Go.WideShapes Go.ChangeAt Go.RowKit Go.PlainAid
set_option linter.unusedSimpArgs false
set_option linter.unusedVariables false

/-- the strings of a slice, at their places: below block B -/
def SRow (w : World) (B : Nat) (A : Option Addr) (L : List ByteArray) : Prop :=
  L = [] ∨ ∃ g o, A = some ⟨g, o, none⟩ ∧ g < B ∧ ∀ (k : Nat) (x : ByteArray), L[k]? = some x → w.cell? ⟨g, o + k, none⟩ = some (.string x)
theorem SRow.below {w w' : World} {B : Nat} {A : Option Addr} {L : List ByteArray} (h : SRow w B A L) (hb : Below B w w') : SRow w' B A L := by
  rcases h with h | ⟨g, o, hA, hg, hc⟩
  · exact Or.inl h
  · exact Or.inr ⟨g, o, hA, hg, fun i p hi => (hb.cell (p := ⟨g, _, none⟩) hg).trans (hc i p hi)⟩
theorem SRow.more {w : World} {B B' : Nat} {A : Option Addr} {L : List ByteArray} (h : SRow w B A L) (hB : B ≤ B') : SRow w B' A L := by
  rcases h with h | ⟨g, o, hA, hg, hc⟩
  · exact Or.inl h
  · exact Or.inr ⟨g, o, hA, by omega, hc⟩
theorem SRow.up {w w' : World} {A : Option Addr} {L : List ByteArray} (h : SRow w w.heap.size A L) (hb : Below w.heap.size w w') : SRow w' w'.heap.size A L := (h.below hb).more hb.size
theorem SRow.at {w : World} {B : Nat} {A : Option Addr} {L : List ByteArray} (h : SRow w B A L) (hl : 0 < L.length) : ∃ g o, A = some ⟨g, o, none⟩ ∧ g < B ∧ ∀ k (hk : k < L.length), w.cell? ⟨g, o + k, none⟩ = some (.string L[k]) := by
  rcases h with h | ⟨g, o, hA, hg, hc⟩
  · rw [h] at hl; exact absurd hl (Nat.lt_irrefl 0)
  · exact ⟨g, o, hA, hg, fun k hk => hc k _ (List.getElem?_eq_getElem hk)⟩

structure CI where
  nm : ByteArray
  su : ByteArray
  iA : Option Addr
  n : Nat
  c : Nat
  fs : List ByteArray
  isI : Bool
/-- the entry's strings and its list in memory -/
def CI.ok (w : World) (B : Nat) (i : CI) : Prop := i.nm.size ≤ 9223372036854775807 ∧ i.su.size ≤ 9223372036854775807 ∧ i.fs.length = i.n ∧ i.n ≤ i.c ∧ i.c ≤ 9223372036854775807 ∧ SRow w B i.iA i.fs ∧ (∀ s ∈ i.fs, s.size ≤ 9223372036854775807) ∧ (i.iA = none → i.c = 0)
theorem CI.ok.below {w w' : World} {B : Nat} {i : CI} (h : i.ok w B) (hb : Below B w w') : i.ok w' B := ⟨h.1, h.2.1, h.2.2.1, h.2.2.2.1, h.2.2.2.2.1, h.2.2.2.2.2.1.below hb, h.2.2.2.2.2.2⟩
theorem CI.ok.more {w : World} {B B' : Nat} {i : CI} (h : i.ok w B) (hB : B ≤ B') : i.ok w B' := ⟨h.1, h.2.1, h.2.2.1, h.2.2.2.1, h.2.2.2.2.1, h.2.2.2.2.2.1.more hB, h.2.2.2.2.2.2⟩
theorem CI.ok.up {w w' : World} {i : CI} (h : i.ok w w.heap.size) (hb : Below w.heap.size w w') : i.ok w' w'.heap.size := (h.below hb).more hb.size
/-- the entries of a slice, at their places: below block B -/
def CIs (w : World) (B : Nat) (A : Option Addr) (L : List CI) : Prop :=
  L = [] ∨ ∃ g o, A = some ⟨g, o, none⟩ ∧ g < B ∧ ∀ (k : Nat) (i : CI), L[k]? = some i → i.ok w B ∧ w.cell? ⟨g, o + k * 4, none⟩ = some (.string i.nm) ∧ w.cell? ⟨g, o + k * 4 + 1, none⟩ = some (.string i.su) ∧ w.cell? ⟨g, o + k * 4 + 2, none⟩ = some (.slice i.iA i.n i.c) ∧ w.cell? ⟨g, o + k * 4 + 3, none⟩ = some (.bool i.isI)
theorem CIs.below {w w' : World} {B : Nat} {A : Option Addr} {L : List CI} (h : CIs w B A L) (hb : Below B w w') : CIs w' B A L := by
  rcases h with h | ⟨g, o, hA, hg, hc⟩
  · exact Or.inl h
  · refine Or.inr ⟨g, o, hA, hg, fun i p hi => ?_⟩
    obtain ⟨z, c0, c1, c2, c3⟩ := hc i p hi
    have e := fun k => hb.cell (p := ⟨g, k, none⟩) hg
    exact ⟨z.below hb, (e _).trans c0, (e _).trans c1, (e _).trans c2, (e _).trans c3⟩
theorem CIs.more {w : World} {B B' : Nat} {A : Option Addr} {L : List CI} (h : CIs w B A L) (hB : B ≤ B') : CIs w B' A L := by
  rcases h with h | ⟨g, o, hA, hg, hc⟩
  · exact Or.inl h
  · exact Or.inr ⟨g, o, hA, by omega, fun i p hi => ⟨(hc i p hi).1.more hB, (hc i p hi).2⟩⟩
theorem CIs.up {w w' : World} {A : Option Addr} {L : List CI} (h : CIs w w.heap.size A L) (hb : Below w.heap.size w w') : CIs w' w'.heap.size A L := (h.below hb).more hb.size
theorem CIs.ok {w : World} {B : Nat} {A : Option Addr} {L : List CI} (h : CIs w B A L) {i : CI} (hi : i ∈ L) : i.ok w B := by
  rcases h with h | ⟨g, o, hA, hg, hc⟩
  · rw [h] at hi; cases hi
  · obtain ⟨k, hk, rfl⟩ := List.getElem_of_mem hi
    exact (hc k _ (List.getElem?_eq_getElem hk)).1
theorem CIs.at {w : World} {B : Nat} {A : Option Addr} {L : List CI} (h : CIs w B A L) {k : Nat} (hk : k < L.length) : ∃ g o, A = some ⟨g, o, none⟩ ∧ g < B ∧ (L[k]).ok w B ∧ w.cell? ⟨g, o + k * 4, none⟩ = some (.string L[k].nm) ∧ w.cell? ⟨g, o + k * 4 + 1, none⟩ = some (.string L[k].su) ∧ w.cell? ⟨g, o + k * 4 + 2, none⟩ = some (.slice L[k].iA L[k].n L[k].c) ∧ w.cell? ⟨g, o + k * 4 + 3, none⟩ = some (.bool L[k].isI) := by
  rcases h with h | ⟨g, o, hA, hg, hc⟩
  · rw [h] at hk; exact absurd hk (Nat.not_lt_zero _)
  · exact ⟨g, o, hA, hg, hc k _ (List.getElem?_eq_getElem hk)⟩

/-- the place of the first entry with a name; the length, where there is none -/
def fnd (L : List CI) (s : ByteArray) : Nat := L.findIdx fun x => x.nm.toList == s.toList
def fB (L : List CI) (s : ByteArray) : Bool := decide (fnd L s < L.length)
def fI (L : List CI) (s : ByteArray) : Nat := if fnd L s < L.length then fnd L s else 0
theorem fnd_le (L : List CI) (s : ByteArray) : fnd L s ≤ L.length := List.findIdx_le_length
theorem fnd_at {L : List CI} {s : ByteArray} {k : Nat} (hk : k < L.length) (h1 : ∀ j (hj : j < k), ¬ (L[j]'(by omega)).nm.toList = s.toList) (h2 : L[k].nm.toList = s.toList) : fnd L s = k := by
  unfold fnd
  rw [List.findIdx_eq hk]
  exact ⟨by simpa using h2, fun j hj => by simpa using h1 j hj⟩
theorem fnd_none {L : List CI} {s : ByteArray} (h1 : ∀ j (hj : j < L.length), ¬ L[j].nm.toList = s.toList) : fnd L s = L.length := by
  unfold fnd
  rw [List.findIdx_eq_length]
  intro x hx
  obtain ⟨j, hj, rfl⟩ := List.getElem_of_mem hx
  simpa using h1 j hj
theorem fnd_nm {L : List CI} {s : ByteArray} (h : fnd L s < L.length) : L[fnd L s].nm = s := by
  have := List.findIdx_getElem (p := fun x : CI => x.nm.toList == s.toList) (xs := L) (w := h)
  exact toList_iff.1 (beq_iff_eq.1 this)
theorem fnd_min {L : List CI} {s : ByteArray} {j : Nat} (h : j < fnd L s) : ¬ (L[j]'(Nat.lt_of_lt_of_le h (fnd_le L s))).nm.toList = s.toList := by
  have := List.not_of_lt_findIdx (p := fun x : CI => x.nm.toList == s.toList) (xs := L) h
  simpa using this
theorem fnd_take {L : List CI} {s : ByteArray} {k : Nat} (hk : k < L.length) (h : fnd (L.take k) s = k) : fnd (L.take (k + 1)) s = if L[k].nm.toList = s.toList then k else k + 1 := by
  have e : L.take (k + 1) = L.take k ++ [L[k]] := by rw [List.take_succ_eq_append_getElem hk]
  have hl : (L.take k).length = k := by rw [List.length_take]; omega
  have h1 : ∀ x ∈ L.take k, (x.nm.toList == s.toList) = false := by
    have h' : List.findIdx (fun x : CI => x.nm.toList == s.toList) (L.take k) = (L.take k).length := h.trans hl.symm
    rw [List.findIdx_eq_length] at h'
    exact h'
  unfold fnd
  rw [e, List.findIdx_append, show List.findIdx (fun x : CI => x.nm.toList == s.toList) (L.take k) = k from h, hl, if_neg (by omega)]
  by_cases g : L[k].nm.toList = s.toList
  · rw [if_pos g]; simp [List.findIdx_cons, g]
  · have g' : (L[k].nm.toList == s.toList) = false := by simpa using g
    rw [if_neg g]; simp [List.findIdx_cons, g', Nat.add_comm]
theorem fnd_take_hit {L : List CI} {s : ByteArray} {k : Nat} (hk : k < L.length) (h : fnd (L.take k) s < k) : fnd (L.take (k + 1)) s = fnd (L.take k) s := by
  have e : L.take (k + 1) = L.take k ++ [L[k]] := by rw [List.take_succ_eq_append_getElem hk]
  have hl : (L.take k).length = k := by rw [List.length_take]; omega
  unfold fnd at h ⊢
  rw [e, List.findIdx_append, hl, if_pos h]
end Go.Proofs.YthifmcnemeiphaaDoor
