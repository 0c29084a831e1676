/- Arguments that are rows of structs, opened: generic. -/
import Derived.Test.YtfpdnhbbbadegaaGreatDoorYr
import Derived.Deep.Slices
import Derived.Deep.Strs
import Derived.Deep.Fields
import Derived.Lib.SmallJoins
namespace Go.Proofs.YtfpdnhbbbadegaaGreatDoor
open Go.ChangeShapes Go.WideShapes Go.ChangeAt Go.RowKit Go.Deep
set_option linter.unusedSimpArgs false
set_option linter.unusedVariables false

theorem cell_ltZ {w : World} {a : Addr} {v : Value} (h : w.cell? a = some v) : a.block < w.heap.size := by
  rcases Nat.lt_or_ge a.block w.heap.size with hl | hl
  · exact hl
  · rw [World.cell?, Array.getElem?_eq_none hl] at h; simp at h
section
variable {H : Type} {enc : TypeId × Value → H} {w : World} {base : Nat} {spare : Nat → Bool} {held : Bool}
set_option maxRecDepth 100000 in
theorem open_rows {α : Type} {P : Program} {F : α → List Value} {z : Nat} {e sl : TypeId} (G : α → DataW H → Prop) (hz : ∀ x, (F x).length = z) (h0 : 0 < z) (hsl : P.underlying sl = some (.slice e)) (hce : P.cellsOf e = z)
    (hel : ∀ (n : Nat) (cs : List Value) (x : DataW H × List MemPlace), DataW.trod enc P w base spare held n e cs = some x → ∃ p : α, cs = F p ∧ G p x.1)
    {fuel : Nat} {cs : List Value} {x : DataW H × List MemPlace} (h : DataW.trod enc P w base spare held fuel sl cs = some x) :
    ∃ (A : Option Addr) (n c : Nat) (L : List α), cs = [.slice A n c] ∧ L.length = n ∧ n ≤ c ∧ c ≤ maxLen ∧ (A = none → c = 0) ∧ RowAt F z w A L ∧ ∀ p ∈ L, ∃ (ds sp : List (DataW H)) (d : DataW H), x.1 = .slice ds sp ∧ d ∈ ds ∧ G p d := by
  rcases open_slice hsl h with ⟨rfl, _⟩ | ⟨a, len, cap, m, n, D, Pl, rfl, hb, hl, hmx, hm, hx, hi⟩
  · exact ⟨none, 0, 0, [], rfl, rfl, Nat.le_refl _, Nat.zero_le _, fun _ => rfl, Or.inl rfl, fun p hp => by cases hp⟩
  · have hlm : len ≤ m := by rw [hm]; split <;> omega
    have key : ∀ i, i < len → ∃ p : α, (∀ (j : Nat) (v : Value), (F p)[j]? = some v → w.cell? (a.add (i * z + j)) = some v) ∧ G p (D i) := by
      intro i hil
      obtain ⟨cs', hc, ht⟩ := hi i (by omega)
      rw [hce] at hc
      obtain ⟨p, rfl, hg⟩ := hel _ _ _ ht
      obtain ⟨_, _, hat⟩ := World.cells?_some hc
      refine ⟨p, fun j v hv => ?_, hg⟩
      have hj : j < z := by
        rcases Nat.lt_or_ge j (F p).length with h | h
        · rwa [hz] at h
        · rw [List.getElem?_eq_none h] at hv; cases hv
      have := hat j hj
      rw [add_add] at this
      rw [this, hv]
    by_cases hne : len = 0
    · subst hne
      refine ⟨some a, 0, cap, [], rfl, rfl, Nat.zero_le _, hmx, (fun e => by cases e), Or.inl rfl, fun p hp => by cases hp⟩
    · have hα : Nonempty α := ⟨(key 0 (by omega)).choose⟩
      obtain ⟨f, hf⟩ : ∃ f : Nat → α, ∀ i, i < len → (∀ (j : Nat) (v : Value), (F (f i))[j]? = some v → w.cell? (a.add (i * z + j)) = some v) ∧ G (f i) (D i) :=
        ⟨fun i => if hi : i < len then (key i hi).choose else Classical.choice hα, fun i hi => by
          simp only [dif_pos hi]
          exact (key i hi).choose_spec⟩
      refine ⟨some a, len, cap, (List.range len).map f, rfl, by simp, hl, hmx, (fun e => by cases e), ?_, ?_⟩
      · have hz0 := hz (f 0)
        have c0 := (hf 0 (by omega)).1 0 ((F (f 0))[0]'(by omega)) (List.getElem?_eq_getElem _)
        obtain ⟨g, o, sp⟩ := a
        have hsp : sp = none := by
          have := World.cell?_spot c0
          simpa [Addr.add] using this
        subst hsp
        refine Or.inr ⟨g, o, rfl, ?_, fun i p hp j v hv => ?_⟩
        · have := cell_ltZ c0
          rw [Addr.add_lit] at this
          exact this
        · rw [List.getElem?_map] at hp
          cases hr : (List.range len)[i]? with
          | none => rw [hr] at hp; cases hp
          | some k =>
            rw [hr] at hp
            have hil : i < len := by
              rcases Nat.lt_or_ge i len with h | h
              · exact h
              · rw [List.getElem?_eq_none (by simpa using h)] at hr; cases hr
            have hj : k = i := by rw [List.getElem?_range hil] at hr; injection hr with hr; exact hr.symm
            subst hj
            injection hp with hp
            subst hp
            have := (hf k hil).1 j v hv
            rw [Addr.add_lit, ← Nat.add_assoc] at this
            exact this
      · intro p hp
        rw [List.mem_map] at hp
        obtain ⟨k, hk, rfl⟩ := hp
        refine ⟨_, _, D k, by rw [hx], List.mem_map.2 ⟨k, hk, rfl⟩, (hf k (List.mem_range.1 hk)).2⟩
end
end Go.Proofs.YtfpdnhbbbadegaaGreatDoor
