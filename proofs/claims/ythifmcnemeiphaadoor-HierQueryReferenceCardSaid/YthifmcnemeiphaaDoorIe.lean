/- Layer 16: hierarchies in memory, opened. -/
import Derived.Test.YthifmcnemeiphaaDoorHa
import Derived.Deep.Slices
import Derived.Deep.Strs
import Derived.Deep.Fields
import Derived.Lib.SmallJoins
namespace Go.Proofs.YthifmcnemeiphaaDoor
open Go.ChangeShapes Go.WideShapes Go.ChangeAt Go.RowKit Go.Deep
set_option linter.unusedSimpArgs false
set_option linter.unusedVariables false

theorem cellsC4 : Tryd.prog.cellsOf 30 = 4 := by kernel_rfl
theorem cellsSt : Tryd.prog.cellsOf 9 = 1 := by kernel_rfl
theorem cellsSl : Tryd.prog.cellsOf 28 = 1 := by kernel_rfl
theorem cellsBo : Tryd.prog.cellsOf 4 = 1 := by kernel_rfl
theorem cell_lt {w : World} {a : Addr} {v : Value} (h : w.cell? a = some v) : a.block < w.heap.size := by
  rcases Nat.lt_or_ge a.block w.heap.size with hl | hl
  · exact hl
  · rw [World.cell?, Array.getElem?_eq_none hl] at h; simp at h
theorem list4' {α : Type} : ∀ (l : List α), l.length = 4 → ∃ a b c d, l = [a, b, c, d]
  | [a, b, c, d], _ => ⟨a, b, c, d, rfl⟩
def ccells (i : CI) : List Value := [.string i.nm, .string i.su, .slice i.iA i.n i.c, .bool i.isI]
section
variable {H : Type} {enc : TypeId × Value → H} {w : World} {base : Nat} {spare : Nat → Bool} {held : Bool}
set_option maxRecDepth 100000 in
theorem open_srow {fuel : Nat} {cs : List Value} {x : DataW H × List MemPlace} (h : DataW.trod enc Tryd.prog w base spare held fuel 28 cs = some x) :
    ∃ (A : Option Addr) (n c : Nat) (L : List ByteArray), cs = [.slice A n c] ∧ L.length = n ∧ n ≤ c ∧ c ≤ 9223372036854775807 ∧ SRow w w.heap.size A L ∧ (∀ s ∈ L, s.size ≤ 9223372036854775807) ∧ (A = none → c = 0) := by
  rcases open_slice1 Tryd.underlying28 cellsSt h with ⟨rfl, _⟩ | ⟨a, len, cap, m, n, V, D, Pl, rfl, hb, hl, hm, hmm, hx, hi⟩
  · exact ⟨none, 0, 0, [], rfl, rfl, Nat.le_refl _, by omega, Or.inl rfl, (fun s hs => by cases hs), fun _ => rfl⟩
  · have hlm : len ≤ m := by rw [hmm]; split <;> omega
    have key : ∀ i, i < len → ∃ z : ByteArray, w.cell? (a.add i) = some (.string z) ∧ z.size ≤ 9223372036854775807 := by
      intro i hil
      obtain ⟨hc, ht⟩ := hi i (by omega)
      obtain ⟨z, hz, _, hk⟩ := DataW.trod_string Tryd.underlying9 ht
      simp at hz
      unfold maxLen at hk
      exact ⟨z, by rw [hc, hz], hk⟩
    obtain ⟨f, hf⟩ : ∃ f : Nat → ByteArray, ∀ i, i < len → w.cell? (a.add i) = some (.string (f i)) ∧ (f i).size ≤ 9223372036854775807 :=
      ⟨fun i => if hi : i < len then (key i hi).choose else ⟨#[]⟩, fun i hi => by
        simp only [dif_pos hi]
        exact (key i hi).choose_spec⟩
    refine ⟨some a, len, cap, (List.range len).map f, rfl, by simp, hl, by unfold maxLen at hm; exact hm, ?_, ?_, fun h => by cases h⟩
    · rcases Nat.eq_zero_or_pos len with h0 | h0
      · exact Or.inl (by rw [h0]; rfl)
      · have c0 := (hf 0 h0).1
        obtain ⟨g, o, sp⟩ := a
        have hsp : sp = none := by
          have := World.cell?_spot c0
          simpa [Addr.add] using this
        subst hsp
        refine Or.inr ⟨g, o, rfl, ?_, fun i p hp => ?_⟩
        · have := cell_lt c0
          rw [Addr.add_lit] at this
          exact this
        · rw [List.getElem?_map] at hp
          cases hr : (List.range len)[i]? with
          | none => rw [hr] at hp; cases hp
          | some j =>
            rw [hr] at hp
            have hil : i < len := by
              rcases Nat.lt_or_ge i len with h | h
              · exact h
              · rw [List.getElem?_eq_none (by simpa using h)] at hr; cases hr
            have hj : j = i := by rw [List.getElem?_range hil] at hr; injection hr with hr; exact hr.symm
            subst hj
            injection hp with hp
            subst hp
            have e0 := (hf j hil).1
            rw [Addr.add_lit] at e0
            exact e0
    · intro s hs
      rw [List.mem_map] at hs
      obtain ⟨j, hj, rfl⟩ := hs
      exact (hf j (List.mem_range.1 hj)).2
set_option maxRecDepth 100000 in
theorem open_ci {fuel : Nat} {cs : List Value} {x : DataW H × List MemPlace} (h : DataW.trod enc Tryd.prog w base spare held fuel 30 cs = some x) :
    ∃ i : CI, cs = ccells i ∧ i.ok w w.heap.size := by
  obtain ⟨xs, n, _, _, hl, hxl, hg⟩ := DataW.trod_struct Tryd.underlying30 h
  have h0 := hg 0 _ rfl
  have h1 := hg 1 _ rfl
  have h2 := hg 2 _ rfl
  have h3 := hg 3 _ rfl
  rw [cellsC4] at hl
  obtain ⟨v0, v1, v2, v3, rfl⟩ := list4' cs hl
  obtain ⟨y0, y1, y2, y3, rfl⟩ := list4' xs hxl
  change DataW.trod enc Tryd.prog w base spare held n 9 (List.take (Tryd.prog.cellsOf 9) [v0, v1, v2, v3]) = some y0 at h0
  change DataW.trod enc Tryd.prog w base spare held n 9 (List.take (Tryd.prog.cellsOf 9) [v1, v2, v3]) = some y1 at h1
  change DataW.trod enc Tryd.prog w base spare held n 28 (List.take (Tryd.prog.cellsOf 28) [v2, v3]) = some y2 at h2
  change DataW.trod enc Tryd.prog w base spare held n 4 (List.take (Tryd.prog.cellsOf 4) [v3]) = some y3 at h3
  rw [cellsSt] at h0 h1
  rw [cellsSl] at h2
  rw [cellsBo] at h3
  obtain ⟨s0, e0, _, k0⟩ := DataW.trod_string Tryd.underlying9 h0
  obtain ⟨s1, e1, _, k1⟩ := DataW.trod_string Tryd.underlying9 h1
  obtain ⟨A2, n2, c2, L2, e2, l2, m2, q2, r2, t2, z2⟩ := open_srow h2
  obtain ⟨b3, e3, _⟩ := DataW.trod_bool Tryd.underlying4 h3
  simp at e0 e1 e2 e3
  subst e0 e1 e2 e3
  unfold maxLen at k0 k1
  exact ⟨⟨s0, s1, A2, n2, c2, L2, b3⟩, rfl, k0, k1, l2, m2, q2, r2, t2, z2⟩
set_option maxRecDepth 100000 in
theorem open_cis {fuel : Nat} {cs : List Value} {x : DataW H × List MemPlace} (h : DataW.trod enc Tryd.prog w base spare held fuel 22 cs = some x) :
    ∃ (A : Option Addr) (n c : Nat) (L : List CI), cs = [.slice A n c] ∧ L.length = n ∧ n ≤ c ∧ c ≤ 9223372036854775807 ∧ CIs w w.heap.size A L := by
  rcases open_slice Tryd.underlying22 h with ⟨rfl, _⟩ | ⟨a, len, cap, m, n, D, Pl, rfl, hb, hl, hm, hmm, hx, hi⟩
  · exact ⟨none, 0, 0, [], rfl, rfl, Nat.le_refl _, by omega, Or.inl rfl⟩
  · have hlm : len ≤ m := by rw [hmm]; split <;> omega
    have key : ∀ i, i < len → ∃ p : CI, (∀ j v, (ccells p)[j]? = some v → w.cell? (a.add (i * 4 + j)) = some v) ∧ p.ok w w.heap.size := by
      intro i hil
      obtain ⟨cs', hc, ht⟩ := hi i (by omega)
      rw [cellsC4] at hc
      obtain ⟨p, rfl, hp⟩ := open_ci ht
      obtain ⟨_, _, hat⟩ := World.cells?_some hc
      refine ⟨p, fun j v hv => ?_, hp⟩
      have hj : j < 4 := by
        rcases Nat.lt_or_ge j 4 with h | h
        · exact h
        · rw [List.getElem?_eq_none (by simpa [ccells] using h)] at hv; cases hv
      have := hat j (by simpa using hj)
      rw [add_add] at this
      rw [this, hv]
    obtain ⟨f, hf⟩ : ∃ f : Nat → CI, ∀ i, i < len → (∀ j v, (ccells (f i))[j]? = some v → w.cell? (a.add (i * 4 + j)) = some v) ∧ (f i).ok w w.heap.size :=
      ⟨fun i => if hi : i < len then (key i hi).choose else ⟨⟨#[]⟩, ⟨#[]⟩, none, 0, 0, [], false⟩, fun i hi => by
        simp only [dif_pos hi]
        exact (key i hi).choose_spec⟩
    refine ⟨some a, len, cap, (List.range len).map f, rfl, by simp, hl, by unfold maxLen at hm; exact hm, ?_⟩
    · rcases Nat.eq_zero_or_pos len with h0 | h0
      · exact Or.inl (by rw [h0]; rfl)
      · have c0 := (hf 0 h0).1 0 _ rfl
        obtain ⟨g, o, sp⟩ := a
        have hsp : sp = none := by
          have := World.cell?_spot c0
          simpa [Addr.add] using this
        subst hsp
        refine Or.inr ⟨g, o, rfl, ?_, fun i p hp => ?_⟩
        · have := cell_lt c0
          rw [Addr.add_lit] at this
          exact this
        · rw [List.getElem?_map] at hp
          cases hr : (List.range len)[i]? with
          | none => rw [hr] at hp; cases hp
          | some j =>
            rw [hr] at hp
            have hil : i < len := by
              rcases Nat.lt_or_ge i len with h | h
              · exact h
              · rw [List.getElem?_eq_none (by simpa using h)] at hr; cases hr
            have hj : j = i := by rw [List.getElem?_range hil] at hr; injection hr with hr; exact hr.symm
            subst hj
            injection hp with hp
            subst hp
            obtain ⟨e, ok⟩ := hf j hil
            have at' : ∀ q v, (ccells (f j))[q]? = some v → w.cell? ⟨g, o + j * 4 + q, none⟩ = some v := by
              intro q v hv
              have := e q v hv
              rw [Addr.add_lit] at this
              rw [show o + j * 4 + q = o + (j * 4 + q) by omega]
              exact this
            exact ⟨ok, at' 0 _ rfl, at' 1 _ rfl, at' 2 _ rfl, at' 3 _ rfl⟩
set_option maxRecDepth 100000 in
theorem open_cis_of {r : Reach} {b0 : Nat} {v : Value} {d : DataW H} {q : List MemPlace} (hv : Value.okWide Tryd.prog w r b0 22 v) (h : DataW.Trod enc Tryd.prog w base spare held 22 v d q) :
    ∃ (A : Option Addr) (n c : Nat) (L : List CI), v = .slice A n c ∧ L.length = n ∧ n ≤ c ∧ c ≤ 9223372036854775807 ∧ CIs w w.heap.size A L := by
  obtain ⟨a, len, cap, rfl⟩ := okWide_slice Tryd.underlying22 hv
  obtain ⟨fuel, hf⟩ := h
  obtain ⟨A, n, c, L, e, hn, hc, ht, hs⟩ := open_cis hf
  have e' : (.slice a len cap : Value) = .slice A n c := by simpa [Value.cells] using e
  exact ⟨A, n, c, L, e', hn, hc, ht, hs⟩
end

end Go.Proofs.YthifmcnemeiphaaDoor
