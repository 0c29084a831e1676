/- Layer 4: arguments that hold types in memory, opened. -/
import Derived.Test.YtfafmanjgillcaaDoorDescSig
import Derived.Deep.Slices
import Derived.Deep.Strs
import Derived.Deep.Fields
import Derived.Lib.SmallJoins
namespace Go.Proofs.YtfafmanjgillcaaDoor
open Go.ChangeShapes Go.WideShapes Go.ChangeAt Go.RowKit Go.Deep
set_option linter.unusedSimpArgs false
set_option linter.unusedVariables false

theorem cellsTy : Tryd.prog.cellsOf 30 = 3 := by kernel_rfl
theorem cellsSig : Tryd.prog.cellsOf 41 = 4 := by kernel_rfl
theorem cellsTys : Tryd.prog.cellsOf 39 = 1 := by kernel_rfl
theorem cellsInt : Tryd.prog.cellsOf 3 = 1 := by kernel_rfl
theorem cellsU8 : Tryd.prog.cellsOf 5 = 1 := by kernel_rfl
theorem cellsStr : Tryd.prog.cellsOf 9 = 1 := by kernel_rfl
theorem cell_lt {w : World} {a : Addr} {v : Value} (h : w.cell? a = some v) : a.block < w.heap.size := by
  rcases Nat.lt_or_ge a.block w.heap.size with hl | hl
  · exact hl
  · rw [World.cell?, Array.getElem?_eq_none hl] at h; simp at h

section
variable {H : Type} {enc : TypeId × Value → H} {w : World} {base : Nat} {spare : Nat → Bool} {held : Bool}
theorem open_ty {fuel : Nat} {cs : List Value} {x : DataW H × List MemPlace} (h : DataW.trod enc Tryd.prog w base spare held fuel 30 cs = some x) :
    ∃ p : Ty, cs = tyCells p ∧ p.2.2.size ≤ 9223372036854775807 := by
  obtain ⟨y0, y1, y2, n, hx, hl, h0, h1, h2⟩ := trod_struct3 Tryd.underlying30 h
  rw [cellsTy] at hl
  match cs, hl with
  | [v0, v1, v2], _ =>
    simp only [cellsInt] at h0
    simp only [cellsU8] at h1
    simp only [cellsStr] at h2
    obtain ⟨a, e0, _, _⟩ := DataW.trod_int Tryd.underlying3 h0
    obtain ⟨b, e1, _, _⟩ := DataW.trod_int Tryd.underlying5 h1
    obtain ⟨s, e2, _, hs⟩ := DataW.trod_string Tryd.underlying9 h2
    simp at e0 e1 e2
    subst e0 e1 e2
    exact ⟨(a, b, s), rfl, by unfold maxLen at hs; exact hs⟩
theorem open_tys {fuel : Nat} {cs : List Value} {x : DataW H × List MemPlace} (h : DataW.trod enc Tryd.prog w base spare held fuel 39 cs = some x) :
    ∃ (A : Option Addr) (n c : Nat) (ps : List Ty), cs = [.slice A n c] ∧ ps.length = n ∧ Tys w w.heap.size A ps ∧ ∀ p ∈ ps, p.2.2.size ≤ 9223372036854775807 := by
  rcases open_slice Tryd.underlying39 h with ⟨rfl, _⟩ | ⟨a, len, cap, m, n, D, Pl, rfl, hb, hl, hm, hmm, hx, hi⟩
  · exact ⟨none, 0, 0, [], rfl, rfl, Or.inl rfl, fun p hp => by cases hp⟩
  · have hlm : len ≤ m := by rw [hmm]; split <;> omega
    have key : ∀ i, i < len → ∃ p : Ty, (w.cell? (a.add (i * 3)) = some (.int .i64 p.1) ∧ w.cell? (a.add (i * 3 + 1)) = some (.int .u8 p.2.1) ∧ w.cell? (a.add (i * 3 + 2)) = some (.string p.2.2)) ∧ p.2.2.size ≤ 9223372036854775807 := by
      intro i hil
      obtain ⟨cs', hc, ht⟩ := hi i (by omega)
      rw [cellsTy] at hc
      obtain ⟨p, rfl, hp⟩ := open_ty ht
      obtain ⟨_, _, hat⟩ := World.cells?_some hc
      refine ⟨p, ⟨?_, ?_, ?_⟩, hp⟩
      · have := hat 0 (by decide); rwa [add_add] at this
      · have := hat 1 (by decide); rwa [add_add] at this
      · have := hat 2 (by decide); rwa [add_add] at this
    obtain ⟨f, hf⟩ : ∃ f : Nat → Ty, ∀ i, i < len → (w.cell? (a.add (i * 3)) = some (.int .i64 (f i).1) ∧ w.cell? (a.add (i * 3 + 1)) = some (.int .u8 (f i).2.1) ∧ w.cell? (a.add (i * 3 + 2)) = some (.string (f i).2.2)) ∧ (f i).2.2.size ≤ 9223372036854775807 :=
      ⟨fun i => if hi : i < len then (key i hi).choose else (0, 0, ⟨#[]⟩), fun i hi => by
        simp only [dif_pos hi]
        exact (key i hi).choose_spec⟩
    refine ⟨some a, len, cap, (List.range len).map f, rfl, by simp, ?_, ?_⟩
    · rcases Nat.eq_zero_or_pos len with h0 | h0
      · exact Or.inl (by rw [h0]; rfl)
      · have c0 := (hf 0 h0).1.1
        obtain ⟨g, o, sp⟩ := a
        have hsp : sp = none := by
          have := World.cell?_spot c0
          simpa [Addr.add] using this
        subst hsp
        refine Or.inr ⟨g, o, rfl, ?_, fun i p hp => ?_⟩
        · have := cell_lt c0
          rw [Addr.add_lit] at this
          exact this
        · rw [List.getElem?_map] at hp
          cases hr : (List.range len)[i]? with
          | none => rw [hr] at hp; cases hp
          | some j =>
            rw [hr] at hp
            have hil : i < len := by
              rcases Nat.lt_or_ge i len with h | h
              · exact h
              · rw [List.getElem?_eq_none (by simpa using h)] at hr; cases hr
            have hj : j = i := by rw [List.getElem?_range hil] at hr; injection hr with hr; exact hr.symm
            subst hj
            injection hp with hp
            subst hp
            obtain ⟨⟨e0, e1, e2⟩, _⟩ := hf j hil
            rw [Addr.add_lit] at e0 e1 e2
            exact ⟨e0, e1, e2⟩
    · intro p hp
      rw [List.mem_map] at hp
      obtain ⟨j, hj, rfl⟩ := hp
      exact (hf j (List.mem_range.1 hj)).2
theorem open_sig {r : Reach} {b0 : Nat} {v : Value} {d : DataW H} {q : List MemPlace} (hv : Value.okWide Tryd.prog w r b0 41 v) (h : DataW.Trod enc Tryd.prog w base spare held 41 v d q) :
    ∃ (A : Option Addr) (n c : Nat) (ps : List Ty) (d0 b1 : Int) (m : ByteArray), v = .agg #[.slice A n c, .int .i64 d0, .int .u8 b1, .string m] ∧ ps.length = n ∧ Tys w w.heap.size A ps ∧ (∀ p ∈ ps, p.2.2.size ≤ 9223372036854775807) ∧ m.size ≤ 9223372036854775807 := by
  obtain ⟨cs, rfl, hsz⟩ := okWide_struct Tryd.underlying41 hv
  obtain ⟨fuel, hf⟩ := h
  obtain ⟨xs, n, _, _, _, hxl, hg⟩ := DataW.trod_struct Tryd.underlying41 hf
  have h0 := hg 0 _ rfl
  have h1 := hg 1 _ rfl
  obtain ⟨l⟩ := cs
  match l, hsz.trans cellsSig with
  | [v0, v1, v2, v3], _ =>
    change DataW.trod enc Tryd.prog w base spare held n 39 (List.take (Tryd.prog.cellsOf 39) [v0, v1, v2, v3]) = xs[0]? at h0
    change DataW.trod enc Tryd.prog w base spare held n 30 (List.take (Tryd.prog.cellsOf 30) [v1, v2, v3]) = xs[1]? at h1
    rw [cellsTys] at h0
    rw [cellsTy] at h1
    cases hx0 : xs[0]? with
    | none => exact absurd (List.getElem?_eq_none_iff.1 hx0) (by rw [hxl]; decide)
    | some y0 =>
      rw [hx0] at h0
      obtain ⟨A, n, c, ps, e, hn, ht, hs⟩ := open_tys (x := y0) (cs := [v0]) h0
      cases hx1 : xs[1]? with
      | none => exact absurd (List.getElem?_eq_none_iff.1 hx1) (by rw [hxl]; decide)
      | some y1 =>
        rw [hx1] at h1
        obtain ⟨p, e1, hp⟩ := open_ty (x := y1) (cs := [v1, v2, v3]) h1
        unfold tyCells at e1
        simp at e e1
        obtain ⟨rfl, rfl, rfl⟩ := e1
        subst e
        exact ⟨A, n, c, ps, p.1, p.2.1, p.2.2, rfl, hn, ht, hs, hp⟩
theorem open_tys_of {r : Reach} {b0 : Nat} {v : Value} {d : DataW H} {q : List MemPlace} (hv : Value.okWide Tryd.prog w r b0 39 v) (h : DataW.Trod enc Tryd.prog w base spare held 39 v d q) :
    ∃ (A : Option Addr) (n c : Nat) (ps : List Ty), v = .slice A n c ∧ ps.length = n ∧ Tys w w.heap.size A ps ∧ ∀ p ∈ ps, p.2.2.size ≤ 9223372036854775807 := by
  obtain ⟨a, len, cap, rfl⟩ := okWide_slice Tryd.underlying39 hv
  obtain ⟨fuel, hf⟩ := h
  obtain ⟨A, n, c, ps, e, hn, ht, hs⟩ := open_tys hf
  have e' : (.slice a len cap : Value) = .slice A n c := by simpa [Value.cells] using e
  exact ⟨A, n, c, ps, e', hn, ht, hs⟩
end

end Go.Proofs.YtfafmanjgillcaaDoor
