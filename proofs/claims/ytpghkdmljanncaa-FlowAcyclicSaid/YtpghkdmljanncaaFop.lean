/- Layer 19: instructions in memory, opened. -/
import Derived.Test.YtpghkdmljanncaaFl
import Derived.Deep.Slices
import Derived.Deep.Strs
import Derived.Deep.Fields
import Derived.Lib.SmallJoins
namespace Go.Proofs.Ytpghkdmljanncaa
open Go.ChangeShapes Go.WideShapes Go.ChangeAt Go.RowKit Go.Deep
set_option linter.unusedSimpArgs false
set_option linter.unusedVariables false

theorem cellsN : Try.prog.cellsOf 26 = 10 := by kernel_rfl
theorem cellsRf : Try.prog.cellsOf 24 = 3 := by kernel_rfl
theorem cellsI : Try.prog.cellsOf 3 = 1 := by kernel_rfl
theorem cellsS : Try.prog.cellsOf 9 = 1 := by kernel_rfl
theorem cellsL : Try.prog.cellsOf 22 = 1 := by kernel_rfl
theorem cell_lt {w : World} {a : Addr} {v : Value} (h : w.cell? a = some v) : a.block < w.heap.size := by
  rcases Nat.lt_or_ge a.block w.heap.size with hl | hl
  · exact hl
  · rw [World.cell?, Array.getElem?_eq_none hl] at h; simp at h
theorem list10 {α : Type} : ∀ (l : List α), l.length = 10 → ∃ a b c d e f g h i j, l = [a, b, c, d, e, f, g, h, i, j]
  | [a, b, c, d, e, f, g, h, i, j], _ => ⟨a, b, c, d, e, f, g, h, i, j, rfl⟩
theorem list8 {α : Type} : ∀ (l : List α), l.length = 8 → ∃ a b c d e f g h, l = [a, b, c, d, e, f, g, h]
  | [a, b, c, d, e, f, g, h], _ => ⟨a, b, c, d, e, f, g, h, rfl⟩
section
variable {H : Type} {enc : TypeId × Value → H} {w : World} {base : Nat} {spare : Nat → Bool} {held : Bool}
set_option maxRecDepth 100000 in
theorem open_row {fuel : Nat} {cs : List Value} {x : DataW H × List MemPlace} (h : DataW.trod enc Try.prog w base spare held fuel 22 cs = some x) :
    ∃ (A : Option Addr) (n c : Nat) (L : List Int), cs = [.slice A n c] ∧ L.length = n ∧ n ≤ c ∧ c ≤ 9223372036854775807 ∧ Row w w.heap.size A L ∧ (A = none → c = 0) := by
  rcases open_slice1 Try.underlying22 cellsI h with ⟨rfl, _⟩ | ⟨a, len, cap, m, n, V, D, Pl, rfl, hb, hl, hm, hmm, hx, hi⟩
  · exact ⟨none, 0, 0, [], rfl, rfl, Nat.le_refl _, by omega, Or.inl rfl, fun _ => rfl⟩
  · have hlm : len ≤ m := by rw [hmm]; split <;> omega
    have key : ∀ i, i < len → ∃ z : Int, w.cell? (a.add i) = some (.int .i64 z) := by
      intro i hil
      obtain ⟨hc, ht⟩ := hi i (by omega)
      obtain ⟨z, hz, _⟩ := DataW.trod_int Try.underlying3 ht
      simp at hz
      exact ⟨z, by rw [hc, hz]⟩
    obtain ⟨f, hf⟩ : ∃ f : Nat → Int, ∀ i, i < len → w.cell? (a.add i) = some (.int .i64 (f i)) :=
      ⟨fun i => if hi : i < len then (key i hi).choose else 0, fun i hi => by
        simp only [dif_pos hi]
        exact (key i hi).choose_spec⟩
    refine ⟨some a, len, cap, (List.range len).map f, rfl, by simp, hl, by unfold maxLen at hm; exact hm, ?_, fun h => by cases h⟩
    rcases Nat.eq_zero_or_pos len with h0 | h0
    · exact Or.inl (by rw [h0]; rfl)
    · have c0 := hf 0 h0
      obtain ⟨g, o, sp⟩ := a
      have hsp : sp = none := by
        have := World.cell?_spot c0
        simpa [Addr.add] using this
      subst hsp
      refine Or.inr ⟨g, o, rfl, ?_, fun i p hp => ?_⟩
      · have := cell_lt c0
        rw [Addr.add_lit] at this
        exact this
      · rw [List.getElem?_map] at hp
        cases hr : (List.range len)[i]? with
        | none => rw [hr] at hp; cases hp
        | some j =>
          rw [hr] at hp
          have hil : i < len := by
            rcases Nat.lt_or_ge i len with h | h
            · exact h
            · rw [List.getElem?_eq_none (by simpa using h)] at hr; cases hr
          have hj : j = i := by rw [List.getElem?_range hil] at hr; injection hr with hr; exact hr.symm
          subst hj
          injection hp with hp
          subst hp
          have e0 := hf j hil
          rw [Addr.add_lit] at e0
          exact e0
set_option maxRecDepth 100000 in
theorem open_in {fuel : Nat} {cs : List Value} {x : DataW H × List MemPlace} (h : DataW.trod enc Try.prog w base spare held fuel 26 cs = some x) :
    ∃ i : In, cs = icells i ∧ i.ok w w.heap.size ∧ i.nz := by
  obtain ⟨xs, n, _, _, hl, hxl, hg⟩ := DataW.trod_struct Try.underlying26 h
  have h0 := hg 0 _ rfl
  have h1 := hg 1 _ rfl
  have h2 := hg 2 _ rfl
  have h3 := hg 3 _ rfl
  have h4 := hg 4 _ rfl
  have h5 := hg 5 _ rfl
  have h6 := hg 6 _ rfl
  have h7 := hg 7 _ rfl
  rw [cellsN] at hl
  obtain ⟨v0, v1, v2, v3, v4, v5, v6, v7, v8, v9, rfl⟩ := list10 cs hl
  obtain ⟨y0, y1, y2, y3, y4, y5, y6, y7, rfl⟩ := list8 xs hxl
  change DataW.trod enc Try.prog w base spare held n 3 (List.take (Try.prog.cellsOf 3) [v0, v1, v2, v3, v4, v5, v6, v7, v8, v9]) = some y0 at h0
  change DataW.trod enc Try.prog w base spare held n 3 (List.take (Try.prog.cellsOf 3) [v1, v2, v3, v4, v5, v6, v7, v8, v9]) = some y1 at h1
  change DataW.trod enc Try.prog w base spare held n 3 (List.take (Try.prog.cellsOf 3) [v2, v3, v4, v5, v6, v7, v8, v9]) = some y2 at h2
  change DataW.trod enc Try.prog w base spare held n 3 (List.take (Try.prog.cellsOf 3) [v3, v4, v5, v6, v7, v8, v9]) = some y3 at h3
  change DataW.trod enc Try.prog w base spare held n 22 (List.take (Try.prog.cellsOf 22) [v4, v5, v6, v7, v8, v9]) = some y4 at h4
  change DataW.trod enc Try.prog w base spare held n 22 (List.take (Try.prog.cellsOf 22) [v5, v6, v7, v8, v9]) = some y5 at h5
  change DataW.trod enc Try.prog w base spare held n 24 (List.take (Try.prog.cellsOf 24) [v6, v7, v8, v9]) = some y6 at h6
  change DataW.trod enc Try.prog w base spare held n 9 (List.take (Try.prog.cellsOf 9) [v9]) = some y7 at h7
  rw [cellsI] at h0 h1 h2 h3
  rw [cellsL] at h4 h5
  rw [cellsRf] at h6
  rw [cellsS] at h7
  obtain ⟨a0, e0, _, _⟩ := DataW.trod_int Try.underlying3 h0
  obtain ⟨a1, e1, _, _⟩ := DataW.trod_int Try.underlying3 h1
  obtain ⟨a2, e2, _, _⟩ := DataW.trod_int Try.underlying3 h2
  obtain ⟨a3, e3, _, _⟩ := DataW.trod_int Try.underlying3 h3
  obtain ⟨A4, n4, c4, L4, e4, l4, k4, m4, r4, z4⟩ := open_row h4
  obtain ⟨A5, n5, c5, L5, e5, l5, k5, m5, r5, z5⟩ := open_row h5
  obtain ⟨u0, u1, u2, n6, _, _, g0, g1, g2⟩ := trod_struct3 Try.underlying24 h6
  simp only [cellsS] at g0 g1 g2
  obtain ⟨s0, f0, _, _⟩ := DataW.trod_string Try.underlying9 g0
  obtain ⟨s1, f1, _, _⟩ := DataW.trod_string Try.underlying9 g1
  obtain ⟨s2, f2, _, _⟩ := DataW.trod_string Try.underlying9 g2
  obtain ⟨s3, f3, _, _⟩ := DataW.trod_string Try.underlying9 h7
  simp at e0 e1 e2 e3 e4 e5 f0 f1 f2 f3
  subst e0 e1 e2 e3 e4 e5 f0 f1 f2 f3
  exact ⟨⟨a0, a1, a2, a3, A4, n4, c4, L4, A5, n5, c5, L5, s0, s1, s2, s3⟩, rfl, ⟨l4, k4, m4, r4, l5, k5, m5, r5⟩, z4, z5⟩
set_option maxRecDepth 100000 in
theorem open_ins {fuel : Nat} {cs : List Value} {x : DataW H × List MemPlace} (h : DataW.trod enc Try.prog w base spare held fuel 28 cs = some x) :
    ∃ (A : Option Addr) (n c : Nat) (L : List In), cs = [.slice A n c] ∧ L.length = n ∧ n ≤ c ∧ Ins w w.heap.size A L ∧ ∀ i ∈ L, i.nz := by
  rcases open_slice Try.underlying28 h with ⟨rfl, _⟩ | ⟨a, len, cap, m, n, D, Pl, rfl, hb, hl, hm, hmm, hx, hi⟩
  · exact ⟨none, 0, 0, [], rfl, rfl, Nat.le_refl _, Or.inl rfl, fun p hp => by cases hp⟩
  · have hlm : len ≤ m := by rw [hmm]; split <;> omega
    have key : ∀ i, i < len → ∃ p : In, (∀ j v, (icells p)[j]? = some v → w.cell? (a.add (i * 10 + j)) = some v) ∧ p.ok w w.heap.size ∧ p.nz := by
      intro i hil
      obtain ⟨cs', hc, ht⟩ := hi i (by omega)
      rw [cellsN] at hc
      obtain ⟨p, rfl, hp, hz⟩ := open_in ht
      obtain ⟨_, _, hat⟩ := World.cells?_some hc
      refine ⟨p, fun j v hv => ?_, hp, hz⟩
      have hj : j < 10 := by
        rcases Nat.lt_or_ge j 10 with h | h
        · exact h
        · rw [List.getElem?_eq_none (by simpa [icells] using h)] at hv; cases hv
      have := hat j (by simpa using hj)
      rw [add_add] at this
      rw [this, hv]
    obtain ⟨f, hf⟩ : ∃ f : Nat → In, ∀ i, i < len → (∀ j v, (icells (f i))[j]? = some v → w.cell? (a.add (i * 10 + j)) = some v) ∧ (f i).ok w w.heap.size ∧ (f i).nz :=
      ⟨fun i => if hi : i < len then (key i hi).choose else ⟨0, 0, 0, 0, none, 0, 0, [], none, 0, 0, [], ⟨#[]⟩, ⟨#[]⟩, ⟨#[]⟩, ⟨#[]⟩⟩, fun i hi => by
        simp only [dif_pos hi]
        exact (key i hi).choose_spec⟩
    refine ⟨some a, len, cap, (List.range len).map f, rfl, by simp, hl, ?_, ?_⟩
    · rcases Nat.eq_zero_or_pos len with h0 | h0
      · exact Or.inl (by rw [h0]; rfl)
      · have c0 := (hf 0 h0).1 0 _ rfl
        obtain ⟨g, o, sp⟩ := a
        have hsp : sp = none := by
          have := World.cell?_spot c0
          simpa [Addr.add] using this
        subst hsp
        refine Or.inr ⟨g, o, rfl, ?_, fun i p hp => ?_⟩
        · have := cell_lt c0
          rw [Addr.add_lit] at this
          exact this
        · rw [List.getElem?_map] at hp
          cases hr : (List.range len)[i]? with
          | none => rw [hr] at hp; cases hp
          | some j =>
            rw [hr] at hp
            have hil : i < len := by
              rcases Nat.lt_or_ge i len with h | h
              · exact h
              · rw [List.getElem?_eq_none (by simpa using h)] at hr; cases hr
            have hj : j = i := by rw [List.getElem?_range hil] at hr; injection hr with hr; exact hr.symm
            subst hj
            injection hp with hp
            subst hp
            obtain ⟨e, ok, _⟩ := hf j hil
            have at' : ∀ q v, (icells (f j))[q]? = some v → w.cell? ⟨g, o + j * 10 + q, none⟩ = some v := by
              intro q v hv
              have := e q v hv
              rw [Addr.add_lit] at this
              rw [show o + j * 10 + q = o + (j * 10 + q) by omega]
              exact this
            exact ⟨ok, at' 0 _ rfl, at' 1 _ rfl, at' 2 _ rfl, at' 3 _ rfl, at' 4 _ rfl, at' 5 _ rfl, at' 6 _ rfl, at' 7 _ rfl, at' 8 _ rfl, at' 9 _ rfl⟩
    · intro p hp
      rw [List.mem_map] at hp
      obtain ⟨j, hj, rfl⟩ := hp
      exact (hf j (List.mem_range.1 hj)).2.2
set_option maxRecDepth 100000 in
theorem open_ins_of {r : Reach} {b0 : Nat} {v : Value} {d : DataW H} {q : List MemPlace} (hv : Value.okWide Try.prog w r b0 28 v) (h : DataW.Trod enc Try.prog w base spare held 28 v d q) :
    ∃ (A : Option Addr) (n c : Nat) (L : List In), v = .slice A n c ∧ L.length = n ∧ n ≤ c ∧ Ins w w.heap.size A L ∧ ∀ i ∈ L, i.nz := by
  obtain ⟨a, len, cap, rfl⟩ := okWide_slice Try.underlying28 hv
  obtain ⟨fuel, hf⟩ := h
  obtain ⟨A, n, c, L, e, hn, hc, ht, hs⟩ := open_ins hf
  have e' : (.slice a len cap : Value) = .slice A n c := by simpa [Value.cells] using e
  exact ⟨A, n, c, L, e', hn, hc, ht, hs⟩
set_option maxRecDepth 100000 in
theorem open_in_of {r : Reach} {b0 : Nat} {v : Value} {d : DataW H} {q : List MemPlace} (hv : Value.okWide Try.prog w r b0 26 v) (h : DataW.Trod enc Try.prog w base spare held 26 v d q) :
    ∃ i : In, v = (Value.agg #[Value.int IntKind.i64 (In.op i), Value.int IntKind.i64 (In.a i), Value.int IntKind.i64 (In.b i), Value.int IntKind.i64 (In.t i), Value.slice (In.kA i) (In.kn i) (In.kc i), Value.slice (In.tA i) (In.tn i) (In.tc i), Value.string (In.r1 i), Value.string (In.r2 i), Value.string (In.r3 i), Value.string (In.s i)]) ∧ i.ok w w.heap.size ∧ i.nz := by
  obtain ⟨cs, rfl, hsz⟩ := okWide_struct Try.underlying26 hv
  obtain ⟨fuel, hf⟩ := h
  obtain ⟨p, e, hp, hz⟩ := open_in hf
  refine ⟨p, ?_, hp, hz⟩
  have e' : cs.toList = icells p := by simpa [Value.cells] using e
  have : cs = (icells p).toArray := by rw [← e']
  rw [this]; rfl
end

end Go.Proofs.Ytpghkdmljanncaa
