import Derived.Test.YtdppooflbjlbcaaDoorWdM
import Derived.Deep.Slices
import Derived.Deep.Strs
import Derived.Deep.Fields
import Derived.Lib.SmallJoins
import Derived.SizedLaws

/- Wo -/
/- Layer 22: code and lists of stack maps as parameters hand them over, opened. (Written by gen/wo.py.) -/
namespace Go.Proofs.YtdppooflbjlbcaaDoor.I
open Go.ChangeShapes Go.WideShapes Go.ChangeAt Go.RowKit Go.Deep
set_option linter.unusedSimpArgs false
set_option linter.unusedVariables false

theorem bytesI : Tryd.prog.bytesOf 3 = 8 := by kernel_rfl
/-- k numbers weigh no more than some weight of the datum -/
def Wt {H : Type} (t : TypeId) (d : DataW H) (k : Nat) : Prop := k = 0 ∨ ∃ q ∈ d.weights Tryd.prog t, k * 8 ≤ q
theorem wts_all9 {H : Type} {P : Program} {e : TypeId} {d : DataW H} {l : List (DataW H)} {n : Nat} (h : d ∈ l) (hn : n ∈ d.weights P e) : n ∈ DataW.weightsAll P e l := by
  induction l with
  | nil => cases h
  | cons x r ih =>
    simp only [DataW.weightsAll, List.mem_append]
    cases List.mem_cons.1 h with
    | inl e => subst e; exact Or.inl hn
    | inr e => exact Or.inr (ih e)
theorem cellsN : Tryd.prog.cellsOf 43 = 10 := by kernel_rfl
theorem cellsRf : Tryd.prog.cellsOf 41 = 3 := by kernel_rfl
theorem cellsI : Tryd.prog.cellsOf 3 = 1 := by kernel_rfl
theorem cellsS : Tryd.prog.cellsOf 9 = 1 := by kernel_rfl
theorem cellsL : Tryd.prog.cellsOf 32 = 1 := by kernel_rfl
theorem cell_lt {w : World} {a : Addr} {v : Value} (h : w.cell? a = some v) : a.block < w.heap.size := by
  rcases Nat.lt_or_ge a.block w.heap.size with hl | hl
  · exact hl
  · rw [World.cell?, Array.getElem?_eq_none hl] at h; simp at h
theorem list10 {α : Type} : ∀ (l : List α), l.length = 10 → ∃ a b c d e f g h i j, l = [a, b, c, d, e, f, g, h, i, j]
  | [a, b, c, d, e, f, g, h, i, j], _ => ⟨a, b, c, d, e, f, g, h, i, j, rfl⟩
theorem list8 {α : Type} : ∀ (l : List α), l.length = 8 → ∃ a b c d e f g h, l = [a, b, c, d, e, f, g, h]
  | [a, b, c, d, e, f, g, h], _ => ⟨a, b, c, d, e, f, g, h, rfl⟩
section
variable {H : Type} {enc : TypeId × Value → H} {w : World} {base : Nat} {spare : Nat → Bool} {held : Bool}
set_option maxRecDepth 100000 in
theorem open_row {fuel : Nat} {cs : List Value} {x : DataW H × List MemPlace} (h : DataW.trod enc Tryd.prog w base spare held fuel 32 cs = some x) :
    ∃ (A : Option Addr) (n c : Nat) (L : List Int), cs = [.slice A n c] ∧ L.length = n ∧ n ≤ c ∧ c ≤ 9223372036854775807 ∧ Row w w.heap.size A L ∧ (A = none → c = 0) ∧ Wt 32 x.1 n := by
  rcases open_slice1 Tryd.underlying32 cellsI h with ⟨rfl, _⟩ | ⟨a, len, cap, m, n, V, D, Pl, rfl, hb, hl, hm, hmm, hx, hi⟩
  · exact ⟨none, 0, 0, [], rfl, rfl, Nat.le_refl _, by omega, Or.inl rfl, fun _ => rfl, Or.inl rfl⟩
  · have hlm : len ≤ m := by rw [hmm]; split <;> omega
    have key : ∀ i, i < len → ∃ z : Int, w.cell? (a.add i) = some (.int .i64 z) := by
      intro i hil
      obtain ⟨hc, ht⟩ := hi i (by omega)
      obtain ⟨z, hz, _⟩ := DataW.trod_int Tryd.underlying3 ht
      simp at hz
      exact ⟨z, by rw [hc, hz]⟩
    obtain ⟨f, hf⟩ : ∃ f : Nat → Int, ∀ i, i < len → w.cell? (a.add i) = some (.int .i64 (f i)) :=
      ⟨fun i => if hi : i < len then (key i hi).choose else 0, fun i hi => by
        simp only [dif_pos hi]
        exact (key i hi).choose_spec⟩
    refine ⟨some a, len, cap, (List.range len).map f, rfl, by simp, hl, by unfold maxLen at hm; exact hm, ?_, (fun h => by cases h), Or.inr ⟨(len + (m - len)) * 8, by rw [hx]; simp only [DataW.weights, Tryd.underlying32, bytesI, List.length_map, List.length_range]; exact List.mem_cons_self, by omega⟩⟩
    rcases Nat.eq_zero_or_pos len with h0 | h0
    · exact Or.inl (by rw [h0]; rfl)
    · have c0 := hf 0 h0
      obtain ⟨g, o, sp⟩ := a
      have hsp : sp = none := by
        have := World.cell?_spot c0
        simpa [Addr.add] using this
      subst hsp
      refine Or.inr ⟨g, o, rfl, ?_, fun i p hp => ?_⟩
      · have := cell_lt c0
        rw [Addr.add_lit] at this
        exact this
      · rw [List.getElem?_map] at hp
        cases hr : (List.range len)[i]? with
        | none => rw [hr] at hp; cases hp
        | some j =>
          rw [hr] at hp
          have hil : i < len := by
            rcases Nat.lt_or_ge i len with h | h
            · exact h
            · rw [List.getElem?_eq_none (by simpa using h)] at hr; cases hr
          have hj : j = i := by rw [List.getElem?_range hil] at hr; injection hr with hr; exact hr.symm
          subst hj
          injection hp with hp
          subst hp
          have e0 := hf j hil
          rw [Addr.add_lit] at e0
          exact e0
set_option maxRecDepth 100000 in
theorem open_in {fuel : Nat} {cs : List Value} {x : DataW H × List MemPlace} (h : DataW.trod enc Tryd.prog w base spare held fuel 43 cs = some x) :
    ∃ i : In, cs = icells i ∧ i.ok w w.heap.size ∧ i.nz ∧ Wt 43 x.1 i.tn := by
  obtain ⟨xs, n, _, ex, hl, hxl, hg⟩ := DataW.trod_struct Tryd.underlying43 h
  have h0 := hg 0 _ rfl
  have h1 := hg 1 _ rfl
  have h2 := hg 2 _ rfl
  have h3 := hg 3 _ rfl
  have h4 := hg 4 _ rfl
  have h5 := hg 5 _ rfl
  have h6 := hg 6 _ rfl
  have h7 := hg 7 _ rfl
  rw [cellsN] at hl
  obtain ⟨v0, v1, v2, v3, v4, v5, v6, v7, v8, v9, rfl⟩ := list10 cs hl
  obtain ⟨y0, y1, y2, y3, y4, y5, y6, y7, rfl⟩ := list8 xs hxl
  change DataW.trod enc Tryd.prog w base spare held n 3 (List.take (Tryd.prog.cellsOf 3) [v0, v1, v2, v3, v4, v5, v6, v7, v8, v9]) = some y0 at h0
  change DataW.trod enc Tryd.prog w base spare held n 3 (List.take (Tryd.prog.cellsOf 3) [v1, v2, v3, v4, v5, v6, v7, v8, v9]) = some y1 at h1
  change DataW.trod enc Tryd.prog w base spare held n 3 (List.take (Tryd.prog.cellsOf 3) [v2, v3, v4, v5, v6, v7, v8, v9]) = some y2 at h2
  change DataW.trod enc Tryd.prog w base spare held n 3 (List.take (Tryd.prog.cellsOf 3) [v3, v4, v5, v6, v7, v8, v9]) = some y3 at h3
  change DataW.trod enc Tryd.prog w base spare held n 32 (List.take (Tryd.prog.cellsOf 32) [v4, v5, v6, v7, v8, v9]) = some y4 at h4
  change DataW.trod enc Tryd.prog w base spare held n 32 (List.take (Tryd.prog.cellsOf 32) [v5, v6, v7, v8, v9]) = some y5 at h5
  change DataW.trod enc Tryd.prog w base spare held n 41 (List.take (Tryd.prog.cellsOf 41) [v6, v7, v8, v9]) = some y6 at h6
  change DataW.trod enc Tryd.prog w base spare held n 9 (List.take (Tryd.prog.cellsOf 9) [v9]) = some y7 at h7
  rw [cellsI] at h0 h1 h2 h3
  rw [cellsL] at h4 h5
  rw [cellsRf] at h6
  rw [cellsS] at h7
  obtain ⟨a0, e0, _, _⟩ := DataW.trod_int Tryd.underlying3 h0
  obtain ⟨a1, e1, _, _⟩ := DataW.trod_int Tryd.underlying3 h1
  obtain ⟨a2, e2, _, _⟩ := DataW.trod_int Tryd.underlying3 h2
  obtain ⟨a3, e3, _, _⟩ := DataW.trod_int Tryd.underlying3 h3
  obtain ⟨A4, n4, c4, L4, e4, l4, k4, m4, r4, z4, _⟩ := open_row h4
  obtain ⟨A5, n5, c5, L5, e5, l5, k5, m5, r5, z5, q5⟩ := open_row h5
  obtain ⟨u0, u1, u2, n6, _, _, g0, g1, g2⟩ := trod_struct3 Tryd.underlying41 h6
  simp only [cellsS] at g0 g1 g2
  obtain ⟨s0, f0, _, _⟩ := DataW.trod_string Tryd.underlying9 g0
  obtain ⟨s1, f1, _, _⟩ := DataW.trod_string Tryd.underlying9 g1
  obtain ⟨s2, f2, _, _⟩ := DataW.trod_string Tryd.underlying9 g2
  obtain ⟨s3, f3, _, _⟩ := DataW.trod_string Tryd.underlying9 h7
  simp at e0 e1 e2 e3 e4 e5 f0 f1 f2 f3
  subst e0 e1 e2 e3 e4 e5 f0 f1 f2 f3
  refine ⟨⟨a0, a1, a2, a3, A4, n4, c4, L4, A5, n5, c5, L5, s0, s1, s2, s3⟩, rfl, ⟨l4, k4, m4, r4, l5, k5, m5, r5⟩, ⟨z4, z5⟩, ?_⟩
  rcases q5 with h0 | ⟨q, hq, hle⟩
  · exact Or.inl h0
  · refine Or.inr ⟨q, ?_, hle⟩
    subst ex
    show q ∈ DataW.weights Tryd.prog 43 (.agg [y0.1, y1.1, y2.1, y3.1, y4.1, y5.1, y6.1, y7.1])
    simp only [DataW.weights, Tryd.underlying43]
    exact DataW.weights_mem_each (j := 5) rfl rfl _ hq
set_option maxRecDepth 100000 in
theorem open_ins {fuel : Nat} {cs : List Value} {x : DataW H × List MemPlace} (h : DataW.trod enc Tryd.prog w base spare held fuel 22 cs = some x) :
    ∃ (A : Option Addr) (n c : Nat) (L : List In), cs = [.slice A n c] ∧ L.length = n ∧ n ≤ c ∧ Ins w w.heap.size A L ∧ ∀ i ∈ L, i.nz ∧ Wt 22 x.1 i.tn := by
  rcases open_slice Tryd.underlying22 h with ⟨rfl, _⟩ | ⟨a, len, cap, m, n, D, Pl, rfl, hb, hl, hm, hmm, hx, hi⟩
  · exact ⟨none, 0, 0, [], rfl, rfl, Nat.le_refl _, Or.inl rfl, fun p hp => by cases hp⟩
  · have hlm : len ≤ m := by rw [hmm]; split <;> omega
    have key : ∀ i, i < len → ∃ p : In, (∀ j v, (icells p)[j]? = some v → w.cell? (a.add (i * 10 + j)) = some v) ∧ p.ok w w.heap.size ∧ p.nz ∧ Wt 22 x.1 p.tn := by
      intro i hil
      obtain ⟨cs', hc, ht⟩ := hi i (by omega)
      rw [cellsN] at hc
      obtain ⟨p, rfl, hp, hz, hw⟩ := open_in ht
      obtain ⟨_, _, hat⟩ := World.cells?_some hc
      have hw2 : Wt 22 x.1 p.tn := by
        rcases hw with h0 | ⟨q, hq, hle⟩
        · exact Or.inl h0
        · refine Or.inr ⟨q, ?_, hle⟩
          rw [hx]
          have h9 := wts_all9 (P := Tryd.prog) (e := 43) (List.mem_map.2 ⟨i, List.mem_range.2 hil, rfl⟩ : D i ∈ (List.range len).map D) hq
          simp only [DataW.weights, Tryd.underlying22, List.mem_cons, List.mem_append]
          exact Or.inr (Or.inl h9)
      refine ⟨p, fun j v hv => ?_, hp, hz, hw2⟩
      have hj : j < 10 := by
        rcases Nat.lt_or_ge j 10 with h | h
        · exact h
        · rw [List.getElem?_eq_none (by simpa [icells] using h)] at hv; cases hv
      have := hat j (by simpa using hj)
      rw [add_add] at this
      rw [this, hv]
    obtain ⟨f, hf⟩ : ∃ f : Nat → In, ∀ i, i < len → (∀ j v, (icells (f i))[j]? = some v → w.cell? (a.add (i * 10 + j)) = some v) ∧ (f i).ok w w.heap.size ∧ (f i).nz ∧ Wt 22 x.1 (f i).tn :=
      ⟨fun i => if hi : i < len then (key i hi).choose else ⟨0, 0, 0, 0, none, 0, 0, [], none, 0, 0, [], ⟨#[]⟩, ⟨#[]⟩, ⟨#[]⟩, ⟨#[]⟩⟩, fun i hi => by
        simp only [dif_pos hi]
        exact (key i hi).choose_spec⟩
    refine ⟨some a, len, cap, (List.range len).map f, rfl, by simp, hl, ?_, ?_⟩
    · rcases Nat.eq_zero_or_pos len with h0 | h0
      · exact Or.inl (by rw [h0]; rfl)
      · have c0 := (hf 0 h0).1 0 _ rfl
        obtain ⟨g, o, sp⟩ := a
        have hsp : sp = none := by
          have := World.cell?_spot c0
          simpa [Addr.add] using this
        subst hsp
        refine Or.inr ⟨g, o, rfl, ?_, fun i p hp => ?_⟩
        · have := cell_lt c0
          rw [Addr.add_lit] at this
          exact this
        · rw [List.getElem?_map] at hp
          cases hr : (List.range len)[i]? with
          | none => rw [hr] at hp; cases hp
          | some j =>
            rw [hr] at hp
            have hil : i < len := by
              rcases Nat.lt_or_ge i len with h | h
              · exact h
              · rw [List.getElem?_eq_none (by simpa using h)] at hr; cases hr
            have hj : j = i := by rw [List.getElem?_range hil] at hr; injection hr with hr; exact hr.symm
            subst hj
            injection hp with hp
            subst hp
            obtain ⟨e, ok, _⟩ := hf j hil
            have at' : ∀ q v, (icells (f j))[q]? = some v → w.cell? ⟨g, o + j * 10 + q, none⟩ = some v := by
              intro q v hv
              have := e q v hv
              rw [Addr.add_lit] at this
              rw [show o + j * 10 + q = o + (j * 10 + q) by omega]
              exact this
            exact ⟨ok, at' 0 _ rfl, at' 1 _ rfl, at' 2 _ rfl, at' 3 _ rfl, at' 4 _ rfl, at' 5 _ rfl, at' 6 _ rfl, at' 7 _ rfl, at' 8 _ rfl, at' 9 _ rfl⟩
    · intro p hp
      rw [List.mem_map] at hp
      obtain ⟨j, hj, rfl⟩ := hp
      exact (hf j (List.mem_range.1 hj)).2.2
end
theorem cellsHd : Tryd.prog.cellsOf 46 = 5 := by kernel_rfl
theorem cellsIs : Tryd.prog.cellsOf 22 = 1 := by kernel_rfl
theorem cellsHs : Tryd.prog.cellsOf 23 = 1 := by kernel_rfl
theorem cellsMs : Tryd.prog.cellsOf 24 = 1 := by kernel_rfl
theorem cellsLs : Tryd.prog.cellsOf 25 = 1 := by kernel_rfl
theorem cellsCd : Tryd.prog.cellsOf 27 = 6 := by kernel_rfl
theorem list5 {α : Type} : ∀ (l : List α), l.length = 5 → ∃ a b c d e, l = [a, b, c, d, e]
  | [a, b, c, d, e], _ => ⟨a, b, c, d, e, rfl⟩
theorem list6 {α : Type} : ∀ (l : List α), l.length = 6 → ∃ a b c d e f, l = [a, b, c, d, e, f]
  | [a, b, c, d, e, f], _ => ⟨a, b, c, d, e, f, rfl⟩
def hcells (h : Hd) : List Value := [.int .i64 h.f, .int .i64 h.t, .int .i64 h.g, .int .i64 h.k, .string h.s]
section
variable {H : Type} {enc : TypeId × Value → H} {w : World} {base : Nat} {spare : Nat → Bool} {held : Bool}
set_option maxRecDepth 100000 in
theorem open_hd {fuel : Nat} {cs : List Value} {x : DataW H × List MemPlace} (h : DataW.trod enc Tryd.prog w base spare held fuel 46 cs = some x) : ∃ i : Hd, cs = hcells i := by
  obtain ⟨xs, n, _, _, hl, hxl, hg⟩ := DataW.trod_struct Tryd.underlying46 h
  have h0 := hg 0 _ rfl
  have h1 := hg 1 _ rfl
  have h2 := hg 2 _ rfl
  have h3 := hg 3 _ rfl
  have h4 := hg 4 _ rfl
  rw [cellsHd] at hl
  obtain ⟨v0, v1, v2, v3, v4, rfl⟩ := list5 cs hl
  obtain ⟨y0, y1, y2, y3, y4, rfl⟩ := list5 xs hxl
  change DataW.trod enc Tryd.prog w base spare held n 3 (List.take (Tryd.prog.cellsOf 3) [v0, v1, v2, v3, v4]) = some y0 at h0
  change DataW.trod enc Tryd.prog w base spare held n 3 (List.take (Tryd.prog.cellsOf 3) [v1, v2, v3, v4]) = some y1 at h1
  change DataW.trod enc Tryd.prog w base spare held n 3 (List.take (Tryd.prog.cellsOf 3) [v2, v3, v4]) = some y2 at h2
  change DataW.trod enc Tryd.prog w base spare held n 3 (List.take (Tryd.prog.cellsOf 3) [v3, v4]) = some y3 at h3
  change DataW.trod enc Tryd.prog w base spare held n 9 (List.take (Tryd.prog.cellsOf 9) [v4]) = some y4 at h4
  rw [cellsI] at h0 h1 h2 h3
  rw [cellsS] at h4
  obtain ⟨a0, e0, _, _⟩ := DataW.trod_int Tryd.underlying3 h0
  obtain ⟨a1, e1, _, _⟩ := DataW.trod_int Tryd.underlying3 h1
  obtain ⟨a2, e2, _, _⟩ := DataW.trod_int Tryd.underlying3 h2
  obtain ⟨a3, e3, _, _⟩ := DataW.trod_int Tryd.underlying3 h3
  obtain ⟨s4, e4, _, _⟩ := DataW.trod_string Tryd.underlying9 h4
  simp at e0 e1 e2 e3 e4
  subst e0 e1 e2 e3 e4
  exact ⟨⟨a0, a1, a2, a3, s4⟩, rfl⟩
set_option maxRecDepth 100000 in
theorem open_hds {fuel : Nat} {cs : List Value} {x : DataW H × List MemPlace} (h : DataW.trod enc Tryd.prog w base spare held fuel 23 cs = some x) :
    ∃ (A : Option Addr) (n c : Nat) (L : List Hd), cs = [.slice A n c] ∧ L.length = n ∧ n ≤ 9223372036854775807 ∧ Hds w w.heap.size A L := by
  rcases open_slice Tryd.underlying23 h with ⟨rfl, _⟩ | ⟨a, len, cap, m, n, D, Pl, rfl, hb, hl, hm, hmm, hx, hi⟩
  · exact ⟨none, 0, 0, [], rfl, rfl, Nat.zero_le _, Or.inl rfl⟩
  · have hlm : len ≤ m := by rw [hmm]; split <;> omega
    have key : ∀ i, i < len → ∃ p : Hd, ∀ j v, (hcells p)[j]? = some v → w.cell? (a.add (i * 5 + j)) = some v := by
      intro i hil
      obtain ⟨cs', hc, ht⟩ := hi i (by omega)
      rw [cellsHd] at hc
      obtain ⟨p, rfl⟩ := open_hd ht
      obtain ⟨_, _, hat⟩ := World.cells?_some hc
      refine ⟨p, fun j v hv => ?_⟩
      have hj : j < 5 := by
        rcases Nat.lt_or_ge j 5 with h | h
        · exact h
        · rw [List.getElem?_eq_none (by simpa [hcells] using h)] at hv; cases hv
      have := hat j (by simpa using hj)
      rw [add_add] at this
      rw [this, hv]
    obtain ⟨f, hf⟩ : ∃ f : Nat → Hd, ∀ i, i < len → ∀ j v, (hcells (f i))[j]? = some v → w.cell? (a.add (i * 5 + j)) = some v :=
      ⟨fun i => if hi : i < len then (key i hi).choose else ⟨0, 0, 0, 0, ⟨#[]⟩⟩, fun i hi => by
        simp only [dif_pos hi]
        exact (key i hi).choose_spec⟩
    refine ⟨some a, len, cap, (List.range len).map f, rfl, by simp, by unfold maxLen at hm; omega, ?_⟩
    rcases Nat.eq_zero_or_pos len with h0 | h0
    · exact Or.inl (by rw [h0]; rfl)
    · have c0 := hf 0 h0 0 _ rfl
      obtain ⟨g, o, sp⟩ := a
      have hsp : sp = none := by
        have := World.cell?_spot c0
        simpa [Addr.add] using this
      subst hsp
      refine Or.inr ⟨g, o, rfl, ?_, fun i p hp => ?_⟩
      · have := cell_lt c0
        rw [Addr.add_lit] at this
        exact this
      · rw [List.getElem?_map] at hp
        cases hr : (List.range len)[i]? with
        | none => rw [hr] at hp; cases hp
        | some j =>
          rw [hr] at hp
          have hil : i < len := by
            rcases Nat.lt_or_ge i len with h | h
            · exact h
            · rw [List.getElem?_eq_none (by simpa using h)] at hr; cases hr
          have hj : j = i := by rw [List.getElem?_range hil] at hr; injection hr with hr; exact hr.symm
          subst hj
          injection hp with hp
          subst hp
          have e := hf j hil
          have at' : ∀ q v, (hcells (f j))[q]? = some v → w.cell? ⟨g, o + j * 5 + q, none⟩ = some v := by
            intro q v hv
            have := e q v hv
            rw [Addr.add_lit] at this
            rw [show o + j * 5 + q = o + (j * 5 + q) by omega]
            exact this
          exact ⟨at' 0 _ rfl, at' 1 _ rfl, at' 2 _ rfl, at' 3 _ rfl, at' 4 _ rfl⟩
theorem slice_max {t e : TypeId} {fuel n c : Nat} {A : Option Addr} {x : DataW H × List MemPlace} (ht : Tryd.prog.underlying t = some (.slice e)) (h : DataW.trod enc Tryd.prog w base spare held fuel t [.slice A n c] = some x) : n ≤ 9223372036854775807 := by
  rcases open_slice ht h with ⟨he, _⟩ | ⟨a, len, cap, m, _, D, Pl, he, hb, hl, hm, hmm, hx, hi⟩
  · injection he with he _
    injection he with _ h2 _
    omega
  · injection he with he _
    injection he with _ h2 _
    unfold maxLen at hm
    omega
theorem slice_one {t e : TypeId} {fuel : Nat} {cs : List Value} {x : DataW H × List MemPlace} (ht : Tryd.prog.underlying t = some (.slice e)) (h : DataW.trod enc Tryd.prog w base spare held fuel t cs = some x) : ∃ (A : Option Addr) (n c : Nat), cs = [.slice A n c] := by
  rcases open_slice ht h with ⟨he, _⟩ | ⟨a, len, cap, m, _, D, Pl, he, hb, hl, hm, hmm, hx, hi⟩
  · exact ⟨none, 0, 0, he⟩
  · exact ⟨some a, len, cap, he⟩
set_option maxRecDepth 100000 in
theorem open_code {fuel : Nat} {cs : List Value} {x : DataW H × List MemPlace} (h : DataW.trod enc Tryd.prog w base spare held fuel 27 cs = some x) :
    ∃ c : Cd, cs = [.int .i64 c.st, .int .i64 c.lo, .slice c.iA c.n c.ic, .slice c.hA c.hn c.hc, .slice c.mA c.mn c.mc, .slice c.lA c.ln c.lc] ∧ c.raw22 w ∧ ∀ i ∈ c.is, Wt 27 x.1 i.tn := by
  obtain ⟨xs, n, _, ex, hl, hxl, hg⟩ := DataW.trod_struct Tryd.underlying27 h
  have h0 := hg 0 _ rfl
  have h1 := hg 1 _ rfl
  have h2 := hg 2 _ rfl
  have h3 := hg 3 _ rfl
  have h4 := hg 4 _ rfl
  have h5 := hg 5 _ rfl
  rw [cellsCd] at hl
  obtain ⟨v0, v1, v2, v3, v4, v5, rfl⟩ := list6 cs hl
  obtain ⟨y0, y1, y2, y3, y4, y5, rfl⟩ := list6 xs hxl
  change DataW.trod enc Tryd.prog w base spare held n 3 (List.take (Tryd.prog.cellsOf 3) [v0, v1, v2, v3, v4, v5]) = some y0 at h0
  change DataW.trod enc Tryd.prog w base spare held n 3 (List.take (Tryd.prog.cellsOf 3) [v1, v2, v3, v4, v5]) = some y1 at h1
  change DataW.trod enc Tryd.prog w base spare held n 22 (List.take (Tryd.prog.cellsOf 22) [v2, v3, v4, v5]) = some y2 at h2
  change DataW.trod enc Tryd.prog w base spare held n 23 (List.take (Tryd.prog.cellsOf 23) [v3, v4, v5]) = some y3 at h3
  change DataW.trod enc Tryd.prog w base spare held n 24 (List.take (Tryd.prog.cellsOf 24) [v4, v5]) = some y4 at h4
  change DataW.trod enc Tryd.prog w base spare held n 25 (List.take (Tryd.prog.cellsOf 25) [v5]) = some y5 at h5
  rw [cellsI] at h0 h1
  rw [cellsIs] at h2
  rw [cellsHs] at h3
  rw [cellsMs] at h4
  rw [cellsLs] at h5
  obtain ⟨a0, e0, _, _⟩ := DataW.trod_int Tryd.underlying3 h0
  obtain ⟨a1, e1, _, _⟩ := DataW.trod_int Tryd.underlying3 h1
  obtain ⟨A2, n2, c2, L2, e2, l2, k2, r2, z2⟩ := open_ins h2
  obtain ⟨A3, n3, c3, L3, e3, l3, k3, r3⟩ := open_hds h3
  obtain ⟨A4, n4, c4, e4⟩ := slice_one Tryd.underlying24 h4
  obtain ⟨A5, n5, c5, e5⟩ := slice_one Tryd.underlying25 h5
  have m2 : n2 ≤ 9223372036854775807 := by rw [e2] at h2; exact slice_max Tryd.underlying22 h2
  simp at e0 e1 e2 e3 e4 e5
  subst e0 e1 e2 e3 e4 e5
  refine ⟨⟨a0, a1, A2, n2, c2, L2, A3, n3, c3, L3, A4, n4, c4, A5, n5, c5⟩, rfl, ⟨l2, r2, m2, l3, r3, k3, fun i hi => (z2 i hi).1⟩, fun i hi => ?_⟩
  rcases (z2 i hi).2 with h0 | ⟨q, hq, hle⟩
  · exact Or.inl h0
  · refine Or.inr ⟨q, ?_, hle⟩
    subst ex
    show q ∈ DataW.weights Tryd.prog 27 (.agg [y0.1, y1.1, y2.1, y3.1, y4.1, y5.1])
    simp only [DataW.weights, Tryd.underlying27]
    exact DataW.weights_mem_each (j := 2) rfl rfl _ hq
set_option maxRecDepth 100000 in
theorem open_code_of {r : Reach} {b0 : Nat} {v : Value} {d : DataW H} {q : List MemPlace} (hv : Value.okWide Tryd.prog w r b0 27 v) (h : DataW.Trod enc Tryd.prog w base spare held 27 v d q) :
    ∃ c : Cd, v = (Value.agg #[Value.int IntKind.i64 (Cd.st c), Value.int IntKind.i64 (Cd.lo c), Value.slice (Cd.iA c) (Cd.n c) (Cd.ic c), Value.slice (Cd.hA c) (Cd.hn c) (Cd.hc c), Value.slice (Cd.mA c) (Cd.mn c) (Cd.mc c), Value.slice (Cd.lA c) (Cd.ln c) (Cd.lc c)]) ∧ c.raw22 w ∧ ∀ i ∈ c.is, Wt 27 d i.tn := by
  obtain ⟨cs, rfl, hsz⟩ := okWide_struct Tryd.underlying27 hv
  obtain ⟨fuel, hf⟩ := h
  obtain ⟨c, e, hc, hw⟩ := open_code hf
  refine ⟨c, ?_, hc, hw⟩
  have e' : cs.toList = [.int .i64 c.st, .int .i64 c.lo, .slice c.iA c.n c.ic, .slice c.hA c.hn c.hc, .slice c.mA c.mn c.mc, .slice c.lA c.ln c.lc] := by simpa [Value.cells] using e
  have : cs = #[.int .i64 c.st, .int .i64 c.lo, .slice c.iA c.n c.ic, .slice c.hA c.hn c.hc, .slice c.mA c.mn c.mc, .slice c.lA c.ln c.lc] := by rw [← Array.toList_inj, e']
  rw [this]
end
theorem cellsV6 : Tryd.prog.cellsOf 95 = 6 := by kernel_rfl
theorem cellsT3 : Tryd.prog.cellsOf 93 = 3 := by kernel_rfl
theorem cellsU : Tryd.prog.cellsOf 5 = 1 := by kernel_rfl
theorem list3 {α : Type} : ∀ (l : List α), l.length = 3 → ∃ a b c, l = [a, b, c]
  | [a, b, c], _ => ⟨a, b, c, rfl⟩
theorem list4 {α : Type} : ∀ (l : List α), l.length = 4 → ∃ a b c d, l = [a, b, c, d]
  | [a, b, c, d], _ => ⟨a, b, c, d, rfl⟩
theorem cellsF3 : Tryd.prog.cellsOf 49 = 3 := by kernel_rfl
theorem cellsVs : Tryd.prog.cellsOf 47 = 1 := by kernel_rfl
theorem cellsBo : Tryd.prog.cellsOf 4 = 1 := by kernel_rfl
theorem cellsSM : Tryd.prog.cellsOf 51 = 4 := by kernel_rfl
theorem list2 {α : Type} : ∀ (l : List α), l.length = 2 → ∃ a b, l = [a, b]
  | [a, b], _ => ⟨a, b, rfl⟩
theorem i64_wf {n : Int} (h : (Lit.int .i64 n).wf = true) : -9223372036854775808 ≤ n ∧ n ≤ 9223372036854775807 := by
  simp only [Lit.wf, Bool.and_eq_true, decide_eq_true_eq] at h
  have h1 := h.1
  have h2 := h.2
  rw [show IntKind.i64.min = -9223372036854775808 from by rfl] at h1
  rw [show IntKind.i64.max = 9223372036854775807 from by rfl] at h2
  exact ⟨h1, h2⟩
section
variable {H : Type} {enc : TypeId × Value → H} {w : World} {base : Nat} {spare : Nat → Bool} {held : Bool}
set_option maxRecDepth 100000 in
theorem open_ty {fuel : Nat} {cs : List Value} {x : DataW H × List MemPlace} (h : DataW.trod enc Tryd.prog w base spare held fuel 93 cs = some x) :
    ∃ (d b : Int) (s : ByteArray), cs = [.int .i64 d, .int .u8 b, .string s] ∧ s.size ≤ 9223372036854775807 := by
  obtain ⟨xs, n, _, _, hl, hxl, hg⟩ := DataW.trod_struct Tryd.underlying93 h
  have h0 := hg 0 _ rfl
  have h1 := hg 1 _ rfl
  have h2 := hg 2 _ rfl
  rw [cellsT3] at hl
  obtain ⟨v0, v1, v2, rfl⟩ := list3 cs hl
  obtain ⟨y0, y1, y2, rfl⟩ := list3 xs hxl
  change DataW.trod enc Tryd.prog w base spare held n 3 (List.take (Tryd.prog.cellsOf 3) [v0, v1, v2]) = some y0 at h0
  change DataW.trod enc Tryd.prog w base spare held n 5 (List.take (Tryd.prog.cellsOf 5) [v1, v2]) = some y1 at h1
  change DataW.trod enc Tryd.prog w base spare held n 9 (List.take (Tryd.prog.cellsOf 9) [v2]) = some y2 at h2
  rw [cellsI] at h0
  rw [cellsU] at h1
  rw [cellsS] at h2
  obtain ⟨a0, e0, _, _⟩ := DataW.trod_int Tryd.underlying3 h0
  obtain ⟨a1, e1, _, _⟩ := DataW.trod_int Tryd.underlying5 h1
  obtain ⟨a2, e2, _, k2⟩ := DataW.trod_string Tryd.underlying9 h2
  simp at e0 e1 e2
  subst e0 e1 e2
  unfold maxLen at k2
  exact ⟨a0, a1, a2, rfl, k2⟩
set_option maxRecDepth 100000 in
theorem open_vt {fuel : Nat} {cs : List Value} {x : DataW H × List MemPlace} (h : DataW.trod enc Tryd.prog w base spare held fuel 95 cs = some x) :
    ∃ (k n d b : Int) (s : ByteArray) (p : Int), cs = [.int .i64 k, .int .i64 n, .int .i64 d, .int .u8 b, .string s, .int .i64 p] ∧ s.size ≤ 9223372036854775807 ∧ -9223372036854775808 ≤ n ∧ n ≤ 9223372036854775807 := by
  obtain ⟨xs, m, _, _, hl, hxl, hg⟩ := DataW.trod_struct Tryd.underlying95 h
  have h0 := hg 0 _ rfl
  have h1 := hg 1 _ rfl
  have h2 := hg 2 _ rfl
  have h3 := hg 3 _ rfl
  rw [cellsV6] at hl
  obtain ⟨v0, v1, v2, v3, v4, v5, rfl⟩ := list6 cs hl
  obtain ⟨y0, y1, y2, y3, rfl⟩ := list4 xs hxl
  change DataW.trod enc Tryd.prog w base spare held m 3 (List.take (Tryd.prog.cellsOf 3) [v0, v1, v2, v3, v4, v5]) = some y0 at h0
  change DataW.trod enc Tryd.prog w base spare held m 3 (List.take (Tryd.prog.cellsOf 3) [v1, v2, v3, v4, v5]) = some y1 at h1
  change DataW.trod enc Tryd.prog w base spare held m 93 (List.take (Tryd.prog.cellsOf 93) [v2, v3, v4, v5]) = some y2 at h2
  change DataW.trod enc Tryd.prog w base spare held m 3 (List.take (Tryd.prog.cellsOf 3) [v5]) = some y3 at h3
  rw [cellsI] at h0 h1 h3
  rw [cellsT3] at h2
  obtain ⟨a0, e0, _, _⟩ := DataW.trod_int Tryd.underlying3 h0
  obtain ⟨a1, e1, _, k1⟩ := DataW.trod_int Tryd.underlying3 h1
  obtain ⟨d, b, s, e2, hs⟩ := open_ty h2
  obtain ⟨a3, e3, _, _⟩ := DataW.trod_int Tryd.underlying3 h3
  simp at e0 e1 e2 e3
  obtain ⟨f2, f3, f4⟩ := e2
  subst e0 e1 f2 f3 f4 e3
  exact ⟨a0, a1, d, b, s, a3, rfl, hs, i64_wf k1⟩
set_option maxRecDepth 100000 in
theorem open_vs {fuel : Nat} {cs : List Value} {x : DataW H × List MemPlace} (h : DataW.trod enc Tryd.prog w base spare held fuel 47 cs = some x) :
    ∃ (A : Option Addr) (n c : Nat) (P : List VT), cs = [.slice A n c] ∧ P.length = n ∧ n ≤ c ∧ c ≤ 9223372036854775807 ∧ VS w w.heap.size A P := by
  rcases open_slice Tryd.underlying47 h with ⟨rfl, _⟩ | ⟨a, len, cap, m, n, D, Pl, rfl, hb, hl, hm, hmm, hx, hi⟩
  · exact ⟨none, 0, 0, [], rfl, rfl, Nat.le_refl _, by omega, Or.inl rfl, fun v hv => by cases hv⟩
  · have hlm : len ≤ m := by rw [hmm]; split <;> omega
    have key : ∀ i, i < len → ∃ p : VT, (∀ j v, (vcs p)[j]? = some v → w.cell? (a.add (i * 6 + j)) = some v) ∧ p.s.size ≤ 9223372036854775807 := by
      intro i hil
      obtain ⟨cs', hc, ht⟩ := hi i (by omega)
      rw [cellsV6] at hc
      obtain ⟨k, n, d, b, s, p, rfl, hs, _⟩ := open_vt ht
      obtain ⟨_, _, hat⟩ := World.cells?_some hc
      refine ⟨⟨k, n, d, b, s, p⟩, fun j v hv => ?_, hs⟩
      have := hat j (by simpa using vcs_lt hv)
      rw [add_add] at this
      rw [this]
      exact hv
    obtain ⟨f, hf⟩ : ∃ f : Nat → VT, ∀ i, i < len → (∀ j v, (vcs (f i))[j]? = some v → w.cell? (a.add (i * 6 + j)) = some v) ∧ (f i).s.size ≤ 9223372036854775807 :=
      ⟨fun i => if hi : i < len then (key i hi).choose else vtZ, fun i hi => by
        simp only [dif_pos hi]
        exact (key i hi).choose_spec⟩
    refine ⟨some a, len, cap, (List.range len).map f, rfl, by simp, hl, by unfold maxLen at hm; exact hm, ?_, ?_⟩
    · rcases Nat.eq_zero_or_pos len with h0 | h0
      · exact Or.inl (by rw [h0]; rfl)
      · have c0 := (hf 0 h0).1 0 _ rfl
        obtain ⟨g, o, sp⟩ := a
        have hsp : sp = none := by
          have := World.cell?_spot c0
          simpa [Addr.add] using this
        subst hsp
        refine Or.inr ⟨g, o, rfl, ?_, fun i p hp q v hv => ?_⟩
        · have := cell_lt c0
          rw [Addr.add_lit] at this
          exact this
        · have hil : i < len := by
            have := lt_of_some hp
            simpa using this
          rw [List.getElem?_map, List.getElem?_range hil] at hp
          obtain rfl : f i = p := Option.some.inj hp
          have := (hf i hil).1 q v hv
          rw [Addr.add_lit] at this
          rw [show o + i * 6 + q = o + (i * 6 + q) by omega]
          exact this
    · intro v hv
      obtain ⟨j, hj, rfl⟩ := List.mem_map.1 hv
      exact (hf j (List.mem_range.1 hj)).2
set_option maxRecDepth 100000 in
theorem open_fm {fuel : Nat} {cs : List Value} {x : DataW H × List MemPlace} (h : DataW.trod enc Tryd.prog w base spare held fuel 49 cs = some x) :
    ∃ f : FM, cs = [.slice f.A1 f.n1 f.c1, .slice f.A2 f.n2 f.c2, .bool f.u] ∧ f.ok w := by
  obtain ⟨xs, n, _, _, hl, hxl, hg⟩ := DataW.trod_struct Tryd.underlying49 h
  have h0 := hg 0 _ rfl
  have h1 := hg 1 _ rfl
  have h2 := hg 2 _ rfl
  rw [cellsF3] at hl
  obtain ⟨v0, v1, v2, rfl⟩ := list3 cs hl
  obtain ⟨y0, y1, y2, rfl⟩ := list3 xs hxl
  change DataW.trod enc Tryd.prog w base spare held n 47 (List.take (Tryd.prog.cellsOf 47) [v0, v1, v2]) = some y0 at h0
  change DataW.trod enc Tryd.prog w base spare held n 47 (List.take (Tryd.prog.cellsOf 47) [v1, v2]) = some y1 at h1
  change DataW.trod enc Tryd.prog w base spare held n 4 (List.take (Tryd.prog.cellsOf 4) [v2]) = some y2 at h2
  rw [cellsVs] at h0 h1
  rw [cellsBo] at h2
  obtain ⟨A1, n1, c1, P, e0, l1, m1, q1, r1⟩ := open_vs h0
  obtain ⟨A2, n2, c2, Q, e1, l2, m2, q2, r2⟩ := open_vs h1
  obtain ⟨b, e2, _⟩ := DataW.trod_bool Tryd.underlying4 h2
  simp at e0 e1 e2
  subst e0 e1 e2
  exact ⟨⟨A1, n1, c1, A2, n2, c2, b, P, Q⟩, rfl, r1, r2, l1, l2, m1, q1, m2, q2⟩
end
section
variable {H : Type} {enc : TypeId × Value → H} {w : World} {base : Nat} {spare : Nat → Bool} {held : Bool}
set_option maxRecDepth 100000 in
theorem open_sm {fuel : Nat} {cs : List Value} {x : DataW H × List MemPlace} (h : DataW.trod enc Tryd.prog w base spare held fuel 51 cs = some x) : ∃ m : SM, cs = smcells m ∧ m.f.ok w := by
  obtain ⟨xs, n, _, _, hl, hxl, hg⟩ := DataW.trod_struct Tryd.underlying51 h
  have h0 := hg 0 _ rfl
  have h1 := hg 1 _ rfl
  rw [cellsSM] at hl
  obtain ⟨v0, v1, v2, v3, rfl⟩ := list4 cs hl
  obtain ⟨y0, y1, rfl⟩ := list2 xs hxl
  change DataW.trod enc Tryd.prog w base spare held n 3 (List.take (Tryd.prog.cellsOf 3) [v0, v1, v2, v3]) = some y0 at h0
  change DataW.trod enc Tryd.prog w base spare held n 49 (List.take (Tryd.prog.cellsOf 49) [v1, v2, v3]) = some y1 at h1
  rw [cellsI] at h0
  rw [cellsF3] at h1
  obtain ⟨a0, e0, _, _⟩ := DataW.trod_int Tryd.underlying3 h0
  obtain ⟨f, e1, hf⟩ := open_fm h1
  simp at e0 e1
  obtain ⟨f1, f2, f3⟩ := e1
  subst e0 f1 f2 f3
  exact ⟨⟨a0, f⟩, rfl, hf⟩
set_option maxRecDepth 100000 in
theorem open_sms {fuel : Nat} {cs : List Value} {x : DataW H × List MemPlace} (h : DataW.trod enc Tryd.prog w base spare held fuel 24 cs = some x) :
    ∃ (A : Option Addr) (n c : Nat) (L : List SM), cs = [.slice A n c] ∧ L.length = n ∧ n ≤ c ∧ c ≤ 9223372036854775807 ∧ SMs w A L := by
  rcases open_slice Tryd.underlying24 h with ⟨rfl, _⟩ | ⟨a, len, cap, m, n, D, Pl, rfl, hb, hl, hm, hmm, hx, hi⟩
  · exact ⟨none, 0, 0, [], rfl, rfl, Nat.le_refl _, by omega, Or.inl rfl⟩
  · have hlm : len ≤ m := by rw [hmm]; split <;> omega
    have key : ∀ i, i < len → ∃ p : SM, (∀ j v, (smcells p)[j]? = some v → w.cell? (a.add (i * 4 + j)) = some v) ∧ p.f.ok w := by
      intro i hil
      obtain ⟨cs', hc, ht⟩ := hi i (by omega)
      rw [cellsSM] at hc
      obtain ⟨p, rfl, hp⟩ := open_sm ht
      obtain ⟨_, _, hat⟩ := World.cells?_some hc
      refine ⟨p, fun j v hv => ?_, hp⟩
      have hj : j < 4 := by
        rcases Nat.lt_or_ge j 4 with h | h
        · exact h
        · rw [List.getElem?_eq_none (by simpa [smcells] using h)] at hv; cases hv
      have := hat j (by simpa using hj)
      rw [add_add] at this
      rw [this, hv]
    obtain ⟨f, hf⟩ : ∃ f : Nat → SM, ∀ i, i < len → (∀ j v, (smcells (f i))[j]? = some v → w.cell? (a.add (i * 4 + j)) = some v) ∧ (f i).f.ok w :=
      ⟨fun i => if hi : i < len then (key i hi).choose else ⟨0, fmZ⟩, fun i hi => by
        simp only [dif_pos hi]
        exact (key i hi).choose_spec⟩
    refine ⟨some a, len, cap, (List.range len).map f, rfl, by simp, hl, by unfold maxLen at hm; exact hm, ?_⟩
    rcases Nat.eq_zero_or_pos len with h0 | h0
    · exact Or.inl (by rw [h0]; rfl)
    · have c0 := (hf 0 h0).1 0 _ rfl
      obtain ⟨g, o, sp⟩ := a
      have hsp : sp = none := by
        have := World.cell?_spot c0
        simpa [Addr.add] using this
      subst hsp
      refine Or.inr ⟨g, o, rfl, ?_, fun i p hp => ?_⟩
      · have := cell_lt c0
        rw [Addr.add_lit] at this
        exact this
      · have hil : i < len := by
          have := lt_of_some hp
          simpa using this
        rw [List.getElem?_map, List.getElem?_range hil] at hp
        obtain rfl : f i = p := Option.some.inj hp
        have at' : ∀ q v, (smcells (f i))[q]? = some v → w.cell? ⟨g, o + i * 4 + q, none⟩ = some v := by
          intro q v hv
          have := (hf i hil).1 q v hv
          rw [Addr.add_lit] at this
          rw [show o + i * 4 + q = o + (i * 4 + q) by omega]
          exact this
        exact ⟨(hf i hil).2, at' 0 _ rfl, at' 1 _ rfl, at' 2 _ rfl, at' 3 _ rfl⟩
set_option maxRecDepth 100000 in
theorem open_sms_of {r : Reach} {b0 : Nat} {v : Value} {d : DataW H} {q : List MemPlace} (hv : Value.okWide Tryd.prog w r b0 24 v) (h : DataW.Trod enc Tryd.prog w base spare held 24 v d q) :
    ∃ (A : Option Addr) (n c : Nat) (L : List SM), v = .slice A n c ∧ L.length = n ∧ n ≤ c ∧ c ≤ 9223372036854775807 ∧ SMs w A L := by
  obtain ⟨a, len, cap, rfl⟩ := okWide_slice Tryd.underlying24 hv
  obtain ⟨fuel, hf⟩ := h
  obtain ⟨A, n, c, L, e, hn, hc, hm, ht⟩ := open_sms hf
  have e' : (.slice a len cap : Value) = .slice A n c := by simpa [Value.cells] using e
  exact ⟨A, n, c, L, e', hn, hc, hm, ht⟩
end

end Go.Proofs.YtdppooflbjlbcaaDoor.I
