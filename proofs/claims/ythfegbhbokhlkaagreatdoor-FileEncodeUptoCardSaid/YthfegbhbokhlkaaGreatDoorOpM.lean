import Derived.Test.YthfegbhbokhlkaaGreatDoorPoolAddTwo
import Derived.Deep.Slices
import Derived.Deep.Strs
import Derived.Deep.Fields
import Derived.Lib.SmallJoins
import Derived.SizedLaws
import Derived.Test.YthfegbhbokhlkaaGreatDoorPcM
import Derived.Test.YthfegbhbokhlkaaGreatDoorGhM
import Derived.Test.YthfegbhbokhlkaaGreatDoorRows

/- PoolOpen -/
/- Layer 5: arguments that hold constants in memory, opened. -/
namespace Go.Proofs.YthfegbhbokhlkaaGreatDoor
open Go.ChangeShapes Go.WideShapes Go.ChangeAt Go.RowKit Go.Deep
set_option linter.unusedSimpArgs false
set_option linter.unusedVariables false

theorem cellsCn : Tryz.prog.cellsOf 80 = 5 := by kernel_rfl
theorem cellsI : Tryz.prog.cellsOf 3 = 1 := by kernel_rfl
theorem cellsS : Tryz.prog.cellsOf 9 = 1 := by kernel_rfl
theorem cell_lt {w : World} {a : Addr} {v : Value} (h : w.cell? a = some v) : a.block < w.heap.size := by
  rcases Nat.lt_or_ge a.block w.heap.size with hl | hl
  · exact hl
  · rw [World.cell?, Array.getElem?_eq_none hl] at h; simp at h

theorem list5 {α : Type} : ∀ (l : List α), l.length = 5 → ∃ a b c d e, l = [a, b, c, d, e]
  | [a, b, c, d, e], _ => ⟨a, b, c, d, e, rfl⟩
section
variable {H : Type} {enc : TypeId × Value → H} {w : World} {base : Nat} {spare : Nat → Bool} {held : Bool}
set_option maxRecDepth 100000 in
theorem open_cn {fuel : Nat} {cs : List Value} {x : DataW H × List MemPlace} (h : DataW.trod enc Tryz.prog w base spare held fuel 80 cs = some x) :
    ∃ p : Cn, cs = cnCells p ∧ p.s.size ≤ 9223372036854775807 := by
  obtain ⟨xs, n, _, _, hl, hxl, hg⟩ := DataW.trod_struct Tryz.underlying80 h
  have h0 := hg 0 _ rfl
  have h1 := hg 1 _ rfl
  have h2 := hg 2 _ rfl
  have h3 := hg 3 _ rfl
  have h4 := hg 4 _ rfl
  rw [cellsCn] at hl
  obtain ⟨v0, v1, v2, v3, v4, rfl⟩ := list5 cs hl
  obtain ⟨y0, y1, y2, y3, y4, rfl⟩ := list5 xs hxl
  ·
    change DataW.trod enc Tryz.prog w base spare held n 3 (List.take (Tryz.prog.cellsOf 3) [v0, v1, v2, v3, v4]) = some y0 at h0
    change DataW.trod enc Tryz.prog w base spare held n 9 (List.take (Tryz.prog.cellsOf 9) [v1, v2, v3, v4]) = some y1 at h1
    change DataW.trod enc Tryz.prog w base spare held n 3 (List.take (Tryz.prog.cellsOf 3) [v2, v3, v4]) = some y2 at h2
    change DataW.trod enc Tryz.prog w base spare held n 3 (List.take (Tryz.prog.cellsOf 3) [v3, v4]) = some y3 at h3
    change DataW.trod enc Tryz.prog w base spare held n 3 (List.take (Tryz.prog.cellsOf 3) [v4]) = some y4 at h4
    rw [cellsI] at h0 h2 h3 h4
    rw [cellsS] at h1
    obtain ⟨a0, e0, _, _⟩ := DataW.trod_int Tryz.underlying3 h0
    obtain ⟨a1, e1, _, hs⟩ := DataW.trod_string Tryz.underlying9 h1
    obtain ⟨a2, e2, _, _⟩ := DataW.trod_int Tryz.underlying3 h2
    obtain ⟨a3, e3, _, _⟩ := DataW.trod_int Tryz.underlying3 h3
    obtain ⟨a4, e4, _, _⟩ := DataW.trod_int Tryz.underlying3 h4
    simp at e0 e1 e2 e3 e4
    subst e0 e1 e2 e3 e4
    exact ⟨⟨a0, a1, a2, a3, a4⟩, rfl, by unfold maxLen at hs; exact hs⟩
set_option maxRecDepth 100000 in
theorem open_pool {fuel : Nat} {cs : List Value} {x : DataW H × List MemPlace} (h : DataW.trod enc Tryz.prog w base spare held fuel 22 cs = some x) :
    ∃ (A : Option Addr) (n c : Nat) (L : List Cn), cs = [.slice A n c] ∧ L.length = n ∧ n ≤ c ∧ Pool w w.heap.size A L ∧ ∀ p ∈ L, p.s.size ≤ 9223372036854775807 := by
  rcases open_slice Tryz.underlying22 h with ⟨rfl, _⟩ | ⟨a, len, cap, m, n, D, Pl, rfl, hb, hl, hm, hmm, hx, hi⟩
  · exact ⟨none, 0, 0, [], rfl, rfl, Nat.le_refl _, Or.inl rfl, fun p hp => by cases hp⟩
  · have hlm : len ≤ m := by rw [hmm]; split <;> omega
    have key : ∀ i, i < len → ∃ p : Cn, (w.cell? (a.add (i * 5)) = some (.int .i64 p.t) ∧ w.cell? (a.add (i * 5 + 1)) = some (.string p.s) ∧ w.cell? (a.add (i * 5 + 2)) = some (.int .i64 p.n) ∧ w.cell? (a.add (i * 5 + 3)) = some (.int .i64 p.a) ∧ w.cell? (a.add (i * 5 + 4)) = some (.int .i64 p.b)) ∧ p.s.size ≤ 9223372036854775807 := by
      intro i hil
      obtain ⟨cs', hc, ht⟩ := hi i (by omega)
      rw [cellsCn] at hc
      obtain ⟨p, rfl, hp⟩ := open_cn ht
      obtain ⟨_, _, hat⟩ := World.cells?_some hc
      refine ⟨p, ⟨?_, ?_, ?_, ?_, ?_⟩, hp⟩
      · have := hat 0 (by decide); rwa [add_add] at this
      · have := hat 1 (by decide); rwa [add_add] at this
      · have := hat 2 (by decide); rwa [add_add] at this
      · have := hat 3 (by decide); rwa [add_add] at this
      · have := hat 4 (by decide); rwa [add_add] at this
    obtain ⟨f, hf⟩ : ∃ f : Nat → Cn, ∀ i, i < len → (w.cell? (a.add (i * 5)) = some (.int .i64 (f i).t) ∧ w.cell? (a.add (i * 5 + 1)) = some (.string (f i).s) ∧ w.cell? (a.add (i * 5 + 2)) = some (.int .i64 (f i).n) ∧ w.cell? (a.add (i * 5 + 3)) = some (.int .i64 (f i).a) ∧ w.cell? (a.add (i * 5 + 4)) = some (.int .i64 (f i).b)) ∧ (f i).s.size ≤ 9223372036854775807 :=
      ⟨fun i => if hi : i < len then (key i hi).choose else cnZ, fun i hi => by
        simp only [dif_pos hi]
        exact (key i hi).choose_spec⟩
    refine ⟨some a, len, cap, (List.range len).map f, rfl, by simp, hl, ?_, ?_⟩
    · rcases Nat.eq_zero_or_pos len with h0 | h0
      · exact Or.inl (by rw [h0]; rfl)
      · have c0 := (hf 0 h0).1.1
        obtain ⟨g, o, sp⟩ := a
        have hsp : sp = none := by
          have := World.cell?_spot c0
          simpa [Addr.add] using this
        subst hsp
        refine Or.inr ⟨g, o, rfl, ?_, fun i p hp => ?_⟩
        · have := cell_lt c0
          rw [Addr.add_lit] at this
          exact this
        · rw [List.getElem?_map] at hp
          cases hr : (List.range len)[i]? with
          | none => rw [hr] at hp; cases hp
          | some j =>
            rw [hr] at hp
            have hil : i < len := by
              rcases Nat.lt_or_ge i len with h | h
              · exact h
              · rw [List.getElem?_eq_none (by simpa using h)] at hr; cases hr
            have hj : j = i := by rw [List.getElem?_range hil] at hr; injection hr with hr; exact hr.symm
            subst hj
            injection hp with hp
            subst hp
            obtain ⟨⟨e0, e1, e2, e3, e4⟩, _⟩ := hf j hil
            rw [Addr.add_lit] at e0 e1 e2 e3 e4
            exact ⟨e0, e1, e2, e3, e4⟩
    · intro p hp
      rw [List.mem_map] at hp
      obtain ⟨j, hj, rfl⟩ := hp
      exact (hf j (List.mem_range.1 hj)).2
set_option maxRecDepth 100000 in
theorem open_pool_of {r : Reach} {b0 : Nat} {v : Value} {d : DataW H} {q : List MemPlace} (hv : Value.okWide Tryz.prog w r b0 22 v) (h : DataW.Trod enc Tryz.prog w base spare held 22 v d q) :
    ∃ (A : Option Addr) (n c : Nat) (L : List Cn), v = .slice A n c ∧ L.length = n ∧ n ≤ c ∧ Pool w w.heap.size A L ∧ ∀ p ∈ L, p.s.size ≤ 9223372036854775807 := by
  obtain ⟨a, len, cap, rfl⟩ := okWide_slice Tryz.underlying22 hv
  obtain ⟨fuel, hf⟩ := h
  obtain ⟨A, n, c, L, e, hn, hc, ht, hs⟩ := open_pool hf
  have e' : (.slice a len cap : Value) = .slice A n c := by simpa [Value.cells] using e
  exact ⟨A, n, c, L, e', hn, hc, ht, hs⟩
set_option maxRecDepth 100000 in
theorem open_const_of {r : Reach} {b0 : Nat} {v : Value} {d : DataW H} {q : List MemPlace} (hv : Value.okWide Tryz.prog w r b0 80 v) (h : DataW.Trod enc Tryz.prog w base spare held 80 v d q) :
    ∃ p : Cn, v = (Value.agg #[Value.int IntKind.i64 (Cn.t p), Value.string (Cn.s p), Value.int IntKind.i64 (Cn.n p), Value.int IntKind.i64 (Cn.a p), Value.int IntKind.i64 (Cn.b p)]) ∧ p.s.size ≤ 9223372036854775807 := by
  obtain ⟨cs, rfl, hsz⟩ := okWide_struct Tryz.underlying80 hv
  obtain ⟨fuel, hf⟩ := h
  obtain ⟨p, e, hp⟩ := open_cn hf
  refine ⟨p, ?_, hp⟩
  have e' : cs.toList = cnCells p := by simpa [Value.cells] using e
  have : cs = (cnCells p).toArray := by rw [← e']
  rw [this]; rfl
end

end Go.Proofs.YthfegbhbokhlkaaGreatDoor

/- PoolWts -/
/- Layer 5: what the reach says of a pool's texts. -/
namespace Go.Proofs.YthfegbhbokhlkaaGreatDoor
open Go.ChangeShapes Go.WideShapes Go.ChangeAt Go.RowKit Go.Deep
set_option linter.unusedSimpArgs false
set_option linter.unusedVariables false

theorem wts_all {H : Type} {P : Program} {e : TypeId} {d : DataW H} {l : List (DataW H)} {n : Nat} (h : d ∈ l) (hn : n ∈ d.weights P e) : n ∈ DataW.weightsAll P e l := by
  induction l with
  | nil => cases h
  | cons x r ih =>
    simp only [DataW.weightsAll, List.mem_append]
    cases List.mem_cons.1 h with
    | inl e => subst e; exact Or.inl hn
    | inr e => exact Or.inr (ih e)

section
variable {H : Type} {enc : TypeId × Value → H} {w : World} {base : Nat} {spare : Nat → Bool} {held : Bool}
set_option maxRecDepth 100000 in
theorem wts_cn {fuel : Nat} {p : Cn} {x : DataW H × List MemPlace} (h : DataW.trod enc Tryz.prog w base spare held fuel 80 (cnCells p) = some x) : p.s.size ∈ x.1.weights Tryz.prog 80 := by
  obtain ⟨xs, n, _, e, hl, hxl, hg⟩ := DataW.trod_struct Tryz.underlying80 h
  have h1 := hg 1 _ rfl
  obtain ⟨y0, y1, y2, y3, y4, rfl⟩ := list5 xs hxl
  change DataW.trod enc Tryz.prog w base spare held n 9 (List.take (Tryz.prog.cellsOf 9) [.string p.s, .int .i64 p.n, .int .i64 p.a, .int .i64 p.b]) = some y1 at h1
  rw [cellsS] at h1
  obtain ⟨a1, e1, e2, hs⟩ := DataW.trod_string Tryz.underlying9 h1
  simp at e1
  subst e1
  have hb : p.s.size ∈ y1.1.weights Tryz.prog 9 := by
    rw [e2]
    simp [DataW.weights, ByteArray.toList_eq]
  subst e
  show p.s.size ∈ DataW.weights Tryz.prog 80 (.agg [y0.1, y1.1, y2.1, y3.1, y4.1])
  simp only [DataW.weights, Tryz.underlying80]
  exact DataW.weights_mem_each (j := 1) rfl rfl _ hb
set_option maxRecDepth 100000 in
theorem open_pool_w {fuel : Nat} {cs : List Value} {x : DataW H × List MemPlace} (h : DataW.trod enc Tryz.prog w base spare held fuel 22 cs = some x) :
    ∃ (A : Option Addr) (n c : Nat) (L : List Cn), cs = [.slice A n c] ∧ L.length = n ∧ n ≤ c ∧ Pool w w.heap.size A L ∧ ∀ p ∈ L, p.s.size ∈ x.1.weights Tryz.prog 22 := by
  rcases open_slice Tryz.underlying22 h with ⟨rfl, _⟩ | ⟨a, len, cap, m, n, D, Pl, rfl, hb, hl, hm, hmm, hx, hi⟩
  · exact ⟨none, 0, 0, [], rfl, rfl, Nat.le_refl _, Or.inl rfl, fun p hp => by cases hp⟩
  · have hlm : len ≤ m := by rw [hmm]; split <;> omega
    have key : ∀ i, i < len → ∃ p : Cn, (w.cell? (a.add (i * 5)) = some (.int .i64 p.t) ∧ w.cell? (a.add (i * 5 + 1)) = some (.string p.s) ∧ w.cell? (a.add (i * 5 + 2)) = some (.int .i64 p.n) ∧ w.cell? (a.add (i * 5 + 3)) = some (.int .i64 p.a) ∧ w.cell? (a.add (i * 5 + 4)) = some (.int .i64 p.b)) ∧ p.s.size ∈ x.1.weights Tryz.prog 22 := by
      intro i hil
      obtain ⟨cs', hc, ht⟩ := hi i (by omega)
      rw [cellsCn] at hc
      obtain ⟨p, rfl, _⟩ := open_cn ht
      have hp : p.s.size ∈ x.1.weights Tryz.prog 22 := by
        rw [hx]
        have h9 := wts_all (P := Tryz.prog) (e := 80) (List.mem_map.2 ⟨i, List.mem_range.2 hil, rfl⟩ : D i ∈ (List.range len).map D) (wts_cn ht)
        simp only [DataW.weights, Tryz.underlying22, List.mem_cons, List.mem_append]
        exact Or.inr (Or.inl h9)
      obtain ⟨_, _, hat⟩ := World.cells?_some hc
      refine ⟨p, ⟨?_, ?_, ?_, ?_, ?_⟩, hp⟩
      · have := hat 0 (by decide); rwa [add_add] at this
      · have := hat 1 (by decide); rwa [add_add] at this
      · have := hat 2 (by decide); rwa [add_add] at this
      · have := hat 3 (by decide); rwa [add_add] at this
      · have := hat 4 (by decide); rwa [add_add] at this
    obtain ⟨f, hf⟩ : ∃ f : Nat → Cn, ∀ i, i < len → (w.cell? (a.add (i * 5)) = some (.int .i64 (f i).t) ∧ w.cell? (a.add (i * 5 + 1)) = some (.string (f i).s) ∧ w.cell? (a.add (i * 5 + 2)) = some (.int .i64 (f i).n) ∧ w.cell? (a.add (i * 5 + 3)) = some (.int .i64 (f i).a) ∧ w.cell? (a.add (i * 5 + 4)) = some (.int .i64 (f i).b)) ∧ (f i).s.size ∈ x.1.weights Tryz.prog 22 :=
      ⟨fun i => if hi : i < len then (key i hi).choose else cnZ, fun i hi => by
        simp only [dif_pos hi]
        exact (key i hi).choose_spec⟩
    refine ⟨some a, len, cap, (List.range len).map f, rfl, by simp, hl, ?_, ?_⟩
    · rcases Nat.eq_zero_or_pos len with h0 | h0
      · exact Or.inl (by rw [h0]; rfl)
      · have c0 := (hf 0 h0).1.1
        obtain ⟨g, o, sp⟩ := a
        have hsp : sp = none := by
          have := World.cell?_spot c0
          simpa [Addr.add] using this
        subst hsp
        refine Or.inr ⟨g, o, rfl, ?_, fun i p hp => ?_⟩
        · have := cell_lt c0
          rw [Addr.add_lit] at this
          exact this
        · rw [List.getElem?_map] at hp
          cases hr : (List.range len)[i]? with
          | none => rw [hr] at hp; cases hp
          | some j =>
            rw [hr] at hp
            have hil : i < len := by
              rcases Nat.lt_or_ge i len with h | h
              · exact h
              · rw [List.getElem?_eq_none (by simpa using h)] at hr; cases hr
            have hj : j = i := by rw [List.getElem?_range hil] at hr; injection hr with hr; exact hr.symm
            subst hj
            injection hp with hp
            subst hp
            obtain ⟨⟨e0, e1, e2, e3, e4⟩, _⟩ := hf j hil
            rw [Addr.add_lit] at e0 e1 e2 e3 e4
            exact ⟨e0, e1, e2, e3, e4⟩
    · intro p hp
      rw [List.mem_map] at hp
      obtain ⟨j, hj, rfl⟩ := hp
      exact (hf j (List.mem_range.1 hj)).2
set_option maxRecDepth 100000 in
theorem open_pool_wts {r : Reach} {b0 : Nat} {v : Value} {d : DataW H} {q : List MemPlace} (hv : Value.okWide Tryz.prog w r b0 22 v) (h : DataW.Trod enc Tryz.prog w base spare held 22 v d q) :
    ∃ (A : Option Addr) (n c : Nat) (L : List Cn), v = .slice A n c ∧ L.length = n ∧ n ≤ c ∧ Pool w w.heap.size A L ∧ ∀ p ∈ L, p.s.size ∈ d.weights Tryz.prog 22 := by
  obtain ⟨a, len, cap, rfl⟩ := okWide_slice Tryz.underlying22 hv
  obtain ⟨fuel, hf⟩ := h
  obtain ⟨A, n, c, L, e, hn, hc, ht, hs⟩ := open_pool_w hf
  have e' : (.slice a len cap : Value) = .slice A n c := by simpa [Value.cells] using e
  exact ⟨A, n, c, L, e', hn, hc, ht, hs⟩
end

end Go.Proofs.YthfegbhbokhlkaaGreatDoor

/- PcOpen -/
/- Layer 6: what the reach says of a pool's texts and numbers. -/
namespace Go.Proofs.YthfegbhbokhlkaaGreatDoor
open Go.ChangeShapes Go.WideShapes Go.ChangeAt Go.RowKit Go.Deep
set_option linter.unusedSimpArgs false
set_option linter.unusedVariables false

section
variable {H : Type} {enc : TypeId × Value → H} {w : World} {base : Nat} {spare : Nat → Bool} {held : Bool}
set_option maxRecDepth 100000 in
theorem rng_cn {fuel : Nat} {p : Cn} {x : DataW H × List MemPlace} (h : DataW.trod enc Tryz.prog w base spare held fuel 80 (cnCells p) = some x) : Rng p := by
  obtain ⟨xs, n, _, e, hl, hxl, hg⟩ := DataW.trod_struct Tryz.underlying80 h
  have h2 := hg 2 _ rfl
  obtain ⟨y0, y1, y2, y3, y4, rfl⟩ := list5 xs hxl
  change DataW.trod enc Tryz.prog w base spare held n 3 (List.take (Tryz.prog.cellsOf 3) [.int .i64 p.n, .int .i64 p.a, .int .i64 p.b]) = some y2 at h2
  rw [cellsI] at h2
  obtain ⟨a2, e2, _, hw⟩ := DataW.trod_int Tryz.underlying3 h2
  simp at e2
  subst e2
  simp only [Lit.wf, Bool.and_eq_true, decide_eq_true_iff] at hw
  exact ⟨hw.1, hw.2⟩
theorem u16_of {a : Int} (h : (Lit.int .u16 a).wf = true) : 0 ≤ a ∧ a ≤ 65535 := by
  simp only [Lit.wf, Bool.and_eq_true, decide_eq_true_iff] at h
  exact ⟨h.1, h.2⟩
set_option maxRecDepth 100000 in
theorem open_pool_wr {fuel : Nat} {cs : List Value} {x : DataW H × List MemPlace} (h : DataW.trod enc Tryz.prog w base spare held fuel 22 cs = some x) :
    ∃ (A : Option Addr) (n c : Nat) (L : List Cn), cs = [.slice A n c] ∧ L.length = n ∧ n ≤ c ∧ Pool w w.heap.size A L ∧ ∀ p ∈ L, (p.s.size ∈ x.1.weights Tryz.prog 22 ∧ Rng p) := by
  rcases open_slice Tryz.underlying22 h with ⟨rfl, _⟩ | ⟨a, len, cap, m, n, D, Pl, rfl, hb, hl, hm, hmm, hx, hi⟩
  · exact ⟨none, 0, 0, [], rfl, rfl, Nat.le_refl _, Or.inl rfl, fun p hp => by cases hp⟩
  · have hlm : len ≤ m := by rw [hmm]; split <;> omega
    have key : ∀ i, i < len → ∃ p : Cn, (w.cell? (a.add (i * 5)) = some (.int .i64 p.t) ∧ w.cell? (a.add (i * 5 + 1)) = some (.string p.s) ∧ w.cell? (a.add (i * 5 + 2)) = some (.int .i64 p.n) ∧ w.cell? (a.add (i * 5 + 3)) = some (.int .i64 p.a) ∧ w.cell? (a.add (i * 5 + 4)) = some (.int .i64 p.b)) ∧ (p.s.size ∈ x.1.weights Tryz.prog 22 ∧ Rng p) := by
      intro i hil
      obtain ⟨cs', hc, ht⟩ := hi i (by omega)
      rw [cellsCn] at hc
      obtain ⟨p, rfl, _⟩ := open_cn ht
      have hp : (p.s.size ∈ x.1.weights Tryz.prog 22 ∧ Rng p) := by
        refine ⟨?_, rng_cn ht⟩
        rw [hx]
        have h9 := wts_all (P := Tryz.prog) (e := 80) (List.mem_map.2 ⟨i, List.mem_range.2 hil, rfl⟩ : D i ∈ (List.range len).map D) (wts_cn ht)
        simp only [DataW.weights, Tryz.underlying22, List.mem_cons, List.mem_append]
        exact Or.inr (Or.inl h9)
      obtain ⟨_, _, hat⟩ := World.cells?_some hc
      refine ⟨p, ⟨?_, ?_, ?_, ?_, ?_⟩, hp⟩
      · have := hat 0 (by decide); rwa [add_add] at this
      · have := hat 1 (by decide); rwa [add_add] at this
      · have := hat 2 (by decide); rwa [add_add] at this
      · have := hat 3 (by decide); rwa [add_add] at this
      · have := hat 4 (by decide); rwa [add_add] at this
    obtain ⟨f, hf⟩ : ∃ f : Nat → Cn, ∀ i, i < len → (w.cell? (a.add (i * 5)) = some (.int .i64 (f i).t) ∧ w.cell? (a.add (i * 5 + 1)) = some (.string (f i).s) ∧ w.cell? (a.add (i * 5 + 2)) = some (.int .i64 (f i).n) ∧ w.cell? (a.add (i * 5 + 3)) = some (.int .i64 (f i).a) ∧ w.cell? (a.add (i * 5 + 4)) = some (.int .i64 (f i).b)) ∧ ((f i).s.size ∈ x.1.weights Tryz.prog 22 ∧ Rng (f i)) :=
      ⟨fun i => if hi : i < len then (key i hi).choose else cnZ, fun i hi => by
        simp only [dif_pos hi]
        exact (key i hi).choose_spec⟩
    refine ⟨some a, len, cap, (List.range len).map f, rfl, by simp, hl, ?_, ?_⟩
    · rcases Nat.eq_zero_or_pos len with h0 | h0
      · exact Or.inl (by rw [h0]; rfl)
      · have c0 := (hf 0 h0).1.1
        obtain ⟨g, o, sp⟩ := a
        have hsp : sp = none := by
          have := World.cell?_spot c0
          simpa [Addr.add] using this
        subst hsp
        refine Or.inr ⟨g, o, rfl, ?_, fun i p hp => ?_⟩
        · have := cell_lt c0
          rw [Addr.add_lit] at this
          exact this
        · rw [List.getElem?_map] at hp
          cases hr : (List.range len)[i]? with
          | none => rw [hr] at hp; cases hp
          | some j =>
            rw [hr] at hp
            have hil : i < len := by
              rcases Nat.lt_or_ge i len with h | h
              · exact h
              · rw [List.getElem?_eq_none (by simpa using h)] at hr; cases hr
            have hj : j = i := by rw [List.getElem?_range hil] at hr; injection hr with hr; exact hr.symm
            subst hj
            injection hp with hp
            subst hp
            obtain ⟨⟨e0, e1, e2, e3, e4⟩, _⟩ := hf j hil
            rw [Addr.add_lit] at e0 e1 e2 e3 e4
            exact ⟨e0, e1, e2, e3, e4⟩
    · intro p hp
      rw [List.mem_map] at hp
      obtain ⟨j, hj, rfl⟩ := hp
      exact (hf j (List.mem_range.1 hj)).2
set_option maxRecDepth 100000 in
theorem open_pool_rng {r : Reach} {b0 : Nat} {v : Value} {d : DataW H} {q : List MemPlace} (hv : Value.okWide Tryz.prog w r b0 22 v) (h : DataW.Trod enc Tryz.prog w base spare held 22 v d q) :
    ∃ (A : Option Addr) (n c : Nat) (L : List Cn), v = .slice A n c ∧ L.length = n ∧ n ≤ c ∧ Pool w w.heap.size A L ∧ ∀ p ∈ L, (p.s.size ∈ d.weights Tryz.prog 22 ∧ Rng p) := by
  obtain ⟨a, len, cap, rfl⟩ := okWide_slice Tryz.underlying22 hv
  obtain ⟨fuel, hf⟩ := h
  obtain ⟨A, n, c, L, e, hn, hc, ht, hs⟩ := open_pool_wr hf
  have e' : (.slice a len cap : Value) = .slice A n c := by simpa [Value.cells] using e
  exact ⟨A, n, c, L, e', hn, hc, ht, hs⟩
end

end Go.Proofs.YthfegbhbokhlkaaGreatDoor

/- Gs -/
/- Layer 11: a class file as a parameter hands it over, opened. -/
namespace Go.Proofs.YthfegbhbokhlkaaGreatDoor
open Go.ChangeShapes Go.WideShapes Go.ChangeAt Go.RowKit Go.Deep
set_option linter.unusedSimpArgs false
set_option linter.unusedVariables false

theorem cellsAt : Tryz.prog.cellsOf 93 = 2 := by kernel_rfl
theorem cellsMb : Tryz.prog.cellsOf 39 = 4 := by kernel_rfl
theorem cellsFi : Tryz.prog.cellsOf 27 = 8 := by kernel_rfl
theorem cellsPs : Tryz.prog.cellsOf 22 = 1 := by kernel_rfl
theorem cellsIs : Tryz.prog.cellsOf 23 = 1 := by kernel_rfl
theorem cellsMs : Tryz.prog.cellsOf 24 = 1 := by kernel_rfl
theorem cellsAs : Tryz.prog.cellsOf 25 = 1 := by kernel_rfl
theorem bytesAt : Tryz.prog.bytesOf 93 = 24 := by kernel_rfl
theorem list2G {α : Type} : ∀ (l : List α), l.length = 2 → ∃ a b, l = [a, b]
  | [a, b], _ => ⟨a, b, rfl⟩
theorem list4G {α : Type} : ∀ (l : List α), l.length = 4 → ∃ a b c d, l = [a, b, c, d]
  | [a, b, c, d], _ => ⟨a, b, c, d, rfl⟩
theorem list8G {α : Type} : ∀ (l : List α), l.length = 8 → ∃ a b c d e f g h, l = [a, b, c, d, e, f, g, h]
  | [a, b, c, d, e, f, g, h], _ => ⟨a, b, c, d, e, f, g, h, rfl⟩
section
variable {H : Type} {enc : TypeId × Value → H} {w : World} {base : Nat} {spare : Nat → Bool} {held : Bool}
set_option maxRecDepth 100000 in
theorem open_rows {α : Type} {e t : TypeId} {F : α → List Value} {z by' : Nat} (d0 : α) (hu : Tryz.prog.underlying t = some (.slice e)) (hz : Tryz.prog.cellsOf e = z) (hb' : Tryz.prog.bytesOf e = by') (h0 : 0 < z) (hlen : ∀ x, (F x).length = z) (Pr : α → DataW H → Prop)
    (hop : ∀ (fuel : Nat) (cs : List Value) (x : DataW H × List MemPlace), DataW.trod enc Tryz.prog w base spare held fuel e cs = some x → ∃ p, cs = F p ∧ Pr p x.1) {fuel : Nat} {cs : List Value} {x : DataW H × List MemPlace} (h : DataW.trod enc Tryz.prog w base spare held fuel t cs = some x) :
    ∃ (A : Option Addr) (n c : Nat) (L : List α), cs = [.slice A n c] ∧ L.length = n ∧ RowAt F z w A L ∧ (∀ p ∈ L, ∃ d, Pr p d ∧ ∀ q ∈ d.weights Tryz.prog e, q ∈ x.1.weights Tryz.prog t) ∧ (n = 0 ∨ ∃ q ∈ x.1.weights Tryz.prog t, n * by' ≤ q) := by
  rcases open_slice hu h with ⟨rfl, _⟩ | ⟨a, len, cap, m, n, D, Pl, rfl, hb, hl, hm, hmm, hx, hi⟩
  · exact ⟨none, 0, 0, [], rfl, rfl, Or.inl rfl, fun p hp => (by cases hp), Or.inl rfl⟩
  · have hlm : len ≤ m := by rw [hmm]; split <;> omega
    have key : ∀ i, i < len → ∃ p : α, (∀ j v, (F p)[j]? = some v → w.cell? (a.add (i * z + j)) = some v) ∧ ∃ d, Pr p d ∧ ∀ q ∈ d.weights Tryz.prog e, q ∈ x.1.weights Tryz.prog t := by
      intro i hil
      obtain ⟨cs', hc, ht⟩ := hi i (by omega)
      rw [hz] at hc
      obtain ⟨p, rfl, hp⟩ := hop _ _ _ ht
      obtain ⟨_, _, hat⟩ := World.cells?_some hc
      refine ⟨p, fun j v hv => ?_, _, hp, fun q hq => ?_⟩
      · have hj : j < z := by
          rcases Nat.lt_or_ge j z with h | h
          · exact h
          · rw [List.getElem?_eq_none (by rw [hlen]; exact h)] at hv; cases hv
        have := hat j hj
        rw [add_add] at this
        rw [this, hv]
      · rw [hx]
        have h9 := wts_all (P := Tryz.prog) (e := e) (List.mem_map.2 ⟨i, List.mem_range.2 hil, rfl⟩ : D i ∈ (List.range len).map D) hq
        simp only [DataW.weights, hu, List.mem_cons, List.mem_append]
        exact Or.inr (Or.inl h9)
    obtain ⟨f, hf⟩ : ∃ f : Nat → α, ∀ i, i < len → (∀ j v, (F (f i))[j]? = some v → w.cell? (a.add (i * z + j)) = some v) ∧ ∃ d, Pr (f i) d ∧ ∀ q ∈ d.weights Tryz.prog e, q ∈ x.1.weights Tryz.prog t :=
      ⟨fun i => if hi : i < len then (key i hi).choose else d0, fun i hi => by
        simp only [dif_pos hi]
        exact (key i hi).choose_spec⟩
    refine ⟨some a, len, cap, (List.range len).map f, rfl, by simp, ?_, ?_, ?_⟩
    · rcases Nat.eq_zero_or_pos len with h0' | h0'
      · exact Or.inl (by rw [h0']; rfl)
      · obtain ⟨v0, hv0⟩ : ∃ v0, (F (f 0))[0]? = some v0 := ⟨(F (f 0))[0]'(by rw [hlen]; exact h0), List.getElem?_eq_getElem _⟩
        have c0 := (hf 0 h0').1 0 _ hv0
        obtain ⟨g, o, sp⟩ := a
        have hsp : sp = none := by
          have := World.cell?_spot c0
          simpa [Addr.add] using this
        subst hsp
        refine Or.inr ⟨g, o, rfl, ?_, fun i p hp => ?_⟩
        · have := cell_lt c0
          rw [Addr.add_lit] at this
          exact this
        · have hil : i < len := by
            rcases Nat.lt_or_ge i len with h | h
            · exact h
            · rw [List.getElem?_eq_none (by simpa using h)] at hp; cases hp
          rw [List.getElem?_map, List.getElem?_range hil] at hp
          obtain rfl : f i = p := Option.some.inj hp
          intro q v hv
          have := (hf i hil).1 q v hv
          rw [Addr.add_lit] at this
          rw [show o + i * z + q = o + (i * z + q) by omega]
          exact this
    · intro p hp
      rw [List.mem_map] at hp
      obtain ⟨j, hj, rfl⟩ := hp
      exact (hf j (List.mem_range.1 hj)).2
    · refine Or.inr ⟨(len + (m - len)) * by', ?_, Nat.mul_le_mul_right _ (Nat.le_add_right _ _)⟩
      rw [hx]
      simp only [DataW.weights, hu, hb', List.length_map, List.length_range]
      exact List.mem_cons_self
set_option maxRecDepth 100000 in
theorem open_at {fuel : Nat} {cs : List Value} {x : DataW H × List MemPlace} (h : DataW.trod enc Tryz.prog w base spare held fuel 93 cs = some x) : ∃ p : Atr, cs = aF p ∧ True := by
  obtain ⟨xs, n, _, _, hl, hxl, hg⟩ := DataW.trod_struct Tryz.underlying93 h
  have h0 := hg 0 _ rfl
  have h1 := hg 1 _ rfl
  rw [cellsAt] at hl
  obtain ⟨v0, v1, rfl⟩ := list2G cs hl
  obtain ⟨y0, y1, rfl⟩ := list2G xs hxl
  change DataW.trod enc Tryz.prog w base spare held n 3 (List.take (Tryz.prog.cellsOf 3) [v0, v1]) = some y0 at h0
  rw [cellsI] at h0
  change DataW.trod enc Tryz.prog w base spare held n 9 (List.take (Tryz.prog.cellsOf 9) [v1]) = some y1 at h1
  rw [cellsS] at h1
  obtain ⟨a0, e0, _, _⟩ := DataW.trod_int Tryz.underlying3 h0
  obtain ⟨a1, e1, _, _⟩ := DataW.trod_string Tryz.underlying9 h1
  simp at e0 e1
  subst e0 e1
  exact ⟨⟨a0, a1⟩, rfl, trivial⟩
/-- what is known of a member that came in -/
def MbP (w : World) (P : Program) (t : TypeId) (m : Mb) (d : DataW H) : Prop := m.ok w ∧ (m.k = 0 ∨ ∃ q ∈ d.weights P t, m.k * 24 ≤ q)
set_option maxRecDepth 100000 in
theorem open_mb {fuel : Nat} {cs : List Value} {x : DataW H × List MemPlace} (h : DataW.trod enc Tryz.prog w base spare held fuel 39 cs = some x) : ∃ p : Mb, cs = mF p ∧ MbP w Tryz.prog 39 p x.1 := by
  obtain ⟨xs, n, _, ex, hl, hxl, hg⟩ := DataW.trod_struct Tryz.underlying39 h
  have h0 := hg 0 _ rfl
  have h1 := hg 1 _ rfl
  have h2 := hg 2 _ rfl
  have h3 := hg 3 _ rfl
  rw [cellsMb] at hl
  obtain ⟨v0, v1, v2, v3, rfl⟩ := list4G cs hl
  obtain ⟨y0, y1, y2, y3, rfl⟩ := list4G xs hxl
  change DataW.trod enc Tryz.prog w base spare held n 3 (List.take (Tryz.prog.cellsOf 3) [v0, v1, v2, v3]) = some y0 at h0
  change DataW.trod enc Tryz.prog w base spare held n 3 (List.take (Tryz.prog.cellsOf 3) [v1, v2, v3]) = some y1 at h1
  change DataW.trod enc Tryz.prog w base spare held n 3 (List.take (Tryz.prog.cellsOf 3) [v2, v3]) = some y2 at h2
  change DataW.trod enc Tryz.prog w base spare held n 25 (List.take (Tryz.prog.cellsOf 25) [v3]) = some y3 at h3
  rw [cellsI] at h0 h1 h2
  rw [cellsAs] at h3
  obtain ⟨a0, e0, _, _⟩ := DataW.trod_int Tryz.underlying3 h0
  obtain ⟨a1, e1, _, _⟩ := DataW.trod_int Tryz.underlying3 h1
  obtain ⟨a2, e2, _, _⟩ := DataW.trod_int Tryz.underlying3 h2
  obtain ⟨A3, n3, c3, L3, e3, l3, r3, _, q3⟩ := open_rows (⟨0, ⟨#[]⟩⟩ : Atr) Tryz.underlying25 cellsAt bytesAt (by decide) aF_len (fun _ _ => True) (fun _ _ _ h => open_at h) h3
  simp at e0 e1 e2 e3
  subst e0 e1 e2 e3
  refine ⟨⟨a0, a1, a2, A3, n3, c3, L3⟩, rfl, ⟨l3, r3⟩, ?_⟩
  rcases q3 with h0 | ⟨q, hq, hle⟩
  · exact Or.inl h0
  · refine Or.inr ⟨q, ?_, hle⟩
    subst ex
    show q ∈ DataW.weights Tryz.prog 39 (.agg [y0.1, y1.1, y2.1, y3.1])
    simp only [DataW.weights, Tryz.underlying39]
    exact DataW.weights_mem_each (j := 3) rfl rfl _ hq
theorem open_i {fuel : Nat} {cs : List Value} {x : DataW H × List MemPlace} (h : DataW.trod enc Tryz.prog w base spare held fuel 3 cs = some x) : ∃ p : Int, cs = iF p ∧ True := by
  obtain ⟨a0, e0, _, _⟩ := DataW.trod_int Tryz.underlying3 h
  exact ⟨a0, e0, trivial⟩
/-- what is known of a file that came in; W its weights -/
structure FiP (w : World) (W : List Nat) (F : Fi) : Prop where
  ok : F.ok w
  ps : ∀ c ∈ F.p, c.s.size ∈ W
  pr : ∀ c ∈ F.p, Rng c
  mk' : ∀ x ∈ F.m, x.k = 0 ∨ ∃ q ∈ W, x.k * 24 ≤ q
  gk' : ∀ x ∈ F.g, x.k = 0 ∨ ∃ q ∈ W, x.k * 24 ≤ q
theorem bytesI : ∃ n, Tryz.prog.bytesOf 3 = n := ⟨_, rfl⟩
theorem bytesMb : ∃ n, Tryz.prog.bytesOf 39 = n := ⟨_, rfl⟩
set_option maxRecDepth 100000 in
set_option maxHeartbeats 1000000 in
theorem open_file {fuel : Nat} {cs : List Value} {x : DataW H × List MemPlace} (h : DataW.trod enc Tryz.prog w base spare held fuel 27 cs = some x) : ∃ F : Fi, cs = [.slice F.pA F.pn F.pc, .int .i64 F.f, .int .i64 F.t, .int .i64 F.s, .slice F.iA F.ij F.ic, .slice F.mA F.mj F.mc, .slice F.gA F.gj F.gc, .slice F.aA F.aj F.ac] ∧ FiP w (DataW.weights Tryz.prog 27 x.1) F := by
  obtain ⟨xs, n, _, ex, hl, hxl, hg⟩ := DataW.trod_struct Tryz.underlying27 h
  have h0 := hg 0 _ rfl
  have h1 := hg 1 _ rfl
  have h2 := hg 2 _ rfl
  have h3 := hg 3 _ rfl
  have h4 := hg 4 _ rfl
  have h5 := hg 5 _ rfl
  have h6 := hg 6 _ rfl
  have h7 := hg 7 _ rfl
  rw [cellsFi] at hl
  obtain ⟨v0, v1, v2, v3, v4, v5, v6, v7, rfl⟩ := list8G cs hl
  obtain ⟨y0, y1, y2, y3, y4, y5, y6, y7, rfl⟩ := list8G xs hxl
  change DataW.trod enc Tryz.prog w base spare held n 22 (List.take (Tryz.prog.cellsOf 22) [v0, v1, v2, v3, v4, v5, v6, v7]) = some y0 at h0
  change DataW.trod enc Tryz.prog w base spare held n 3 (List.take (Tryz.prog.cellsOf 3) [v1, v2, v3, v4, v5, v6, v7]) = some y1 at h1
  change DataW.trod enc Tryz.prog w base spare held n 3 (List.take (Tryz.prog.cellsOf 3) [v2, v3, v4, v5, v6, v7]) = some y2 at h2
  change DataW.trod enc Tryz.prog w base spare held n 3 (List.take (Tryz.prog.cellsOf 3) [v3, v4, v5, v6, v7]) = some y3 at h3
  change DataW.trod enc Tryz.prog w base spare held n 23 (List.take (Tryz.prog.cellsOf 23) [v4, v5, v6, v7]) = some y4 at h4
  change DataW.trod enc Tryz.prog w base spare held n 24 (List.take (Tryz.prog.cellsOf 24) [v5, v6, v7]) = some y5 at h5
  change DataW.trod enc Tryz.prog w base spare held n 24 (List.take (Tryz.prog.cellsOf 24) [v6, v7]) = some y6 at h6
  change DataW.trod enc Tryz.prog w base spare held n 25 (List.take (Tryz.prog.cellsOf 25) [v7]) = some y7 at h7
  rw [cellsPs] at h0
  rw [cellsI] at h1 h2 h3
  rw [cellsIs] at h4
  rw [cellsMs] at h5 h6
  rw [cellsAs] at h7
  obtain ⟨A0, n0, c0, L0, e0, l0, k0, r0, q0⟩ := open_pool_wr h0
  obtain ⟨a1, e1, _, _⟩ := DataW.trod_int Tryz.underlying3 h1
  obtain ⟨a2, e2, _, _⟩ := DataW.trod_int Tryz.underlying3 h2
  obtain ⟨a3, e3, _, _⟩ := DataW.trod_int Tryz.underlying3 h3
  obtain ⟨bI, hbI⟩ := bytesI
  obtain ⟨bM, hbM⟩ := bytesMb
  obtain ⟨A4, n4, c4, L4, e4, l4, r4, _, _⟩ := open_rows (0 : Int) Tryz.underlying23 cellsI hbI (by decide) iF_len (fun _ _ => True) (fun _ _ _ h => open_i h) h4
  obtain ⟨A5, n5, c5, L5, e5, l5, r5, q5, _⟩ := open_rows (⟨0, 0, 0, none, 0, 0, []⟩ : Mb) Tryz.underlying24 cellsMb hbM (by decide) mF_len (MbP w Tryz.prog 39) (fun _ _ _ h => open_mb h) h5
  obtain ⟨A6, n6, c6, L6, e6, l6, r6, q6, _⟩ := open_rows (⟨0, 0, 0, none, 0, 0, []⟩ : Mb) Tryz.underlying24 cellsMb hbM (by decide) mF_len (MbP w Tryz.prog 39) (fun _ _ _ h => open_mb h) h6
  obtain ⟨A7, n7, c7, L7, e7, l7, r7, _, _⟩ := open_rows (⟨0, ⟨#[]⟩⟩ : Atr) Tryz.underlying25 cellsAt bytesAt (by decide) aF_len (fun _ _ => True) (fun _ _ _ h => open_at h) h7
  simp at e0 e1 e2 e3 e4 e5 e6 e7
  subst e0 e1 e2 e3 e4 e5 e6 e7
  have hw : ∀ (j : Nat) (y : DataW H × List MemPlace) (t : TypeId) (q : Nat), [y0, y1, y2, y3, y4, y5, y6, y7][j]? = some y → [22, 3, 3, 3, 23, 24, 24, 25][j]? = some t → q ∈ y.1.weights Tryz.prog t → q ∈ x.1.weights Tryz.prog 27 := by
    intro j y t q hy ht hq
    subst ex
    show q ∈ DataW.weights Tryz.prog 27 (.agg [y0.1, y1.1, y2.1, y3.1, y4.1, y5.1, y6.1, y7.1])
    simp only [DataW.weights, Tryz.underlying27]
    rcases j with _ | _ | _ | _ | _ | _ | _ | _ | j
    · cases hy; cases ht; exact DataW.weights_mem_each (j := 0) rfl rfl _ hq
    · cases hy; cases ht; exact DataW.weights_mem_each (j := 1) rfl rfl _ hq
    · cases hy; cases ht; exact DataW.weights_mem_each (j := 2) rfl rfl _ hq
    · cases hy; cases ht; exact DataW.weights_mem_each (j := 3) rfl rfl _ hq
    · cases hy; cases ht; exact DataW.weights_mem_each (j := 4) rfl rfl _ hq
    · cases hy; cases ht; exact DataW.weights_mem_each (j := 5) rfl rfl _ hq
    · cases hy; cases ht; exact DataW.weights_mem_each (j := 6) rfl rfl _ hq
    · cases hy; cases ht; exact DataW.weights_mem_each (j := 7) rfl rfl _ hq
    · simp at hy
  refine ⟨⟨L0, A0, n0, c0, a1, a2, a3, L4, A4, n4, c4, L5, A5, n5, c5, L6, A6, n6, c6, L7, A7, n7, c7⟩, rfl, ?_⟩
  refine ⟨⟨l0, r0, l4, r4, l5, r5, fun m hm => (q5 m hm).elim fun d hd => hd.1.1, l6, r6, fun m hm => (q6 m hm).elim fun d hd => hd.1.1, l7, r7⟩, fun c hc => hw 0 y0 _ _ rfl rfl (q0 c hc).1, fun c hc => (q0 c hc).2, fun m hm => ?_, fun m hm => ?_⟩
  · obtain ⟨d, hd, hq⟩ := q5 m hm
    rcases hd.2 with h | ⟨q, h1, h2⟩
    · exact Or.inl h
    · exact Or.inr ⟨q, hw 5 y5 _ _ rfl rfl (hq q h1), h2⟩
  · obtain ⟨d, hd, hq⟩ := q6 m hm
    rcases hd.2 with h | ⟨q, h1, h2⟩
    · exact Or.inl h
    · exact Or.inr ⟨q, hw 6 y6 _ _ rfl rfl (hq q h1), h2⟩
set_option maxRecDepth 100000 in
theorem open_file_of {r : Reach} {b0 : Nat} {v : Value} {d : DataW H} {q : List MemPlace} (hv : Value.okWide Tryz.prog w r b0 27 v) (h : DataW.Trod enc Tryz.prog w base spare held 27 v d q) :
    ∃ F : Fi, v = F.val ∧ FiP w (DataW.weights Tryz.prog 27 d) F := by
  obtain ⟨cs, rfl, hsz⟩ := okWide_struct Tryz.underlying27 hv
  obtain ⟨fuel, hf⟩ := h
  obtain ⟨u, e, hu⟩ := open_file hf
  refine ⟨u, ?_, hu⟩
  have e' : cs.toList = [.slice u.pA u.pn u.pc, .int .i64 u.f, .int .i64 u.t, .int .i64 u.s, .slice u.iA u.ij u.ic, .slice u.mA u.mj u.mc, .slice u.gA u.gj u.gc, .slice u.aA u.aj u.ac] := by simpa [Value.cells] using e
  have : cs = #[.slice u.pA u.pn u.pc, .int .i64 u.f, .int .i64 u.t, .int .i64 u.s, .slice u.iA u.ij u.ic, .slice u.mA u.mj u.mc, .slice u.gA u.gj u.gc, .slice u.aA u.aj u.ac] := by rw [← Array.toList_inj, e']
  rw [this]
  rfl
end

end Go.Proofs.YthfegbhbokhlkaaGreatDoor

/- PoolBulk -/
/- Layer 5: what the bound of the second form says of a pool's texts. -/
namespace Go.Proofs.YthfegbhbokhlkaaGreatDoor
open Go.ChangeShapes Go.WideShapes Go.ChangeAt Go.RowKit Go.Deep
set_option linter.unusedSimpArgs false
set_option linter.unusedVariables false

theorem bulk_part {H : Type} {d : DataW H} {l : List (DataW H)} (h : d ∈ l) : Rows.uptoBulk d ≤ Rows.uptoBulkAll l := by
  induction l with
  | nil => cases h
  | cons x r ih =>
    simp only [Rows.uptoBulkAll]
    cases List.mem_cons.1 h with
    | inl e => subst e; omega
    | inr e => have := ih e; omega

section
variable {H : Type} {enc : TypeId × Value → H} {w : World} {base : Nat} {spare : Nat → Bool} {held : Bool}
set_option maxRecDepth 100000 in
theorem bulk_cn {fuel : Nat} {p : Cn} {x : DataW H × List MemPlace} (h : DataW.trod enc Tryz.prog w base spare held fuel 80 (cnCells p) = some x) : p.s.size ≤ Rows.uptoBulk x.1 := by
  obtain ⟨xs, n, _, e, hl, hxl, hg⟩ := DataW.trod_struct Tryz.underlying80 h
  have h1 := hg 1 _ rfl
  obtain ⟨y0, y1, y2, y3, y4, rfl⟩ := list5 xs hxl
  change DataW.trod enc Tryz.prog w base spare held n 9 (List.take (Tryz.prog.cellsOf 9) [.string p.s, .int .i64 p.n, .int .i64 p.a, .int .i64 p.b]) = some y1 at h1
  rw [cellsS] at h1
  obtain ⟨a1, e1, e2, hs⟩ := DataW.trod_string Tryz.underlying9 h1
  simp at e1
  subst e1
  have hb : p.s.size ≤ Rows.uptoBulk y1.1 := by
    rw [e2]
    simp [Rows.uptoBulk, ByteArray.toList_eq]
  subst e
  exact Nat.le_trans hb (Nat.le_trans (bulk_part (l := [y0.1, y1.1, y2.1, y3.1, y4.1]) (by simp)) (by simp [Rows.uptoBulk]))
set_option maxRecDepth 100000 in
theorem open_pool_b {fuel : Nat} {cs : List Value} {x : DataW H × List MemPlace} (h : DataW.trod enc Tryz.prog w base spare held fuel 22 cs = some x) :
    ∃ (A : Option Addr) (n c : Nat) (L : List Cn), cs = [.slice A n c] ∧ L.length = n ∧ n ≤ c ∧ Pool w w.heap.size A L ∧ ∀ p ∈ L, p.s.size ≤ Rows.uptoBulk x.1 := by
  rcases open_slice Tryz.underlying22 h with ⟨rfl, _⟩ | ⟨a, len, cap, m, n, D, Pl, rfl, hb, hl, hm, hmm, hx, hi⟩
  · exact ⟨none, 0, 0, [], rfl, rfl, Nat.le_refl _, Or.inl rfl, fun p hp => by cases hp⟩
  · have hlm : len ≤ m := by rw [hmm]; split <;> omega
    have key : ∀ i, i < len → ∃ p : Cn, (w.cell? (a.add (i * 5)) = some (.int .i64 p.t) ∧ w.cell? (a.add (i * 5 + 1)) = some (.string p.s) ∧ w.cell? (a.add (i * 5 + 2)) = some (.int .i64 p.n) ∧ w.cell? (a.add (i * 5 + 3)) = some (.int .i64 p.a) ∧ w.cell? (a.add (i * 5 + 4)) = some (.int .i64 p.b)) ∧ p.s.size ≤ Rows.uptoBulk x.1 := by
      intro i hil
      obtain ⟨cs', hc, ht⟩ := hi i (by omega)
      rw [cellsCn] at hc
      obtain ⟨p, rfl, _⟩ := open_cn ht
      have hp : p.s.size ≤ Rows.uptoBulk x.1 := Nat.le_trans (bulk_cn ht) (by
        rw [hx]
        have := bulk_part (d := D i) (l := (List.range len).map D) (List.mem_map.2 ⟨i, List.mem_range.2 hil, rfl⟩)
        simp only [Rows.uptoBulk]; omega)
      obtain ⟨_, _, hat⟩ := World.cells?_some hc
      refine ⟨p, ⟨?_, ?_, ?_, ?_, ?_⟩, hp⟩
      · have := hat 0 (by decide); rwa [add_add] at this
      · have := hat 1 (by decide); rwa [add_add] at this
      · have := hat 2 (by decide); rwa [add_add] at this
      · have := hat 3 (by decide); rwa [add_add] at this
      · have := hat 4 (by decide); rwa [add_add] at this
    obtain ⟨f, hf⟩ : ∃ f : Nat → Cn, ∀ i, i < len → (w.cell? (a.add (i * 5)) = some (.int .i64 (f i).t) ∧ w.cell? (a.add (i * 5 + 1)) = some (.string (f i).s) ∧ w.cell? (a.add (i * 5 + 2)) = some (.int .i64 (f i).n) ∧ w.cell? (a.add (i * 5 + 3)) = some (.int .i64 (f i).a) ∧ w.cell? (a.add (i * 5 + 4)) = some (.int .i64 (f i).b)) ∧ (f i).s.size ≤ Rows.uptoBulk x.1 :=
      ⟨fun i => if hi : i < len then (key i hi).choose else cnZ, fun i hi => by
        simp only [dif_pos hi]
        exact (key i hi).choose_spec⟩
    refine ⟨some a, len, cap, (List.range len).map f, rfl, by simp, hl, ?_, ?_⟩
    · rcases Nat.eq_zero_or_pos len with h0 | h0
      · exact Or.inl (by rw [h0]; rfl)
      · have c0 := (hf 0 h0).1.1
        obtain ⟨g, o, sp⟩ := a
        have hsp : sp = none := by
          have := World.cell?_spot c0
          simpa [Addr.add] using this
        subst hsp
        refine Or.inr ⟨g, o, rfl, ?_, fun i p hp => ?_⟩
        · have := cell_lt c0
          rw [Addr.add_lit] at this
          exact this
        · rw [List.getElem?_map] at hp
          cases hr : (List.range len)[i]? with
          | none => rw [hr] at hp; cases hp
          | some j =>
            rw [hr] at hp
            have hil : i < len := by
              rcases Nat.lt_or_ge i len with h | h
              · exact h
              · rw [List.getElem?_eq_none (by simpa using h)] at hr; cases hr
            have hj : j = i := by rw [List.getElem?_range hil] at hr; injection hr with hr; exact hr.symm
            subst hj
            injection hp with hp
            subst hp
            obtain ⟨⟨e0, e1, e2, e3, e4⟩, _⟩ := hf j hil
            rw [Addr.add_lit] at e0 e1 e2 e3 e4
            exact ⟨e0, e1, e2, e3, e4⟩
    · intro p hp
      rw [List.mem_map] at hp
      obtain ⟨j, hj, rfl⟩ := hp
      exact (hf j (List.mem_range.1 hj)).2
set_option maxRecDepth 100000 in
theorem open_pool_bulk {r : Reach} {b0 : Nat} {v : Value} {d : DataW H} {q : List MemPlace} (hv : Value.okWide Tryz.prog w r b0 22 v) (h : DataW.Trod enc Tryz.prog w base spare held 22 v d q) :
    ∃ (A : Option Addr) (n c : Nat) (L : List Cn), v = .slice A n c ∧ L.length = n ∧ n ≤ c ∧ Pool w w.heap.size A L ∧ ∀ p ∈ L, p.s.size ≤ Rows.uptoBulk d := by
  obtain ⟨a, len, cap, rfl⟩ := okWide_slice Tryz.underlying22 hv
  obtain ⟨fuel, hf⟩ := h
  obtain ⟨A, n, c, L, e, hn, hc, ht, hs⟩ := open_pool_b hf
  have e' : (.slice a len cap : Value) = .slice A n c := by simpa [Value.cells] using e
  exact ⟨A, n, c, L, e', hn, hc, ht, hs⟩
end

end Go.Proofs.YthfegbhbokhlkaaGreatDoor
