import Derived.Test.YtalejaklggnnpaaGreatDoorCoS
import Derived.Deep.Slices
import Derived.Deep.Strs
import Derived.Deep.Fields
import Derived.Lib.SmallJoins
import Derived.SizedLaws
/- Layer 9: code as a parameter hands it over, opened, with the weights of its targets. (Written by gen/cp.py.) -/
namespace Go.Proofs.YtalejaklggnnpaaGreatDoor.I
open Go.ChangeShapes Go.WideShapes Go.ChangeAt Go.RowKit Go.Deep
set_option linter.unusedSimpArgs false
set_option linter.unusedVariables false
theorem bytesI : Tryz.prog.bytesOf 3 = 8 := by kernel_rfl
/-- k numbers weigh no more than some weight of the datum -/
def Wt {H : Type} (t : TypeId) (d : DataW H) (k : Nat) : Prop := k = 0 ∨ ∃ q ∈ d.weights Tryz.prog t, k * 8 ≤ q
theorem wts_all9 {H : Type} {P : Program} {e : TypeId} {d : DataW H} {l : List (DataW H)} {n : Nat} (h : d ∈ l) (hn : n ∈ d.weights P e) : n ∈ DataW.weightsAll P e l := by
 induction l with
 | nil => cases h
 | cons x r ih =>
  simp only [DataW.weightsAll, List.mem_append]
  cases List.mem_cons.1 h with
  | inl e => subst e; exact Or.inl hn
  | inr e => exact Or.inr (ih e)
theorem cellsN : Tryz.prog.cellsOf 50 = 10 := by kernel_rfl
theorem cellsRf : Tryz.prog.cellsOf 48 = 3 := by kernel_rfl
theorem cellsI : Tryz.prog.cellsOf 3 = 1 := by kernel_rfl
theorem cellsS : Tryz.prog.cellsOf 9 = 1 := by kernel_rfl
theorem cellsL : Tryz.prog.cellsOf 42 = 1 := by kernel_rfl
theorem cell_lt {w : World} {a : Addr} {v : Value} (h : w.cell? a = some v) : a.block < w.heap.size := by
 rcases Nat.lt_or_ge a.block w.heap.size with hl | hl
 ·
  exact hl
 ·
  rw [World.cell?, Array.getElem?_eq_none hl] at h; simp at h
theorem list10 {α : Type} : ∀ (l : List α), l.length = 10 → ∃ a b c d e f g h i j, l = [a, b, c, d, e, f, g, h, i, j]
 | [a, b, c, d, e, f, g, h, i, j], _ => ⟨a, b, c, d, e, f, g, h, i, j, rfl⟩
theorem list8 {α : Type} : ∀ (l : List α), l.length = 8 → ∃ a b c d e f g h, l = [a, b, c, d, e, f, g, h]
 | [a, b, c, d, e, f, g, h], _ => ⟨a, b, c, d, e, f, g, h, rfl⟩
section
variable {H : Type} {enc : TypeId × Value → H} {w : World} {base : Nat} {spare : Nat → Bool} {held : Bool}
set_option maxRecDepth 100000 in
theorem open_row {fuel : Nat} {cs : List Value} {x : DataW H × List MemPlace} (h : DataW.trod enc Tryz.prog w base spare held fuel 42 cs = some x) :
  ∃ (A : Option Addr) (n c : Nat) (L : List Int), cs = [.slice A n c] ∧ L.length = n ∧ n ≤ c ∧ c ≤ 9223372036854775807 ∧ Row w w.heap.size A L ∧ (A = none → c = 0) ∧ Wt 42 x.1 n := by
 rcases open_slice1 Tryz.underlying42 cellsI h with ⟨rfl, _⟩ | ⟨a, len, cap, m, n, V, D, Pl, rfl, hb, hl, hm, hmm, hx, hi⟩
 ·
  exact ⟨none, 0, 0, [], rfl, rfl, Nat.le_refl _, by omega, Or.inl rfl, fun _ => rfl, Or.inl rfl⟩
 ·
  have hlm : len ≤ m := by rw [hmm]; split <;> omega
  have key : ∀ i, i < len → ∃ z : Int, w.cell? (a.add i) = some (.int .i64 z) := by
   intro i hil
   obtain ⟨hc, ht⟩ := hi i (by omega)
   obtain ⟨z, hz, _⟩ := DataW.trod_int Tryz.underlying3 ht
   simp at hz
   exact ⟨z, by rw [hc, hz]⟩
  obtain ⟨f, hf⟩ : ∃ f : Nat → Int, ∀ i, i < len → w.cell? (a.add i) = some (.int .i64 (f i)) :=
   ⟨fun i => if hi : i < len then (key i hi).choose else 0, fun i hi => by
    simp only [dif_pos hi]
    exact (key i hi).choose_spec⟩
  refine ⟨some a, len, cap, (List.range len).map f, rfl, by simp, hl, by unfold maxLen at hm; exact hm, ?_, (fun h => by cases h), Or.inr ⟨(len + (m - len)) * 8, by rw [hx]; simp only [DataW.weights, Tryz.underlying42, bytesI, List.length_map, List.length_range]; exact List.mem_cons_self, by omega⟩⟩
  rcases Nat.eq_zero_or_pos len with h0 | h0
  ·
   exact Or.inl (by rw [h0]; rfl)
  ·
   have c0 := hf 0 h0
   obtain ⟨g, o, sp⟩ := a
   have hsp : sp = none := by
    have := World.cell?_spot c0
    simpa [Addr.add] using this
   subst hsp
   refine Or.inr ⟨g, o, rfl, ?_, fun i p hp => ?_⟩
   ·
    have := cell_lt c0
    rw [Addr.add_lit] at this
    exact this
   ·
    rw [List.getElem?_map] at hp
    cases hr : (List.range len)[i]? with
    | none => rw [hr] at hp; cases hp
    | some j =>
     rw [hr] at hp
     have hil : i < len := by
      rcases Nat.lt_or_ge i len with h | h
      ·
       exact h
      ·
       rw [List.getElem?_eq_none (by simpa using h)] at hr; cases hr
     have hj : j = i := by rw [List.getElem?_range hil] at hr; injection hr with hr; exact hr.symm
     subst hj
     injection hp with hp
     subst hp
     have e0 := hf j hil
     rw [Addr.add_lit] at e0
     exact e0
set_option maxRecDepth 100000 in
theorem open_in {fuel : Nat} {cs : List Value} {x : DataW H × List MemPlace} (h : DataW.trod enc Tryz.prog w base spare held fuel 50 cs = some x) :
  ∃ i : In, cs = icells i ∧ i.ok w w.heap.size ∧ i.nz ∧ Wt 50 x.1 i.tn := by
 obtain ⟨xs, n, _, ex, hl, hxl, hg⟩ := DataW.trod_struct Tryz.underlying50 h
 have h0 := hg 0 _ rfl
 have h1 := hg 1 _ rfl
 have h2 := hg 2 _ rfl
 have h3 := hg 3 _ rfl
 have h4 := hg 4 _ rfl
 have h5 := hg 5 _ rfl
 have h6 := hg 6 _ rfl
 have h7 := hg 7 _ rfl
 rw [cellsN] at hl
 obtain ⟨v0, v1, v2, v3, v4, v5, v6, v7, v8, v9, rfl⟩ := list10 cs hl
 obtain ⟨y0, y1, y2, y3, y4, y5, y6, y7, rfl⟩ := list8 xs hxl
 change DataW.trod enc Tryz.prog w base spare held n 3 (List.take (Tryz.prog.cellsOf 3) [v0, v1, v2, v3, v4, v5, v6, v7, v8, v9]) = some y0 at h0
 change DataW.trod enc Tryz.prog w base spare held n 3 (List.take (Tryz.prog.cellsOf 3) [v1, v2, v3, v4, v5, v6, v7, v8, v9]) = some y1 at h1
 change DataW.trod enc Tryz.prog w base spare held n 3 (List.take (Tryz.prog.cellsOf 3) [v2, v3, v4, v5, v6, v7, v8, v9]) = some y2 at h2
 change DataW.trod enc Tryz.prog w base spare held n 3 (List.take (Tryz.prog.cellsOf 3) [v3, v4, v5, v6, v7, v8, v9]) = some y3 at h3
 change DataW.trod enc Tryz.prog w base spare held n 42 (List.take (Tryz.prog.cellsOf 42) [v4, v5, v6, v7, v8, v9]) = some y4 at h4
 change DataW.trod enc Tryz.prog w base spare held n 42 (List.take (Tryz.prog.cellsOf 42) [v5, v6, v7, v8, v9]) = some y5 at h5
 change DataW.trod enc Tryz.prog w base spare held n 48 (List.take (Tryz.prog.cellsOf 48) [v6, v7, v8, v9]) = some y6 at h6
 change DataW.trod enc Tryz.prog w base spare held n 9 (List.take (Tryz.prog.cellsOf 9) [v9]) = some y7 at h7
 rw [cellsI] at h0 h1 h2 h3
 rw [cellsL] at h4 h5
 rw [cellsRf] at h6
 rw [cellsS] at h7
 obtain ⟨a0, e0, _, _⟩ := DataW.trod_int Tryz.underlying3 h0
 obtain ⟨a1, e1, _, _⟩ := DataW.trod_int Tryz.underlying3 h1
 obtain ⟨a2, e2, _, _⟩ := DataW.trod_int Tryz.underlying3 h2
 obtain ⟨a3, e3, _, _⟩ := DataW.trod_int Tryz.underlying3 h3
 obtain ⟨A4, n4, c4, L4, e4, l4, k4, m4, r4, z4, _⟩ := open_row h4
 obtain ⟨A5, n5, c5, L5, e5, l5, k5, m5, r5, z5, q5⟩ := open_row h5
 obtain ⟨u0, u1, u2, n6, _, _, g0, g1, g2⟩ := trod_struct3 Tryz.underlying48 h6
 simp only [cellsS] at g0 g1 g2
 obtain ⟨s0, f0, _, _⟩ := DataW.trod_string Tryz.underlying9 g0
 obtain ⟨s1, f1, _, _⟩ := DataW.trod_string Tryz.underlying9 g1
 obtain ⟨s2, f2, _, _⟩ := DataW.trod_string Tryz.underlying9 g2
 obtain ⟨s3, f3, _, _⟩ := DataW.trod_string Tryz.underlying9 h7
 simp at e0 e1 e2 e3 e4 e5 f0 f1 f2 f3
 subst e0 e1 e2 e3 e4 e5 f0 f1 f2 f3
 refine ⟨⟨a0, a1, a2, a3, A4, n4, c4, L4, A5, n5, c5, L5, s0, s1, s2, s3⟩, rfl, ⟨l4, k4, m4, r4, l5, k5, m5, r5⟩, ⟨z4, z5⟩, ?_⟩
 rcases q5 with h0 | ⟨q, hq, hle⟩
 ·
  exact Or.inl h0
 ·
  refine Or.inr ⟨q, ?_, hle⟩
  subst ex
  show q ∈ DataW.weights Tryz.prog 50 (.agg [y0.1, y1.1, y2.1, y3.1, y4.1, y5.1, y6.1, y7.1])
  simp only [DataW.weights, Tryz.underlying50]
  exact DataW.weights_mem_each (j := 5) rfl rfl _ hq
set_option maxRecDepth 100000 in
theorem open_ins {fuel : Nat} {cs : List Value} {x : DataW H × List MemPlace} (h : DataW.trod enc Tryz.prog w base spare held fuel 23 cs = some x) :
  ∃ (A : Option Addr) (n c : Nat) (L : List In), cs = [.slice A n c] ∧ L.length = n ∧ n ≤ c ∧ Ins w w.heap.size A L ∧ ∀ i ∈ L, i.nz ∧ Wt 23 x.1 i.tn := by
 rcases open_slice Tryz.underlying23 h with ⟨rfl, _⟩ | ⟨a, len, cap, m, n, D, Pl, rfl, hb, hl, hm, hmm, hx, hi⟩
 ·
  exact ⟨none, 0, 0, [], rfl, rfl, Nat.le_refl _, Or.inl rfl, fun p hp => by cases hp⟩
 ·
  have hlm : len ≤ m := by rw [hmm]; split <;> omega
  have key : ∀ i, i < len → ∃ p : In, (∀ j v, (icells p)[j]? = some v → w.cell? (a.add (i * 10 + j)) = some v) ∧ p.ok w w.heap.size ∧ p.nz ∧ Wt 23 x.1 p.tn := by
   intro i hil
   obtain ⟨cs', hc, ht⟩ := hi i (by omega)
   rw [cellsN] at hc
   obtain ⟨p, rfl, hp, hz, hw⟩ := open_in ht
   obtain ⟨_, _, hat⟩ := World.cells?_some hc
   have hw2 : Wt 23 x.1 p.tn := by
    rcases hw with h0 | ⟨q, hq, hle⟩
    ·
     exact Or.inl h0
    ·
     refine Or.inr ⟨q, ?_, hle⟩
     rw [hx]
     have h9 := wts_all9 (P := Tryz.prog) (e := 50) (List.mem_map.2 ⟨i, List.mem_range.2 hil, rfl⟩ : D i ∈ (List.range len).map D) hq
     simp only [DataW.weights, Tryz.underlying23, List.mem_cons, List.mem_append]
     exact Or.inr (Or.inl h9)
   refine ⟨p, fun j v hv => ?_, hp, hz, hw2⟩
   have hj : j < 10 := by
    rcases Nat.lt_or_ge j 10 with h | h
    ·
     exact h
    ·
     rw [List.getElem?_eq_none (by simpa [icells] using h)] at hv; cases hv
   have := hat j (by simpa using hj)
   rw [add_add] at this
   rw [this, hv]
  obtain ⟨f, hf⟩ : ∃ f : Nat → In, ∀ i, i < len → (∀ j v, (icells (f i))[j]? = some v → w.cell? (a.add (i * 10 + j)) = some v) ∧ (f i).ok w w.heap.size ∧ (f i).nz ∧ Wt 23 x.1 (f i).tn :=
   ⟨fun i => if hi : i < len then (key i hi).choose else ⟨0, 0, 0, 0, none, 0, 0, [], none, 0, 0, [], ⟨#[]⟩, ⟨#[]⟩, ⟨#[]⟩, ⟨#[]⟩⟩, fun i hi => by
    simp only [dif_pos hi]
    exact (key i hi).choose_spec⟩
  refine ⟨some a, len, cap, (List.range len).map f, rfl, by simp, hl, ?_, ?_⟩
  ·
   rcases Nat.eq_zero_or_pos len with h0 | h0
   ·
    exact Or.inl (by rw [h0]; rfl)
   ·
    have c0 := (hf 0 h0).1 0 _ rfl
    obtain ⟨g, o, sp⟩ := a
    have hsp : sp = none := by
     have := World.cell?_spot c0
     simpa [Addr.add] using this
    subst hsp
    refine Or.inr ⟨g, o, rfl, ?_, fun i p hp => ?_⟩
    ·
     have := cell_lt c0
     rw [Addr.add_lit] at this
     exact this
    ·
     rw [List.getElem?_map] at hp
     cases hr : (List.range len)[i]? with
     | none => rw [hr] at hp; cases hp
     | some j =>
      rw [hr] at hp
      have hil : i < len := by
       rcases Nat.lt_or_ge i len with h | h
       ·
        exact h
       ·
        rw [List.getElem?_eq_none (by simpa using h)] at hr; cases hr
      have hj : j = i := by rw [List.getElem?_range hil] at hr; injection hr with hr; exact hr.symm
      subst hj
      injection hp with hp
      subst hp
      obtain ⟨e, ok, _⟩ := hf j hil
      have at' : ∀ q v, (icells (f j))[q]? = some v → w.cell? ⟨g, o + j * 10 + q, none⟩ = some v := by
       intro q v hv
       have := e q v hv
       rw [Addr.add_lit] at this
       rw [show o + j * 10 + q = o + (j * 10 + q) by omega]
       exact this
      exact ⟨ok, at' 0 _ rfl, at' 1 _ rfl, at' 2 _ rfl, at' 3 _ rfl, at' 4 _ rfl, at' 5 _ rfl, at' 6 _ rfl, at' 7 _ rfl, at' 8 _ rfl, at' 9 _ rfl⟩
  ·
   intro p hp
   rw [List.mem_map] at hp
   obtain ⟨j, hj, rfl⟩ := hp
   exact (hf j (List.mem_range.1 hj)).2.2
end
theorem cellsHd : Tryz.prog.cellsOf 58 = 5 := by kernel_rfl
theorem cellsIs : Tryz.prog.cellsOf 23 = 1 := by kernel_rfl
theorem cellsHs : Tryz.prog.cellsOf 24 = 1 := by kernel_rfl
theorem cellsMs : Tryz.prog.cellsOf 25 = 1 := by kernel_rfl
theorem cellsLs : Tryz.prog.cellsOf 26 = 1 := by kernel_rfl
theorem cellsCd : Tryz.prog.cellsOf 28 = 6 := by kernel_rfl
theorem list5 {α : Type} : ∀ (l : List α), l.length = 5 → ∃ a b c d e, l = [a, b, c, d, e]
 | [a, b, c, d, e], _ => ⟨a, b, c, d, e, rfl⟩
theorem list6 {α : Type} : ∀ (l : List α), l.length = 6 → ∃ a b c d e f, l = [a, b, c, d, e, f]
 | [a, b, c, d, e, f], _ => ⟨a, b, c, d, e, f, rfl⟩
def hcells (h : Hd) : List Value := [.int .i64 h.f, .int .i64 h.t, .int .i64 h.g, .int .i64 h.k, .string h.s]
section
variable {H : Type} {enc : TypeId × Value → H} {w : World} {base : Nat} {spare : Nat → Bool} {held : Bool}
set_option maxRecDepth 100000 in
theorem open_hd {fuel : Nat} {cs : List Value} {x : DataW H × List MemPlace} (h : DataW.trod enc Tryz.prog w base spare held fuel 58 cs = some x) : ∃ i : Hd, cs = hcells i := by
 obtain ⟨xs, n, _, _, hl, hxl, hg⟩ := DataW.trod_struct Tryz.underlying58 h
 have h0 := hg 0 _ rfl
 have h1 := hg 1 _ rfl
 have h2 := hg 2 _ rfl
 have h3 := hg 3 _ rfl
 have h4 := hg 4 _ rfl
 rw [cellsHd] at hl
 obtain ⟨v0, v1, v2, v3, v4, rfl⟩ := list5 cs hl
 obtain ⟨y0, y1, y2, y3, y4, rfl⟩ := list5 xs hxl
 change DataW.trod enc Tryz.prog w base spare held n 3 (List.take (Tryz.prog.cellsOf 3) [v0, v1, v2, v3, v4]) = some y0 at h0
 change DataW.trod enc Tryz.prog w base spare held n 3 (List.take (Tryz.prog.cellsOf 3) [v1, v2, v3, v4]) = some y1 at h1
 change DataW.trod enc Tryz.prog w base spare held n 3 (List.take (Tryz.prog.cellsOf 3) [v2, v3, v4]) = some y2 at h2
 change DataW.trod enc Tryz.prog w base spare held n 3 (List.take (Tryz.prog.cellsOf 3) [v3, v4]) = some y3 at h3
 change DataW.trod enc Tryz.prog w base spare held n 9 (List.take (Tryz.prog.cellsOf 9) [v4]) = some y4 at h4
 rw [cellsI] at h0 h1 h2 h3
 rw [cellsS] at h4
 obtain ⟨a0, e0, _, _⟩ := DataW.trod_int Tryz.underlying3 h0
 obtain ⟨a1, e1, _, _⟩ := DataW.trod_int Tryz.underlying3 h1
 obtain ⟨a2, e2, _, _⟩ := DataW.trod_int Tryz.underlying3 h2
 obtain ⟨a3, e3, _, _⟩ := DataW.trod_int Tryz.underlying3 h3
 obtain ⟨s4, e4, _, _⟩ := DataW.trod_string Tryz.underlying9 h4
 simp at e0 e1 e2 e3 e4
 subst e0 e1 e2 e3 e4
 exact ⟨⟨a0, a1, a2, a3, s4⟩, rfl⟩
set_option maxRecDepth 100000 in
theorem open_hds {fuel : Nat} {cs : List Value} {x : DataW H × List MemPlace} (h : DataW.trod enc Tryz.prog w base spare held fuel 24 cs = some x) :
  ∃ (A : Option Addr) (n c : Nat) (L : List Hd), cs = [.slice A n c] ∧ L.length = n ∧ n ≤ 9223372036854775807 ∧ Hds w w.heap.size A L := by
 rcases open_slice Tryz.underlying24 h with ⟨rfl, _⟩ | ⟨a, len, cap, m, n, D, Pl, rfl, hb, hl, hm, hmm, hx, hi⟩
 ·
  exact ⟨none, 0, 0, [], rfl, rfl, Nat.zero_le _, Or.inl rfl⟩
 ·
  have hlm : len ≤ m := by rw [hmm]; split <;> omega
  have key : ∀ i, i < len → ∃ p : Hd, ∀ j v, (hcells p)[j]? = some v → w.cell? (a.add (i * 5 + j)) = some v := by
   intro i hil
   obtain ⟨cs', hc, ht⟩ := hi i (by omega)
   rw [cellsHd] at hc
   obtain ⟨p, rfl⟩ := open_hd ht
   obtain ⟨_, _, hat⟩ := World.cells?_some hc
   refine ⟨p, fun j v hv => ?_⟩
   have hj : j < 5 := by
    rcases Nat.lt_or_ge j 5 with h | h
    ·
     exact h
    ·
     rw [List.getElem?_eq_none (by simpa [hcells] using h)] at hv; cases hv
   have := hat j (by simpa using hj)
   rw [add_add] at this
   rw [this, hv]
  obtain ⟨f, hf⟩ : ∃ f : Nat → Hd, ∀ i, i < len → ∀ j v, (hcells (f i))[j]? = some v → w.cell? (a.add (i * 5 + j)) = some v :=
   ⟨fun i => if hi : i < len then (key i hi).choose else ⟨0, 0, 0, 0, ⟨#[]⟩⟩, fun i hi => by
    simp only [dif_pos hi]
    exact (key i hi).choose_spec⟩
  refine ⟨some a, len, cap, (List.range len).map f, rfl, by simp, by unfold maxLen at hm; omega, ?_⟩
  rcases Nat.eq_zero_or_pos len with h0 | h0
  ·
   exact Or.inl (by rw [h0]; rfl)
  ·
   have c0 := hf 0 h0 0 _ rfl
   obtain ⟨g, o, sp⟩ := a
   have hsp : sp = none := by
    have := World.cell?_spot c0
    simpa [Addr.add] using this
   subst hsp
   refine Or.inr ⟨g, o, rfl, ?_, fun i p hp => ?_⟩
   ·
    have := cell_lt c0
    rw [Addr.add_lit] at this
    exact this
   ·
    rw [List.getElem?_map] at hp
    cases hr : (List.range len)[i]? with
    | none => rw [hr] at hp; cases hp
    | some j =>
     rw [hr] at hp
     have hil : i < len := by
      rcases Nat.lt_or_ge i len with h | h
      ·
       exact h
      ·
       rw [List.getElem?_eq_none (by simpa using h)] at hr; cases hr
     have hj : j = i := by rw [List.getElem?_range hil] at hr; injection hr with hr; exact hr.symm
     subst hj
     injection hp with hp
     subst hp
     have e := hf j hil
     have at' : ∀ q v, (hcells (f j))[q]? = some v → w.cell? ⟨g, o + j * 5 + q, none⟩ = some v := by
      intro q v hv
      have := e q v hv
      rw [Addr.add_lit] at this
      rw [show o + j * 5 + q = o + (j * 5 + q) by omega]
      exact this
     exact ⟨at' 0 _ rfl, at' 1 _ rfl, at' 2 _ rfl, at' 3 _ rfl, at' 4 _ rfl⟩
theorem slice_max {t e : TypeId} {fuel n c : Nat} {A : Option Addr} {x : DataW H × List MemPlace} (ht : Tryz.prog.underlying t = some (.slice e)) (h : DataW.trod enc Tryz.prog w base spare held fuel t [.slice A n c] = some x) : n ≤ 9223372036854775807 := by
 rcases open_slice ht h with ⟨he, _⟩ | ⟨a, len, cap, m, _, D, Pl, he, hb, hl, hm, hmm, hx, hi⟩
 ·
  injection he with he _
  injection he with _ h2 _
  omega
 ·
  injection he with he _
  injection he with _ h2 _
  unfold maxLen at hm
  omega
theorem slice_one {t e : TypeId} {fuel : Nat} {cs : List Value} {x : DataW H × List MemPlace} (ht : Tryz.prog.underlying t = some (.slice e)) (h : DataW.trod enc Tryz.prog w base spare held fuel t cs = some x) : ∃ (A : Option Addr) (n c : Nat), cs = [.slice A n c] := by
 rcases open_slice ht h with ⟨he, _⟩ | ⟨a, len, cap, m, _, D, Pl, he, hb, hl, hm, hmm, hx, hi⟩
 ·
  exact ⟨none, 0, 0, he⟩
 ·
  exact ⟨some a, len, cap, he⟩
set_option maxRecDepth 100000 in
theorem open_code {fuel : Nat} {cs : List Value} {x : DataW H × List MemPlace} (h : DataW.trod enc Tryz.prog w base spare held fuel 28 cs = some x) :
  ∃ c : Cd, cs = [.int .i64 c.st, .int .i64 c.lo, .slice c.iA c.n c.ic, .slice c.hA c.hn c.hc, .slice c.mA c.mn c.mc, .slice c.lA c.ln c.lc] ∧ ((∀ i ∈ c.is, i.tn ≤ 17592186043904) → c.raw9 w) ∧ ∀ i ∈ c.is, Wt 28 x.1 i.tn := by
 obtain ⟨xs, n, _, ex, hl, hxl, hg⟩ := DataW.trod_struct Tryz.underlying28 h
 have h0 := hg 0 _ rfl
 have h1 := hg 1 _ rfl
 have h2 := hg 2 _ rfl
 have h3 := hg 3 _ rfl
 have h4 := hg 4 _ rfl
 have h5 := hg 5 _ rfl
 rw [cellsCd] at hl
 obtain ⟨v0, v1, v2, v3, v4, v5, rfl⟩ := list6 cs hl
 obtain ⟨y0, y1, y2, y3, y4, y5, rfl⟩ := list6 xs hxl
 change DataW.trod enc Tryz.prog w base spare held n 3 (List.take (Tryz.prog.cellsOf 3) [v0, v1, v2, v3, v4, v5]) = some y0 at h0
 change DataW.trod enc Tryz.prog w base spare held n 3 (List.take (Tryz.prog.cellsOf 3) [v1, v2, v3, v4, v5]) = some y1 at h1
 change DataW.trod enc Tryz.prog w base spare held n 23 (List.take (Tryz.prog.cellsOf 23) [v2, v3, v4, v5]) = some y2 at h2
 change DataW.trod enc Tryz.prog w base spare held n 24 (List.take (Tryz.prog.cellsOf 24) [v3, v4, v5]) = some y3 at h3
 change DataW.trod enc Tryz.prog w base spare held n 25 (List.take (Tryz.prog.cellsOf 25) [v4, v5]) = some y4 at h4
 change DataW.trod enc Tryz.prog w base spare held n 26 (List.take (Tryz.prog.cellsOf 26) [v5]) = some y5 at h5
 rw [cellsI] at h0 h1
 rw [cellsIs] at h2
 rw [cellsHs] at h3
 rw [cellsMs] at h4
 rw [cellsLs] at h5
 obtain ⟨a0, e0, _, _⟩ := DataW.trod_int Tryz.underlying3 h0
 obtain ⟨a1, e1, _, _⟩ := DataW.trod_int Tryz.underlying3 h1
 obtain ⟨A2, n2, c2, L2, e2, l2, k2, r2, z2⟩ := open_ins h2
 obtain ⟨A3, n3, c3, L3, e3, l3, k3, r3⟩ := open_hds h3
 obtain ⟨A4, n4, c4, e4⟩ := slice_one Tryz.underlying25 h4
 obtain ⟨A5, n5, c5, e5⟩ := slice_one Tryz.underlying26 h5
 have m2 : n2 ≤ 9223372036854775807 := by rw [e2] at h2; exact slice_max Tryz.underlying23 h2
 simp at e0 e1 e2 e3 e4 e5
 subst e0 e1 e2 e3 e4 e5
 refine ⟨⟨a0, a1, A2, n2, c2, L2, A3, n3, c3, L3, A4, n4, c4, A5, n5, c5⟩, rfl, fun ht => ⟨l2, r2, m2, l3, r3, k3, fun i hi => (z2 i hi).1, ht⟩, fun i hi => ?_⟩
 rcases (z2 i hi).2 with h0 | ⟨q, hq, hle⟩
 ·
  exact Or.inl h0
 ·
  refine Or.inr ⟨q, ?_, hle⟩
  subst ex
  show q ∈ DataW.weights Tryz.prog 28 (.agg [y0.1, y1.1, y2.1, y3.1, y4.1, y5.1])
  simp only [DataW.weights, Tryz.underlying28]
  exact DataW.weights_mem_each (j := 2) rfl rfl _ hq
end
end Go.Proofs.YtalejaklggnnpaaGreatDoor.I
