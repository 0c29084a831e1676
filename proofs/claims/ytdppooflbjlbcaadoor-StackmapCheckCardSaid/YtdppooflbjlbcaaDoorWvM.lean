import Derived.Test.YtdppooflbjlbcaaDoorWoM
import Derived.Test.YtdppooflbjlbcaaDoorWuM

/- Wv -/
/- Layer 22: class models as parameters hand them over, opened. (Written by gen/wv.py.) -/
namespace Go.Proofs.YtdppooflbjlbcaaDoor.I
open Go.ChangeShapes Go.WideShapes Go.ChangeAt Go.RowKit Go.Deep
set_option linter.unusedSimpArgs false
set_option linter.unusedVariables false

theorem cellsLn : Tryd.prog.cellsOf 53 = 2 := by kernel_rfl
theorem cellsFd : Tryd.prog.cellsOf 101 = 6 := by kernel_rfl
theorem cellsMe : Tryd.prog.cellsOf 77 = 11 := by kernel_rfl
theorem cellsCM : Tryd.prog.cellsOf 69 = 7 := by kernel_rfl
theorem cellsSt : Tryd.prog.cellsOf 65 = 1 := by kernel_rfl
theorem cellsFs : Tryd.prog.cellsOf 66 = 1 := by kernel_rfl
theorem cellsMm : Tryd.prog.cellsOf 67 = 1 := by kernel_rfl
theorem list7 {α : Type} : ∀ (l : List α), l.length = 7 → ∃ a b c d e f g, l = [a, b, c, d, e, f, g]
  | [a, b, c, d, e, f, g], _ => ⟨a, b, c, d, e, f, g, rfl⟩
theorem list11 {α : Type} : ∀ (l : List α), l.length = 11 → ∃ a b c d e f g h i j k, l = [a, b, c, d, e, f, g, h, i, j, k]
  | [a, b, c, d, e, f, g, h, i, j, k], _ => ⟨a, b, c, d, e, f, g, h, i, j, k, rfl⟩
def lncells (p : Int × Int) : List Value := [.int .i64 p.1, .int .i64 p.2]
def stcells (s : ByteArray) : List Value := [.string s]
def fdcells (x : Fld) : List Value := [.int .i64 x.fl, .string x.nm, .string x.ds, .int .i64 x.k, .int .i64 x.n, .string x.s]
section
variable {H : Type} {enc : TypeId × Value → H} {w : World} {base : Nat} {spare : Nat → Bool} {held : Bool}
theorem slice_nil {t e : TypeId} {fuel n c : Nat} {A : Option Addr} {x : DataW H × List MemPlace} (ht : Tryd.prog.underlying t = some (.slice e)) (h : DataW.trod enc Tryd.prog w base spare held fuel t [.slice A n c] = some x) (hA : A = none) : n = 0 ∧ c = 0 := by
  rcases open_slice ht h with ⟨he, _⟩ | ⟨a, len, cap, m, _, D, Pl, he, hb, hl, hm, hmm, hx, hi⟩
  · injection he with he _
    injection he with _ h2 h3
    exact ⟨h2, h3⟩
  · injection he with he _
    injection he with h1 _ _
    rw [hA] at h1
    cases h1
set_option maxRecDepth 100000 in
theorem open_ln {fuel : Nat} {cs : List Value} {x : DataW H × List MemPlace} (h : DataW.trod enc Tryd.prog w base spare held fuel 53 cs = some x) : ∃ p : Int × Int, cs = lncells p := by
  obtain ⟨xs, n, _, _, hl, hxl, hg⟩ := DataW.trod_struct Tryd.underlying53 h
  have h0 := hg 0 _ rfl
  have h1 := hg 1 _ rfl
  rw [cellsLn] at hl
  obtain ⟨v0, v1, rfl⟩ := list2 cs hl
  obtain ⟨y0, y1, rfl⟩ := list2 xs hxl
  change DataW.trod enc Tryd.prog w base spare held n 3 (List.take (Tryd.prog.cellsOf 3) [v0, v1]) = some y0 at h0
  rw [cellsI] at h0
  change DataW.trod enc Tryd.prog w base spare held n 3 (List.take (Tryd.prog.cellsOf 3) [v1]) = some y1 at h1
  rw [cellsI] at h1
  obtain ⟨a0, e0, _, _⟩ := DataW.trod_int Tryd.underlying3 h0
  obtain ⟨a1, e1, _, _⟩ := DataW.trod_int Tryd.underlying3 h1
  simp at e0 e1
  subst e0 e1
  exact ⟨(a0, a1), rfl⟩
set_option maxRecDepth 100000 in
theorem open_lns {fuel : Nat} {cs : List Value} {x : DataW H × List MemPlace} (h : DataW.trod enc Tryd.prog w base spare held fuel 25 cs = some x) :
    ∃ (A : Option Addr) (n c : Nat) (L : List (Int × Int)), cs = [.slice A n c] ∧ L.length = n ∧ n ≤ 9223372036854775807 ∧ Lns w A L := by
  rcases open_slice Tryd.underlying25 h with ⟨rfl, _⟩ | ⟨a, len, cap, m, n, D, Pl, rfl, hb, hl, hm, hmm, hx, hi⟩
  · exact ⟨none, 0, 0, [], rfl, rfl, by omega, Or.inl rfl⟩
  · have hlm : len ≤ m := by rw [hmm]; split <;> omega
    have key : ∀ i, i < len → ∃ p : (Int × Int), (∀ j v, (lncells p)[j]? = some v → w.cell? (a.add (i * 2 + j)) = some v) := by
      intro i hil
      obtain ⟨cs', hc, ht⟩ := hi i (by omega)
      rw [cellsLn] at hc
      obtain ⟨p, rfl⟩ := open_ln ht
      obtain ⟨_, _, hat⟩ := World.cells?_some hc
      refine ⟨p, fun j v hv => ?_⟩
      have hj : j < 2 := by
        rcases Nat.lt_or_ge j 2 with h | h
        · exact h
        · rw [List.getElem?_eq_none (by simpa [lncells] using h)] at hv; cases hv
      have := hat j (by simpa using hj)
      rw [add_add] at this
      rw [this, hv]
    obtain ⟨f, hf⟩ : ∃ f : Nat → (Int × Int), ∀ i, i < len → (∀ j v, (lncells (f i))[j]? = some v → w.cell? (a.add (i * 2 + j)) = some v) :=
      ⟨fun i => if hi : i < len then (key i hi).choose else (0, 0), fun i hi => by
        simp only [dif_pos hi]
        exact (key i hi).choose_spec⟩
    refine ⟨some a, len, cap, (List.range len).map f, rfl, by simp, by unfold maxLen at hm; omega, ?_⟩
    · rcases Nat.eq_zero_or_pos len with h0 | h0
      · exact Or.inl (by rw [h0]; rfl)
      · have c0 := hf 0 h0 0 _ rfl
        obtain ⟨g, o, sp⟩ := a
        have hsp : sp = none := by
          have := World.cell?_spot c0
          simpa [Addr.add] using this
        subst hsp
        refine Or.inr ⟨g, o, rfl, ?_, fun i p hp => ?_⟩
        · have := cell_lt c0
          rw [Addr.add_lit] at this
          exact this
        · have hil : i < len := by
            have := lt_of_some hp
            simpa using this
          rw [List.getElem?_map, List.getElem?_range hil] at hp
          obtain rfl : f i = p := Option.some.inj hp
          have at' : ∀ q v, (lncells (f i))[q]? = some v → w.cell? ⟨g, o + i * 2 + q, none⟩ = some v := by
            intro q v hv
            have := hf i hil q v hv
            rw [Addr.add_lit] at this
            rw [show o + i * 2 + q = o + (i * 2 + q) by omega]
            exact this
          exact ⟨at' 0 _ rfl, at' 1 _ rfl⟩
theorem open_st {fuel : Nat} {cs : List Value} {x : DataW H × List MemPlace} (h : DataW.trod enc Tryd.prog w base spare held fuel 9 cs = some x) : ∃ s : ByteArray, cs = stcells s := by
  obtain ⟨a0, e0, _, _⟩ := DataW.trod_string Tryd.underlying9 h
  exact ⟨a0, e0⟩
set_option maxRecDepth 100000 in
theorem open_sts {fuel : Nat} {cs : List Value} {x : DataW H × List MemPlace} (h : DataW.trod enc Tryd.prog w base spare held fuel 65 cs = some x) :
    ∃ (A : Option Addr) (n c : Nat) (L : List (ByteArray)), cs = [.slice A n c] ∧ L.length = n ∧ n ≤ 9223372036854775807 ∧ STs w A L := by
  rcases open_slice Tryd.underlying65 h with ⟨rfl, _⟩ | ⟨a, len, cap, m, n, D, Pl, rfl, hb, hl, hm, hmm, hx, hi⟩
  · exact ⟨none, 0, 0, [], rfl, rfl, by omega, Or.inl rfl⟩
  · have hlm : len ≤ m := by rw [hmm]; split <;> omega
    have key : ∀ i, i < len → ∃ p : (ByteArray), (∀ j v, (stcells p)[j]? = some v → w.cell? (a.add (i * 1 + j)) = some v) := by
      intro i hil
      obtain ⟨cs', hc, ht⟩ := hi i (by omega)
      rw [cellsS] at hc
      obtain ⟨p, rfl⟩ := open_st ht
      obtain ⟨_, _, hat⟩ := World.cells?_some hc
      refine ⟨p, fun j v hv => ?_⟩
      have hj : j < 1 := by
        rcases Nat.lt_or_ge j 1 with h | h
        · exact h
        · rw [List.getElem?_eq_none (by simpa [stcells] using h)] at hv; cases hv
      have := hat j (by simpa using hj)
      rw [add_add] at this
      rw [this, hv]
    obtain ⟨f, hf⟩ : ∃ f : Nat → (ByteArray), ∀ i, i < len → (∀ j v, (stcells (f i))[j]? = some v → w.cell? (a.add (i * 1 + j)) = some v) :=
      ⟨fun i => if hi : i < len then (key i hi).choose else ⟨#[]⟩, fun i hi => by
        simp only [dif_pos hi]
        exact (key i hi).choose_spec⟩
    refine ⟨some a, len, cap, (List.range len).map f, rfl, by simp, by unfold maxLen at hm; omega, ?_⟩
    · rcases Nat.eq_zero_or_pos len with h0 | h0
      · exact Or.inl (by rw [h0]; rfl)
      · have c0 := hf 0 h0 0 _ rfl
        obtain ⟨g, o, sp⟩ := a
        have hsp : sp = none := by
          have := World.cell?_spot c0
          simpa [Addr.add] using this
        subst hsp
        refine Or.inr ⟨g, o, rfl, ?_, fun i p hp => ?_⟩
        · have := cell_lt c0
          rw [Addr.add_lit] at this
          exact this
        · have hil : i < len := by
            have := lt_of_some hp
            simpa using this
          rw [List.getElem?_map, List.getElem?_range hil] at hp
          obtain rfl : f i = p := Option.some.inj hp
          have at' : ∀ q v, (stcells (f i))[q]? = some v → w.cell? ⟨g, o + i * 1 + q, none⟩ = some v := by
            intro q v hv
            have := hf i hil q v hv
            rw [Addr.add_lit] at this
            rw [show o + i * 1 + q = o + (i * 1 + q) by omega]
            exact this
          exact by simpa using at' 0 _ rfl
set_option maxRecDepth 100000 in
theorem open_fd {fuel : Nat} {cs : List Value} {x : DataW H × List MemPlace} (h : DataW.trod enc Tryd.prog w base spare held fuel 101 cs = some x) : ∃ p : Fld, cs = fdcells p := by
  obtain ⟨xs, n, _, _, hl, hxl, hg⟩ := DataW.trod_struct Tryd.underlying101 h
  have h0 := hg 0 _ rfl
  have h1 := hg 1 _ rfl
  have h2 := hg 2 _ rfl
  have h3 := hg 3 _ rfl
  have h4 := hg 4 _ rfl
  have h5 := hg 5 _ rfl
  rw [cellsFd] at hl
  obtain ⟨v0, v1, v2, v3, v4, v5, rfl⟩ := list6 cs hl
  obtain ⟨y0, y1, y2, y3, y4, y5, rfl⟩ := list6 xs hxl
  change DataW.trod enc Tryd.prog w base spare held n 3 (List.take (Tryd.prog.cellsOf 3) [v0, v1, v2, v3, v4, v5]) = some y0 at h0
  rw [cellsI] at h0
  change DataW.trod enc Tryd.prog w base spare held n 9 (List.take (Tryd.prog.cellsOf 9) [v1, v2, v3, v4, v5]) = some y1 at h1
  rw [cellsS] at h1
  change DataW.trod enc Tryd.prog w base spare held n 9 (List.take (Tryd.prog.cellsOf 9) [v2, v3, v4, v5]) = some y2 at h2
  rw [cellsS] at h2
  change DataW.trod enc Tryd.prog w base spare held n 3 (List.take (Tryd.prog.cellsOf 3) [v3, v4, v5]) = some y3 at h3
  rw [cellsI] at h3
  change DataW.trod enc Tryd.prog w base spare held n 3 (List.take (Tryd.prog.cellsOf 3) [v4, v5]) = some y4 at h4
  rw [cellsI] at h4
  change DataW.trod enc Tryd.prog w base spare held n 9 (List.take (Tryd.prog.cellsOf 9) [v5]) = some y5 at h5
  rw [cellsS] at h5
  obtain ⟨a0, e0, _, _⟩ := DataW.trod_int Tryd.underlying3 h0
  obtain ⟨a1, e1, _, _⟩ := DataW.trod_string Tryd.underlying9 h1
  obtain ⟨a2, e2, _, _⟩ := DataW.trod_string Tryd.underlying9 h2
  obtain ⟨a3, e3, _, _⟩ := DataW.trod_int Tryd.underlying3 h3
  obtain ⟨a4, e4, _, _⟩ := DataW.trod_int Tryd.underlying3 h4
  obtain ⟨a5, e5, _, _⟩ := DataW.trod_string Tryd.underlying9 h5
  simp at e0 e1 e2 e3 e4 e5
  subst e0 e1 e2 e3 e4 e5
  exact ⟨⟨a0, a1, a2, a3, a4, a5⟩, rfl⟩
set_option maxRecDepth 100000 in
theorem open_fds {fuel : Nat} {cs : List Value} {x : DataW H × List MemPlace} (h : DataW.trod enc Tryd.prog w base spare held fuel 66 cs = some x) :
    ∃ (A : Option Addr) (n c : Nat) (L : List (Fld)), cs = [.slice A n c] ∧ L.length = n ∧ n ≤ 9223372036854775807 ∧ Fls w A L := by
  rcases open_slice Tryd.underlying66 h with ⟨rfl, _⟩ | ⟨a, len, cap, m, n, D, Pl, rfl, hb, hl, hm, hmm, hx, hi⟩
  · exact ⟨none, 0, 0, [], rfl, rfl, by omega, Or.inl rfl⟩
  · have hlm : len ≤ m := by rw [hmm]; split <;> omega
    have key : ∀ i, i < len → ∃ p : (Fld), (∀ j v, (fdcells p)[j]? = some v → w.cell? (a.add (i * 6 + j)) = some v) := by
      intro i hil
      obtain ⟨cs', hc, ht⟩ := hi i (by omega)
      rw [cellsFd] at hc
      obtain ⟨p, rfl⟩ := open_fd ht
      obtain ⟨_, _, hat⟩ := World.cells?_some hc
      refine ⟨p, fun j v hv => ?_⟩
      have hj : j < 6 := by
        rcases Nat.lt_or_ge j 6 with h | h
        · exact h
        · rw [List.getElem?_eq_none (by simpa [fdcells] using h)] at hv; cases hv
      have := hat j (by simpa using hj)
      rw [add_add] at this
      rw [this, hv]
    obtain ⟨f, hf⟩ : ∃ f : Nat → (Fld), ∀ i, i < len → (∀ j v, (fdcells (f i))[j]? = some v → w.cell? (a.add (i * 6 + j)) = some v) :=
      ⟨fun i => if hi : i < len then (key i hi).choose else ⟨0, ⟨#[]⟩, ⟨#[]⟩, 0, 0, ⟨#[]⟩⟩, fun i hi => by
        simp only [dif_pos hi]
        exact (key i hi).choose_spec⟩
    refine ⟨some a, len, cap, (List.range len).map f, rfl, by simp, by unfold maxLen at hm; omega, ?_⟩
    · rcases Nat.eq_zero_or_pos len with h0 | h0
      · exact Or.inl (by rw [h0]; rfl)
      · have c0 := hf 0 h0 0 _ rfl
        obtain ⟨g, o, sp⟩ := a
        have hsp : sp = none := by
          have := World.cell?_spot c0
          simpa [Addr.add] using this
        subst hsp
        refine Or.inr ⟨g, o, rfl, ?_, fun i p hp => ?_⟩
        · have := cell_lt c0
          rw [Addr.add_lit] at this
          exact this
        · have hil : i < len := by
            have := lt_of_some hp
            simpa using this
          rw [List.getElem?_map, List.getElem?_range hil] at hp
          obtain rfl : f i = p := Option.some.inj hp
          have at' : ∀ q v, (fdcells (f i))[q]? = some v → w.cell? ⟨g, o + i * 6 + q, none⟩ = some v := by
            intro q v hv
            have := hf i hil q v hv
            rw [Addr.add_lit] at this
            rw [show o + i * 6 + q = o + (i * 6 + q) by omega]
            exact this
          exact ⟨at' 0 _ rfl, at' 1 _ rfl, at' 2 _ rfl, at' 3 _ rfl, at' 4 _ rfl, at' 5 _ rfl⟩
set_option maxRecDepth 100000 in
theorem open_codes {fuel : Nat} {cs : List Value} {x : DataW H × List MemPlace} (h : DataW.trod enc Tryd.prog w base spare held fuel 27 cs = some x) : ∃ (c : Cd) (ms : List SM) (ls : List (Int × Int)), cs = [.int .i64 c.st, .int .i64 c.lo, .slice c.iA c.n c.ic, .slice c.hA c.hn c.hc, .slice c.mA c.mn c.mc, .slice c.lA c.ln c.lc] ∧ c.mem w ms ls ∧ (c.mA = none → c.mn = 0 ∧ c.mc = 0) := by
  obtain ⟨xs, n, _, _, hl, hxl, hg⟩ := DataW.trod_struct Tryd.underlying27 h
  have h0 := hg 0 _ rfl
  have h1 := hg 1 _ rfl
  have h2 := hg 2 _ rfl
  have h3 := hg 3 _ rfl
  have h4 := hg 4 _ rfl
  have h5 := hg 5 _ rfl
  rw [cellsCd] at hl
  obtain ⟨v0, v1, v2, v3, v4, v5, rfl⟩ := list6 cs hl
  obtain ⟨y0, y1, y2, y3, y4, y5, rfl⟩ := list6 xs hxl
  change DataW.trod enc Tryd.prog w base spare held n 3 (List.take (Tryd.prog.cellsOf 3) [v0, v1, v2, v3, v4, v5]) = some y0 at h0
  rw [cellsI] at h0
  change DataW.trod enc Tryd.prog w base spare held n 3 (List.take (Tryd.prog.cellsOf 3) [v1, v2, v3, v4, v5]) = some y1 at h1
  rw [cellsI] at h1
  change DataW.trod enc Tryd.prog w base spare held n 22 (List.take (Tryd.prog.cellsOf 22) [v2, v3, v4, v5]) = some y2 at h2
  rw [cellsIs] at h2
  change DataW.trod enc Tryd.prog w base spare held n 23 (List.take (Tryd.prog.cellsOf 23) [v3, v4, v5]) = some y3 at h3
  rw [cellsHs] at h3
  change DataW.trod enc Tryd.prog w base spare held n 24 (List.take (Tryd.prog.cellsOf 24) [v4, v5]) = some y4 at h4
  rw [cellsMs] at h4
  change DataW.trod enc Tryd.prog w base spare held n 25 (List.take (Tryd.prog.cellsOf 25) [v5]) = some y5 at h5
  rw [cellsLs] at h5
  obtain ⟨a0, e0, _, _⟩ := DataW.trod_int Tryd.underlying3 h0
  obtain ⟨a1, e1, _, _⟩ := DataW.trod_int Tryd.underlying3 h1
  obtain ⟨A2, n2, c2, L2, e2, l2, k2, r2, z2⟩ := open_ins h2
  obtain ⟨A3, n3, c3, L3, e3, l3, k3, r3⟩ := open_hds h3
  obtain ⟨A4, n4, c4, L4, e4, l4, k4, m4, r4⟩ := open_sms h4
  obtain ⟨A5, n5, c5, L5, e5, l5, k5, r5⟩ := open_lns h5
  have m2 : n2 ≤ 9223372036854775807 := by rw [e2] at h2; exact slice_max Tryd.underlying22 h2
  have q4 : A4 = none → n4 = 0 ∧ c4 = 0 := by rw [e4] at h4; exact slice_nil Tryd.underlying24 h4
  simp at e0 e1 e2 e3 e4 e5
  subst e0 e1 e2 e3 e4 e5
  exact ⟨⟨a0, a1, A2, n2, c2, L2, A3, n3, c3, L3, A4, n4, c4, A5, n5, c5⟩, L4, L5, rfl, ⟨⟨l2, r2, m2, l3, r3, k3, fun i hi => (z2 i hi).1⟩, l4, r4, by show n4 ≤ 9223372036854775807; omega, l5, r5, k5⟩, q4⟩
set_option maxRecDepth 100000 in
theorem open_me {fuel : Nat} {cs : List Value} {x : DataW H × List MemPlace} (h : DataW.trod enc Tryd.prog w base spare held fuel 77 cs = some x) : ∃ p : Me, cs = mcs p ∧ (p.ok w ∧ (p.c.mA = none → p.c.mn = 0 ∧ p.c.mc = 0)) := by
  obtain ⟨xs, n, _, _, hl, hxl, hg⟩ := DataW.trod_struct Tryd.underlying77 h
  have h0 := hg 0 _ rfl
  have h1 := hg 1 _ rfl
  have h2 := hg 2 _ rfl
  have h3 := hg 3 _ rfl
  have h4 := hg 4 _ rfl
  have h5 := hg 5 _ rfl
  rw [cellsMe] at hl
  obtain ⟨v0, v1, v2, v3, v4, v5, v6, v7, v8, v9, v10, rfl⟩ := list11 cs hl
  obtain ⟨y0, y1, y2, y3, y4, y5, rfl⟩ := list6 xs hxl
  change DataW.trod enc Tryd.prog w base spare held n 3 (List.take (Tryd.prog.cellsOf 3) [v0, v1, v2, v3, v4, v5, v6, v7, v8, v9, v10]) = some y0 at h0
  rw [cellsI] at h0
  change DataW.trod enc Tryd.prog w base spare held n 9 (List.take (Tryd.prog.cellsOf 9) [v1, v2, v3, v4, v5, v6, v7, v8, v9, v10]) = some y1 at h1
  rw [cellsS] at h1
  change DataW.trod enc Tryd.prog w base spare held n 9 (List.take (Tryd.prog.cellsOf 9) [v2, v3, v4, v5, v6, v7, v8, v9, v10]) = some y2 at h2
  rw [cellsS] at h2
  change DataW.trod enc Tryd.prog w base spare held n 4 (List.take (Tryd.prog.cellsOf 4) [v3, v4, v5, v6, v7, v8, v9, v10]) = some y3 at h3
  rw [cellsBo] at h3
  change DataW.trod enc Tryd.prog w base spare held n 27 (List.take (Tryd.prog.cellsOf 27) [v4, v5, v6, v7, v8, v9, v10]) = some y4 at h4
  rw [cellsCd] at h4
  change DataW.trod enc Tryd.prog w base spare held n 65 (List.take (Tryd.prog.cellsOf 65) [v10]) = some y5 at h5
  rw [cellsSt] at h5
  obtain ⟨a0, e0, _, _⟩ := DataW.trod_int Tryd.underlying3 h0
  obtain ⟨a1, e1, _, _⟩ := DataW.trod_string Tryd.underlying9 h1
  obtain ⟨a2, e2, _, _⟩ := DataW.trod_string Tryd.underlying9 h2
  obtain ⟨a3, e3, _⟩ := DataW.trod_bool Tryd.underlying4 h3
  obtain ⟨c4, ms4, ls4, e4, k4, q4⟩ := open_codes h4
  obtain ⟨A5, n5, c5, L5, e5, l5, k5, r5⟩ := open_sts h5
  simp at e0 e1 e2 e3 e4 e5
  obtain ⟨f0, f1, f2, f3, f4, f5⟩ := e4
  subst e0 e1 e2 e3 e5 f0 f1 f2 f3 f4 f5
  exact ⟨⟨a0, a1, a2, a3, c4, ms4, ls4, A5, n5, c5, L5⟩, rfl, ⟨k4, l5, r5, k5⟩, q4⟩
set_option maxRecDepth 100000 in
theorem open_mes {fuel : Nat} {cs : List Value} {x : DataW H × List MemPlace} (h : DataW.trod enc Tryd.prog w base spare held fuel 67 cs = some x) :
    ∃ (A : Option Addr) (n c : Nat) (L : List (Me)), cs = [.slice A n c] ∧ L.length = n ∧ n ≤ 9223372036854775807 ∧ Mes w A L ∧ ∀ p ∈ L, (p.ok w ∧ (p.c.mA = none → p.c.mn = 0 ∧ p.c.mc = 0)) := by
  rcases open_slice Tryd.underlying67 h with ⟨rfl, _⟩ | ⟨a, len, cap, m, n, D, Pl, rfl, hb, hl, hm, hmm, hx, hi⟩
  · exact ⟨none, 0, 0, [], rfl, rfl, by omega, Or.inl rfl, fun p hp => by cases hp⟩
  · have hlm : len ≤ m := by rw [hmm]; split <;> omega
    have key : ∀ i, i < len → ∃ p : (Me), (∀ j v, (mcs p)[j]? = some v → w.cell? (a.add (i * 11 + j)) = some v) ∧ (p.ok w ∧ (p.c.mA = none → p.c.mn = 0 ∧ p.c.mc = 0)) := by
      intro i hil
      obtain ⟨cs', hc, ht⟩ := hi i (by omega)
      rw [cellsMe] at hc
      obtain ⟨p, rfl, hp⟩ := open_me ht
      obtain ⟨_, _, hat⟩ := World.cells?_some hc
      refine ⟨p, fun j v hv => ?_, hp⟩
      have hj : j < 11 := by
        rcases Nat.lt_or_ge j 11 with h | h
        · exact h
        · rw [List.getElem?_eq_none (by simpa [mcs] using h)] at hv; cases hv
      have := hat j (by simpa using hj)
      rw [add_add] at this
      rw [this, hv]
    obtain ⟨f, hf⟩ : ∃ f : Nat → (Me), ∀ i, i < len → (∀ j v, (mcs (f i))[j]? = some v → w.cell? (a.add (i * 11 + j)) = some v) ∧ ((f i).ok w ∧ ((f i).c.mA = none → (f i).c.mn = 0 ∧ (f i).c.mc = 0)) :=
      ⟨fun i => if hi : i < len then (key i hi).choose else ⟨0, ⟨#[]⟩, ⟨#[]⟩, false, ⟨0, 0, none, 0, 0, [], none, 0, 0, [], none, 0, 0, none, 0, 0⟩, [], [], none, 0, 0, []⟩, fun i hi => by
        simp only [dif_pos hi]
        exact (key i hi).choose_spec⟩
    refine ⟨some a, len, cap, (List.range len).map f, rfl, by simp, by unfold maxLen at hm; omega, ?_, ?_⟩
    · rcases Nat.eq_zero_or_pos len with h0 | h0
      · exact Or.inl (by rw [h0]; rfl)
      · have c0 := (hf 0 h0).1 0 _ rfl
        obtain ⟨g, o, sp⟩ := a
        have hsp : sp = none := by
          have := World.cell?_spot c0
          simpa [Addr.add] using this
        subst hsp
        refine Or.inr ⟨g, o, rfl, ?_, fun i p hp => ?_⟩
        · have := cell_lt c0
          rw [Addr.add_lit] at this
          exact this
        · have hil : i < len := by
            have := lt_of_some hp
            simpa using this
          rw [List.getElem?_map, List.getElem?_range hil] at hp
          obtain rfl : f i = p := Option.some.inj hp
          have at' : ∀ q v, (mcs (f i))[q]? = some v → w.cell? ⟨g, o + i * 11 + q, none⟩ = some v := by
            intro q v hv
            have := (hf i hil).1 q v hv
            rw [Addr.add_lit] at this
            rw [show o + i * 11 + q = o + (i * 11 + q) by omega]
            exact this
          exact ⟨(hf i hil).2.1, at' 0 _ rfl, at' 1 _ rfl, at' 2 _ rfl, at' 3 _ rfl, at' 4 _ rfl, at' 5 _ rfl, at' 6 _ rfl, at' 7 _ rfl, at' 8 _ rfl, at' 9 _ rfl, at' 10 _ rfl⟩
    · intro p hp
      rw [List.mem_map] at hp
      obtain ⟨j, hj, rfl⟩ := hp
      exact (hf j (List.mem_range.1 hj)).2
set_option maxRecDepth 100000 in
theorem open_cm {fuel : Nat} {cs : List Value} {x : DataW H × List MemPlace} (h : DataW.trod enc Tryd.prog w base spare held fuel 69 cs = some x) : ∃ u : CM, cs = [.int .i64 u.fl, .string u.nm, .string u.su, .slice u.iA u.inn u.ic, .slice u.fA u.fn u.fc, .slice u.mA u.mn u.mc, .string u.so] ∧ u.raw w := by
  obtain ⟨xs, n, _, _, hl, hxl, hg⟩ := DataW.trod_struct Tryd.underlying69 h
  have h0 := hg 0 _ rfl
  have h1 := hg 1 _ rfl
  have h2 := hg 2 _ rfl
  have h3 := hg 3 _ rfl
  have h4 := hg 4 _ rfl
  have h5 := hg 5 _ rfl
  have h6 := hg 6 _ rfl
  rw [cellsCM] at hl
  obtain ⟨v0, v1, v2, v3, v4, v5, v6, rfl⟩ := list7 cs hl
  obtain ⟨y0, y1, y2, y3, y4, y5, y6, rfl⟩ := list7 xs hxl
  change DataW.trod enc Tryd.prog w base spare held n 3 (List.take (Tryd.prog.cellsOf 3) [v0, v1, v2, v3, v4, v5, v6]) = some y0 at h0
  rw [cellsI] at h0
  change DataW.trod enc Tryd.prog w base spare held n 9 (List.take (Tryd.prog.cellsOf 9) [v1, v2, v3, v4, v5, v6]) = some y1 at h1
  rw [cellsS] at h1
  change DataW.trod enc Tryd.prog w base spare held n 9 (List.take (Tryd.prog.cellsOf 9) [v2, v3, v4, v5, v6]) = some y2 at h2
  rw [cellsS] at h2
  change DataW.trod enc Tryd.prog w base spare held n 65 (List.take (Tryd.prog.cellsOf 65) [v3, v4, v5, v6]) = some y3 at h3
  rw [cellsSt] at h3
  change DataW.trod enc Tryd.prog w base spare held n 66 (List.take (Tryd.prog.cellsOf 66) [v4, v5, v6]) = some y4 at h4
  rw [cellsFs] at h4
  change DataW.trod enc Tryd.prog w base spare held n 67 (List.take (Tryd.prog.cellsOf 67) [v5, v6]) = some y5 at h5
  rw [cellsMm] at h5
  change DataW.trod enc Tryd.prog w base spare held n 9 (List.take (Tryd.prog.cellsOf 9) [v6]) = some y6 at h6
  rw [cellsS] at h6
  obtain ⟨a0, e0, _, _⟩ := DataW.trod_int Tryd.underlying3 h0
  obtain ⟨a1, e1, _, _⟩ := DataW.trod_string Tryd.underlying9 h1
  obtain ⟨a2, e2, _, _⟩ := DataW.trod_string Tryd.underlying9 h2
  obtain ⟨A3, n3, c3, L3, e3, l3, k3, r3⟩ := open_sts h3
  obtain ⟨A4, n4, c4, L4, e4, l4, k4, r4⟩ := open_fds h4
  obtain ⟨A5, n5, c5, L5, e5, l5, k5, r5, q5⟩ := open_mes h5
  obtain ⟨a6, e6, _, _⟩ := DataW.trod_string Tryd.underlying9 h6
  simp at e0 e1 e2 e3 e4 e5 e6
  subst e0 e1 e2 e3 e4 e5 e6
  exact ⟨⟨a0, a1, a2, A3, n3, c3, L3, A4, n4, c4, L4, A5, n5, c5, L5, a6⟩, rfl, ⟨l3, r3, k3, l4, r4, k4, l5, r5, k5⟩, fun m hm => (q5 m hm).2⟩
set_option maxRecDepth 100000 in
theorem open_cm_of {r : Reach} {b0 : Nat} {v : Value} {d : DataW H} {q : List MemPlace} (hv : Value.okWide Tryd.prog w r b0 69 v) (h : DataW.Trod enc Tryd.prog w base spare held 69 v d q) :
    ∃ u : CM, v = .agg #[.int .i64 u.fl, .string u.nm, .string u.su, .slice u.iA u.inn u.ic, .slice u.fA u.fn u.fc, .slice u.mA u.mn u.mc, .string u.so] ∧ u.raw w := by
  obtain ⟨cs, rfl, hsz⟩ := okWide_struct Tryd.underlying69 hv
  obtain ⟨fuel, hf⟩ := h
  obtain ⟨u, e, hu⟩ := open_cm hf
  refine ⟨u, ?_, hu⟩
  have e' : cs.toList = [.int .i64 u.fl, .string u.nm, .string u.su, .slice u.iA u.inn u.ic, .slice u.fA u.fn u.fc, .slice u.mA u.mn u.mc, .string u.so] := by simpa [Value.cells] using e
  have : cs = #[.int .i64 u.fl, .string u.nm, .string u.su, .slice u.iA u.inn u.ic, .slice u.fA u.fn u.fc, .slice u.mA u.mn u.mc, .string u.so] := by rw [← Array.toList_inj, e']
  rw [this]
set_option maxRecDepth 100000 in
theorem open_smn_of {r : Reach} {b0 : Nat} {v : Value} {d : DataW H} {q : List MemPlace} (hv : Value.okWide Tryd.prog w r b0 24 v) (h : DataW.Trod enc Tryd.prog w base spare held 24 v d q) :
    ∃ (A : Option Addr) (n c : Nat) (L : List SM), v = .slice A n c ∧ L.length = n ∧ n ≤ c ∧ c ≤ 9223372036854775807 ∧ SMs w A L ∧ (A = none → n = 0 ∧ c = 0) := by
  obtain ⟨a, len, cap, rfl⟩ := okWide_slice Tryd.underlying24 hv
  obtain ⟨fuel, hf⟩ := h
  obtain ⟨A, n, c, L, e, hn, hc, hm, ht⟩ := open_sms hf
  have e' : (.slice a len cap : Value) = .slice A n c := by simpa [Value.cells] using e
  rw [e] at hf
  exact ⟨A, n, c, L, e', hn, hc, hm, ht, slice_nil Tryd.underlying24 hf⟩
end

end Go.Proofs.YtdppooflbjlbcaaDoor.I
