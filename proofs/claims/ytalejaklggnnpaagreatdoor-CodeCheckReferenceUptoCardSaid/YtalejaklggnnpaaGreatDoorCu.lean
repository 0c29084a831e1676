import Derived.Test.YtalejaklggnnpaaGreatDoorCp
import Derived.Test.YtalejaklggnnpaaGreatDoorCoS
/- Layer 9: code as a parameter hands it over, opened with its stack maps and lines; lists of stack maps. (Written by gen/cu.py.) -/
namespace Go.Proofs.YtalejaklggnnpaaGreatDoor.I
open Go.ChangeShapes Go.WideShapes Go.ChangeAt Go.RowKit Go.Deep
set_option linter.unusedSimpArgs false
set_option linter.unusedVariables false
theorem cellsV6 : Tryz.prog.cellsOf 116 = 6 := by kernel_rfl
theorem cellsT3 : Tryz.prog.cellsOf 114 = 3 := by kernel_rfl
theorem cellsU : Tryz.prog.cellsOf 5 = 1 := by kernel_rfl
theorem list3 {α : Type} : ∀ (l : List α), l.length = 3 → ∃ a b c, l = [a, b, c]
 | [a, b, c], _ => ⟨a, b, c, rfl⟩
theorem list4 {α : Type} : ∀ (l : List α), l.length = 4 → ∃ a b c d, l = [a, b, c, d]
 | [a, b, c, d], _ => ⟨a, b, c, d, rfl⟩
theorem cellsF3 : Tryz.prog.cellsOf 62 = 3 := by kernel_rfl
theorem cellsVs : Tryz.prog.cellsOf 60 = 1 := by kernel_rfl
theorem cellsBo : Tryz.prog.cellsOf 4 = 1 := by kernel_rfl
theorem cellsSM : Tryz.prog.cellsOf 64 = 4 := by kernel_rfl
theorem cellsLn : Tryz.prog.cellsOf 67 = 2 := by kernel_rfl
theorem list2 {α : Type} : ∀ (l : List α), l.length = 2 → ∃ a b, l = [a, b]
 | [a, b], _ => ⟨a, b, rfl⟩
theorem i64_wf {n : Int} (h : (Lit.int .i64 n).wf = true) : -9223372036854775808 ≤ n ∧ n ≤ 9223372036854775807 := by
 simp only [Lit.wf, Bool.and_eq_true, decide_eq_true_eq] at h
 have h1 := h.1
 have h2 := h.2
 rw [show IntKind.i64.min = -9223372036854775808 from by rfl] at h1
 rw [show IntKind.i64.max = 9223372036854775807 from by rfl] at h2
 exact ⟨h1, h2⟩
section
variable {H : Type} {enc : TypeId × Value → H} {w : World} {base : Nat} {spare : Nat → Bool} {held : Bool}
set_option maxRecDepth 100000 in
theorem open_ty {fuel : Nat} {cs : List Value} {x : DataW H × List MemPlace} (h : DataW.trod enc Tryz.prog w base spare held fuel 114 cs = some x) :
  ∃ (d b : Int) (s : ByteArray), cs = [.int .i64 d, .int .u8 b, .string s] ∧ s.size ≤ 9223372036854775807 := by
 obtain ⟨xs, n, _, _, hl, hxl, hg⟩ := DataW.trod_struct Tryz.underlying114 h
 have h0 := hg 0 _ rfl
 have h1 := hg 1 _ rfl
 have h2 := hg 2 _ rfl
 rw [cellsT3] at hl
 obtain ⟨v0, v1, v2, rfl⟩ := list3 cs hl
 obtain ⟨y0, y1, y2, rfl⟩ := list3 xs hxl
 change DataW.trod enc Tryz.prog w base spare held n 3 (List.take (Tryz.prog.cellsOf 3) [v0, v1, v2]) = some y0 at h0
 change DataW.trod enc Tryz.prog w base spare held n 5 (List.take (Tryz.prog.cellsOf 5) [v1, v2]) = some y1 at h1
 change DataW.trod enc Tryz.prog w base spare held n 9 (List.take (Tryz.prog.cellsOf 9) [v2]) = some y2 at h2
 rw [cellsI] at h0
 rw [cellsU] at h1
 rw [cellsS] at h2
 obtain ⟨a0, e0, _, _⟩ := DataW.trod_int Tryz.underlying3 h0
 obtain ⟨a1, e1, _, _⟩ := DataW.trod_int Tryz.underlying5 h1
 obtain ⟨a2, e2, _, k2⟩ := DataW.trod_string Tryz.underlying9 h2
 simp at e0 e1 e2
 subst e0 e1 e2
 unfold maxLen at k2
 exact ⟨a0, a1, a2, rfl, k2⟩
set_option maxRecDepth 100000 in
theorem open_vt {fuel : Nat} {cs : List Value} {x : DataW H × List MemPlace} (h : DataW.trod enc Tryz.prog w base spare held fuel 116 cs = some x) :
  ∃ (k n d b : Int) (s : ByteArray) (p : Int), cs = [.int .i64 k, .int .i64 n, .int .i64 d, .int .u8 b, .string s, .int .i64 p] ∧ s.size ≤ 9223372036854775807 ∧ -9223372036854775808 ≤ n ∧ n ≤ 9223372036854775807 := by
 obtain ⟨xs, m, _, _, hl, hxl, hg⟩ := DataW.trod_struct Tryz.underlying116 h
 have h0 := hg 0 _ rfl
 have h1 := hg 1 _ rfl
 have h2 := hg 2 _ rfl
 have h3 := hg 3 _ rfl
 rw [cellsV6] at hl
 obtain ⟨v0, v1, v2, v3, v4, v5, rfl⟩ := list6 cs hl
 obtain ⟨y0, y1, y2, y3, rfl⟩ := list4 xs hxl
 change DataW.trod enc Tryz.prog w base spare held m 3 (List.take (Tryz.prog.cellsOf 3) [v0, v1, v2, v3, v4, v5]) = some y0 at h0
 change DataW.trod enc Tryz.prog w base spare held m 3 (List.take (Tryz.prog.cellsOf 3) [v1, v2, v3, v4, v5]) = some y1 at h1
 change DataW.trod enc Tryz.prog w base spare held m 114 (List.take (Tryz.prog.cellsOf 114) [v2, v3, v4, v5]) = some y2 at h2
 change DataW.trod enc Tryz.prog w base spare held m 3 (List.take (Tryz.prog.cellsOf 3) [v5]) = some y3 at h3
 rw [cellsI] at h0 h1 h3
 rw [cellsT3] at h2
 obtain ⟨a0, e0, _, _⟩ := DataW.trod_int Tryz.underlying3 h0
 obtain ⟨a1, e1, _, k1⟩ := DataW.trod_int Tryz.underlying3 h1
 obtain ⟨d, b, s, e2, hs⟩ := open_ty h2
 obtain ⟨a3, e3, _, _⟩ := DataW.trod_int Tryz.underlying3 h3
 simp at e0 e1 e2 e3
 obtain ⟨f2, f3, f4⟩ := e2
 subst e0 e1 f2 f3 f4 e3
 exact ⟨a0, a1, d, b, s, a3, rfl, hs, i64_wf k1⟩
set_option maxRecDepth 100000 in
theorem open_vs {fuel : Nat} {cs : List Value} {x : DataW H × List MemPlace} (h : DataW.trod enc Tryz.prog w base spare held fuel 60 cs = some x) :
  ∃ (A : Option Addr) (n c : Nat) (P : List VT), cs = [.slice A n c] ∧ P.length = n ∧ n ≤ c ∧ c ≤ 9223372036854775807 ∧ VS w w.heap.size A P := by
 rcases open_slice Tryz.underlying60 h with ⟨rfl, _⟩ | ⟨a, len, cap, m, n, D, Pl, rfl, hb, hl, hm, hmm, hx, hi⟩
 ·
  exact ⟨none, 0, 0, [], rfl, rfl, Nat.le_refl _, by omega, Or.inl rfl, fun v hv => by cases hv⟩
 ·
  have hlm : len ≤ m := by rw [hmm]; split <;> omega
  have key : ∀ i, i < len → ∃ p : VT, (∀ j v, (vcs p)[j]? = some v → w.cell? (a.add (i * 6 + j)) = some v) ∧ p.s.size ≤ 9223372036854775807 := by
   intro i hil
   obtain ⟨cs', hc, ht⟩ := hi i (by omega)
   rw [cellsV6] at hc
   obtain ⟨k, n, d, b, s, p, rfl, hs, _⟩ := open_vt ht
   obtain ⟨_, _, hat⟩ := World.cells?_some hc
   refine ⟨⟨k, n, d, b, s, p⟩, fun j v hv => ?_, hs⟩
   have := hat j (by simpa using vcs_lt hv)
   rw [add_add] at this
   rw [this]
   exact hv
  obtain ⟨f, hf⟩ : ∃ f : Nat → VT, ∀ i, i < len → (∀ j v, (vcs (f i))[j]? = some v → w.cell? (a.add (i * 6 + j)) = some v) ∧ (f i).s.size ≤ 9223372036854775807 :=
   ⟨fun i => if hi : i < len then (key i hi).choose else vtZ, fun i hi => by
    simp only [dif_pos hi]
    exact (key i hi).choose_spec⟩
  refine ⟨some a, len, cap, (List.range len).map f, rfl, by simp, hl, by unfold maxLen at hm; exact hm, ?_, ?_⟩
  ·
   rcases Nat.eq_zero_or_pos len with h0 | h0
   ·
    exact Or.inl (by rw [h0]; rfl)
   ·
    have c0 := (hf 0 h0).1 0 _ rfl
    obtain ⟨g, o, sp⟩ := a
    have hsp : sp = none := by
     have := World.cell?_spot c0
     simpa [Addr.add] using this
    subst hsp
    refine Or.inr ⟨g, o, rfl, ?_, fun i p hp q v hv => ?_⟩
    ·
     have := cell_lt c0
     rw [Addr.add_lit] at this
     exact this
    ·
     have hil : i < len := by
      have := lt_of_some hp
      simpa using this
     rw [List.getElem?_map, List.getElem?_range hil] at hp
     obtain rfl : f i = p := Option.some.inj hp
     have := (hf i hil).1 q v hv
     rw [Addr.add_lit] at this
     rw [show o + i * 6 + q = o + (i * 6 + q) by omega]
     exact this
  ·
   intro v hv
   obtain ⟨j, hj, rfl⟩ := List.mem_map.1 hv
   exact (hf j (List.mem_range.1 hj)).2
set_option maxRecDepth 100000 in
theorem open_fm {fuel : Nat} {cs : List Value} {x : DataW H × List MemPlace} (h : DataW.trod enc Tryz.prog w base spare held fuel 62 cs = some x) :
  ∃ f : FM, cs = [.slice f.A1 f.n1 f.c1, .slice f.A2 f.n2 f.c2, .bool f.u] ∧ f.ok w := by
 obtain ⟨xs, n, _, _, hl, hxl, hg⟩ := DataW.trod_struct Tryz.underlying62 h
 have h0 := hg 0 _ rfl
 have h1 := hg 1 _ rfl
 have h2 := hg 2 _ rfl
 rw [cellsF3] at hl
 obtain ⟨v0, v1, v2, rfl⟩ := list3 cs hl
 obtain ⟨y0, y1, y2, rfl⟩ := list3 xs hxl
 change DataW.trod enc Tryz.prog w base spare held n 60 (List.take (Tryz.prog.cellsOf 60) [v0, v1, v2]) = some y0 at h0
 change DataW.trod enc Tryz.prog w base spare held n 60 (List.take (Tryz.prog.cellsOf 60) [v1, v2]) = some y1 at h1
 change DataW.trod enc Tryz.prog w base spare held n 4 (List.take (Tryz.prog.cellsOf 4) [v2]) = some y2 at h2
 rw [cellsVs] at h0 h1
 rw [cellsBo] at h2
 obtain ⟨A1, n1, c1, P, e0, l1, m1, q1, r1⟩ := open_vs h0
 obtain ⟨A2, n2, c2, Q, e1, l2, m2, q2, r2⟩ := open_vs h1
 obtain ⟨b, e2, _⟩ := DataW.trod_bool Tryz.underlying4 h2
 simp at e0 e1 e2
 subst e0 e1 e2
 exact ⟨⟨A1, n1, c1, A2, n2, c2, b, P, Q⟩, rfl, r1, r2, l1, l2, m1, q1, m2, q2⟩
end
def smcells (m : SM) : List Value := [.int .i64 m.x, .slice m.f.A1 m.f.n1 m.f.c1, .slice m.f.A2 m.f.n2 m.f.c2, .bool m.f.u]
def lncells (p : Int × Int) : List Value := [.int .i64 p.1, .int .i64 p.2]
section
variable {H : Type} {enc : TypeId × Value → H} {w : World} {base : Nat} {spare : Nat → Bool} {held : Bool}
set_option maxRecDepth 100000 in
theorem open_sm {fuel : Nat} {cs : List Value} {x : DataW H × List MemPlace} (h : DataW.trod enc Tryz.prog w base spare held fuel 64 cs = some x) : ∃ m : SM, cs = smcells m ∧ m.f.ok w := by
 obtain ⟨xs, n, _, _, hl, hxl, hg⟩ := DataW.trod_struct Tryz.underlying64 h
 have h0 := hg 0 _ rfl
 have h1 := hg 1 _ rfl
 rw [cellsSM] at hl
 obtain ⟨v0, v1, v2, v3, rfl⟩ := list4 cs hl
 obtain ⟨y0, y1, rfl⟩ := list2 xs hxl
 change DataW.trod enc Tryz.prog w base spare held n 3 (List.take (Tryz.prog.cellsOf 3) [v0, v1, v2, v3]) = some y0 at h0
 change DataW.trod enc Tryz.prog w base spare held n 62 (List.take (Tryz.prog.cellsOf 62) [v1, v2, v3]) = some y1 at h1
 rw [cellsI] at h0
 rw [cellsF3] at h1
 obtain ⟨a0, e0, _, _⟩ := DataW.trod_int Tryz.underlying3 h0
 obtain ⟨f, e1, hf⟩ := open_fm h1
 simp at e0 e1
 obtain ⟨f1, f2, f3⟩ := e1
 subst e0 f1 f2 f3
 exact ⟨⟨a0, f⟩, rfl, hf⟩
set_option maxRecDepth 100000 in
theorem open_ln {fuel : Nat} {cs : List Value} {x : DataW H × List MemPlace} (h : DataW.trod enc Tryz.prog w base spare held fuel 67 cs = some x) : ∃ p : Int × Int, cs = lncells p := by
 obtain ⟨xs, n, _, _, hl, hxl, hg⟩ := DataW.trod_struct Tryz.underlying67 h
 have h0 := hg 0 _ rfl
 have h1 := hg 1 _ rfl
 rw [cellsLn] at hl
 obtain ⟨v0, v1, rfl⟩ := list2 cs hl
 obtain ⟨y0, y1, rfl⟩ := list2 xs hxl
 change DataW.trod enc Tryz.prog w base spare held n 3 (List.take (Tryz.prog.cellsOf 3) [v0, v1]) = some y0 at h0
 change DataW.trod enc Tryz.prog w base spare held n 3 (List.take (Tryz.prog.cellsOf 3) [v1]) = some y1 at h1
 rw [cellsI] at h0 h1
 obtain ⟨a0, e0, _, _⟩ := DataW.trod_int Tryz.underlying3 h0
 obtain ⟨a1, e1, _, _⟩ := DataW.trod_int Tryz.underlying3 h1
 simp at e0 e1
 subst e0 e1
 exact ⟨(a0, a1), rfl⟩
set_option maxRecDepth 100000 in
theorem open_sms {fuel : Nat} {cs : List Value} {x : DataW H × List MemPlace} (h : DataW.trod enc Tryz.prog w base spare held fuel 25 cs = some x) :
  ∃ (A : Option Addr) (n c : Nat) (L : List SM), cs = [.slice A n c] ∧ L.length = n ∧ n ≤ c ∧ c ≤ 9223372036854775807 ∧ SMs w A L := by
 rcases open_slice Tryz.underlying25 h with ⟨rfl, _⟩ | ⟨a, len, cap, m, n, D, Pl, rfl, hb, hl, hm, hmm, hx, hi⟩
 ·
  exact ⟨none, 0, 0, [], rfl, rfl, Nat.le_refl _, by omega, Or.inl rfl⟩
 ·
  have hlm : len ≤ m := by rw [hmm]; split <;> omega
  have key : ∀ i, i < len → ∃ p : SM, (∀ j v, (smcells p)[j]? = some v → w.cell? (a.add (i * 4 + j)) = some v) ∧ p.f.ok w := by
   intro i hil
   obtain ⟨cs', hc, ht⟩ := hi i (by omega)
   rw [cellsSM] at hc
   obtain ⟨p, rfl, hp⟩ := open_sm ht
   obtain ⟨_, _, hat⟩ := World.cells?_some hc
   refine ⟨p, fun j v hv => ?_, hp⟩
   have hj : j < 4 := by
    rcases Nat.lt_or_ge j 4 with h | h
    ·
     exact h
    ·
     rw [List.getElem?_eq_none (by simpa [smcells] using h)] at hv; cases hv
   have := hat j (by simpa using hj)
   rw [add_add] at this
   rw [this, hv]
  obtain ⟨f, hf⟩ : ∃ f : Nat → SM, ∀ i, i < len → (∀ j v, (smcells (f i))[j]? = some v → w.cell? (a.add (i * 4 + j)) = some v) ∧ (f i).f.ok w :=
   ⟨fun i => if hi : i < len then (key i hi).choose else ⟨0, fmZ⟩, fun i hi => by
    simp only [dif_pos hi]
    exact (key i hi).choose_spec⟩
  refine ⟨some a, len, cap, (List.range len).map f, rfl, by simp, hl, by unfold maxLen at hm; exact hm, ?_⟩
  rcases Nat.eq_zero_or_pos len with h0 | h0
  ·
   exact Or.inl (by rw [h0]; rfl)
  ·
   have c0 := (hf 0 h0).1 0 _ rfl
   obtain ⟨g, o, sp⟩ := a
   have hsp : sp = none := by
    have := World.cell?_spot c0
    simpa [Addr.add] using this
   subst hsp
   refine Or.inr ⟨g, o, rfl, ?_, fun i p hp => ?_⟩
   ·
    have := cell_lt c0
    rw [Addr.add_lit] at this
    exact this
   ·
    have hil : i < len := by
     have := lt_of_some hp
     simpa using this
    rw [List.getElem?_map, List.getElem?_range hil] at hp
    obtain rfl : f i = p := Option.some.inj hp
    have at' : ∀ q v, (smcells (f i))[q]? = some v → w.cell? ⟨g, o + i * 4 + q, none⟩ = some v := by
     intro q v hv
     have := (hf i hil).1 q v hv
     rw [Addr.add_lit] at this
     rw [show o + i * 4 + q = o + (i * 4 + q) by omega]
     exact this
    exact ⟨(hf i hil).2, at' 0 _ rfl, at' 1 _ rfl, at' 2 _ rfl, at' 3 _ rfl⟩
set_option maxRecDepth 100000 in
theorem open_lns {fuel : Nat} {cs : List Value} {x : DataW H × List MemPlace} (h : DataW.trod enc Tryz.prog w base spare held fuel 26 cs = some x) :
  ∃ (A : Option Addr) (n c : Nat) (L : List (Int × Int)), cs = [.slice A n c] ∧ L.length = n ∧ n ≤ c ∧ c ≤ 9223372036854775807 ∧ Lns w A L := by
 rcases open_slice Tryz.underlying26 h with ⟨rfl, _⟩ | ⟨a, len, cap, m, n, D, Pl, rfl, hb, hl, hm, hmm, hx, hi⟩
 ·
  exact ⟨none, 0, 0, [], rfl, rfl, Nat.le_refl _, by omega, Or.inl rfl⟩
 ·
  have hlm : len ≤ m := by rw [hmm]; split <;> omega
  have key : ∀ i, i < len → ∃ p : (Int × Int), (∀ j v, (lncells p)[j]? = some v → w.cell? (a.add (i * 2 + j)) = some v) := by
   intro i hil
   obtain ⟨cs', hc, ht⟩ := hi i (by omega)
   rw [cellsLn] at hc
   obtain ⟨p, rfl⟩ := open_ln ht
   obtain ⟨_, _, hat⟩ := World.cells?_some hc
   refine ⟨p, fun j v hv => ?_⟩
   have hj : j < 2 := by
    rcases Nat.lt_or_ge j 2 with h | h
    ·
     exact h
    ·
     rw [List.getElem?_eq_none (by simpa [lncells] using h)] at hv; cases hv
   have := hat j (by simpa using hj)
   rw [add_add] at this
   rw [this, hv]
  obtain ⟨f, hf⟩ : ∃ f : Nat → (Int × Int), ∀ i, i < len → (∀ j v, (lncells (f i))[j]? = some v → w.cell? (a.add (i * 2 + j)) = some v) :=
   ⟨fun i => if hi : i < len then (key i hi).choose else (0, 0), fun i hi => by
    simp only [dif_pos hi]
    exact (key i hi).choose_spec⟩
  refine ⟨some a, len, cap, (List.range len).map f, rfl, by simp, hl, by unfold maxLen at hm; exact hm, ?_⟩
  rcases Nat.eq_zero_or_pos len with h0 | h0
  ·
   exact Or.inl (by rw [h0]; rfl)
  ·
   have c0 := (hf 0 h0) 0 _ rfl
   obtain ⟨g, o, sp⟩ := a
   have hsp : sp = none := by
    have := World.cell?_spot c0
    simpa [Addr.add] using this
   subst hsp
   refine Or.inr ⟨g, o, rfl, ?_, fun i p hp => ?_⟩
   ·
    have := cell_lt c0
    rw [Addr.add_lit] at this
    exact this
   ·
    have hil : i < len := by
     have := lt_of_some hp
     simpa using this
    rw [List.getElem?_map, List.getElem?_range hil] at hp
    obtain rfl : f i = p := Option.some.inj hp
    have at' : ∀ q v, (lncells (f i))[q]? = some v → w.cell? ⟨g, o + i * 2 + q, none⟩ = some v := by
     intro q v hv
     have := (hf i hil) q v hv
     rw [Addr.add_lit] at this
     rw [show o + i * 2 + q = o + (i * 2 + q) by omega]
     exact this
    exact ⟨at' 0 _ rfl, at' 1 _ rfl⟩
set_option maxRecDepth 100000 in
theorem open_codem {fuel : Nat} {cs : List Value} {x : DataW H × List MemPlace} (h : DataW.trod enc Tryz.prog w base spare held fuel 28 cs = some x) :
  ∃ (c : Cd) (ms : List SM) (ls : List (Int × Int)), cs = [.int .i64 c.st, .int .i64 c.lo, .slice c.iA c.n c.ic, .slice c.hA c.hn c.hc, .slice c.mA c.mn c.mc, .slice c.lA c.ln c.lc] ∧ ((∀ i ∈ c.is, i.tn ≤ 17592186043904) → c.rawm w ms ls) ∧ ∀ i ∈ c.is, Wt 28 x.1 i.tn := by
 obtain ⟨c, e, hr, hw⟩ := open_code h
 subst e
 obtain ⟨xs, n, _, ex, hl, hxl, hg⟩ := DataW.trod_struct Tryz.underlying28 h
 have h4 := hg 4 _ rfl
 have h5 := hg 5 _ rfl
 obtain ⟨y0, y1, y2, y3, y4, y5, rfl⟩ := list6 xs hxl
 change DataW.trod enc Tryz.prog w base spare held n 25 (List.take (Tryz.prog.cellsOf 25) [.slice c.mA c.mn c.mc, .slice c.lA c.ln c.lc]) = some y4 at h4
 change DataW.trod enc Tryz.prog w base spare held n 26 (List.take (Tryz.prog.cellsOf 26) [.slice c.lA c.ln c.lc]) = some y5 at h5
 rw [cellsMs] at h4
 rw [cellsLs] at h5
 obtain ⟨A4, n4, c4, ms, e4, l4, _, _, s4⟩ := open_sms h4
 obtain ⟨A5, n5, c5, ls, e5, l5, _, _, s5⟩ := open_lns h5
 simp at e4 e5
 obtain ⟨rfl, rfl, rfl⟩ := e4
 obtain ⟨rfl, rfl, rfl⟩ := e5
 exact ⟨c, ms, ls, rfl, fun ht => ⟨hr ht, l4, s4, l5, s5⟩, hw⟩
set_option maxRecDepth 100000 in
theorem open_codem_of {r : Reach} {b0 : Nat} {v : Value} {d : DataW H} {q : List MemPlace} (hv : Value.okWide Tryz.prog w r b0 28 v) (h : DataW.Trod enc Tryz.prog w base spare held 28 v d q) :
  ∃ (c : Cd) (ms : List SM) (ls : List (Int × Int)), v = (Value.agg #[Value.int IntKind.i64 (Cd.st c), Value.int IntKind.i64 (Cd.lo c), Value.slice (Cd.iA c) (Cd.n c) (Cd.ic c), Value.slice (Cd.hA c) (Cd.hn c) (Cd.hc c), Value.slice (Cd.mA c) (Cd.mn c) (Cd.mc c), Value.slice (Cd.lA c) (Cd.ln c) (Cd.lc c)]) ∧ ((∀ i ∈ c.is, i.tn ≤ 17592186043904) → c.rawm w ms ls) ∧ ∀ i ∈ c.is, Wt 28 d i.tn := by
 obtain ⟨cs, rfl, hsz⟩ := okWide_struct Tryz.underlying28 hv
 obtain ⟨fuel, hf⟩ := h
 obtain ⟨c, ms, ls, e, hc, hw⟩ := open_codem hf
 refine ⟨c, ms, ls, ?_, hc, hw⟩
 have e' : cs.toList = [.int .i64 c.st, .int .i64 c.lo, .slice c.iA c.n c.ic, .slice c.hA c.hn c.hc, .slice c.mA c.mn c.mc, .slice c.lA c.ln c.lc] := by simpa [Value.cells] using e
 have : cs = #[.int .i64 c.st, .int .i64 c.lo, .slice c.iA c.n c.ic, .slice c.hA c.hn c.hc, .slice c.mA c.mn c.mc, .slice c.lA c.ln c.lc] := by rw [← Array.toList_inj, e']
 rw [this]
end
end Go.Proofs.YtalejaklggnnpaaGreatDoor.I
