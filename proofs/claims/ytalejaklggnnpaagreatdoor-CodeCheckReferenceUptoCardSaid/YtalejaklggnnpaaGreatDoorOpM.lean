import Derived.Test.YtalejaklggnnpaaGreatDoorPjM
import Derived.Deep.Slices
import Derived.Deep.Strs
import Derived.Deep.Fields
import Derived.Lib.SmallJoins
import Derived.SizedLaws
import Derived.Test.YtalejaklggnnpaaGreatDoorRows
/- PoolOpen -/
/- Layer 5: arguments that hold constants in memory, opened. -/
namespace Go.Proofs.YtalejaklggnnpaaGreatDoor
open Go.ChangeShapes Go.WideShapes Go.ChangeAt Go.RowKit Go.Deep
set_option linter.unusedSimpArgs false
set_option linter.unusedVariables false
theorem cellsCn : Tryz.prog.cellsOf 155 = 5 := by kernel_rfl
theorem cellsRf : Tryz.prog.cellsOf 48 = 3 := by kernel_rfl
theorem cellsI : Tryz.prog.cellsOf 3 = 1 := by kernel_rfl
theorem cellsS : Tryz.prog.cellsOf 9 = 1 := by kernel_rfl
theorem cell_lt {w : World} {a : Addr} {v : Value} (h : w.cell? a = some v) : a.block < w.heap.size := by
 rcases Nat.lt_or_ge a.block w.heap.size with hl | hl
 ·
  exact hl
 ·
  rw [World.cell?, Array.getElem?_eq_none hl] at h; simp at h
theorem list5 {α : Type} : ∀ (l : List α), l.length = 5 → ∃ a b c d e, l = [a, b, c, d, e]
 | [a, b, c, d, e], _ => ⟨a, b, c, d, e, rfl⟩
section
variable {H : Type} {enc : TypeId × Value → H} {w : World} {base : Nat} {spare : Nat → Bool} {held : Bool}
set_option maxRecDepth 100000 in
theorem open_cn {fuel : Nat} {cs : List Value} {x : DataW H × List MemPlace} (h : DataW.trod enc Tryz.prog w base spare held fuel 155 cs = some x) :
  ∃ p : Cn, cs = cnCells p ∧ p.s.size ≤ 9223372036854775807 := by
 obtain ⟨xs, n, _, _, hl, hxl, hg⟩ := DataW.trod_struct Tryz.underlying155 h
 have h0 := hg 0 _ rfl
 have h1 := hg 1 _ rfl
 have h2 := hg 2 _ rfl
 have h3 := hg 3 _ rfl
 have h4 := hg 4 _ rfl
 rw [cellsCn] at hl
 obtain ⟨v0, v1, v2, v3, v4, rfl⟩ := list5 cs hl
 obtain ⟨y0, y1, y2, y3, y4, rfl⟩ := list5 xs hxl
 ·
  change DataW.trod enc Tryz.prog w base spare held n 3 (List.take (Tryz.prog.cellsOf 3) [v0, v1, v2, v3, v4]) = some y0 at h0
  change DataW.trod enc Tryz.prog w base spare held n 9 (List.take (Tryz.prog.cellsOf 9) [v1, v2, v3, v4]) = some y1 at h1
  change DataW.trod enc Tryz.prog w base spare held n 3 (List.take (Tryz.prog.cellsOf 3) [v2, v3, v4]) = some y2 at h2
  change DataW.trod enc Tryz.prog w base spare held n 3 (List.take (Tryz.prog.cellsOf 3) [v3, v4]) = some y3 at h3
  change DataW.trod enc Tryz.prog w base spare held n 3 (List.take (Tryz.prog.cellsOf 3) [v4]) = some y4 at h4
  rw [cellsI] at h0 h2 h3 h4
  rw [cellsS] at h1
  obtain ⟨a0, e0, _, _⟩ := DataW.trod_int Tryz.underlying3 h0
  obtain ⟨a1, e1, _, hs⟩ := DataW.trod_string Tryz.underlying9 h1
  obtain ⟨a2, e2, _, _⟩ := DataW.trod_int Tryz.underlying3 h2
  obtain ⟨a3, e3, _, _⟩ := DataW.trod_int Tryz.underlying3 h3
  obtain ⟨a4, e4, _, _⟩ := DataW.trod_int Tryz.underlying3 h4
  simp at e0 e1 e2 e3 e4
  subst e0 e1 e2 e3 e4
  exact ⟨⟨a0, a1, a2, a3, a4⟩, rfl, by unfold maxLen at hs; exact hs⟩
end
end Go.Proofs.YtalejaklggnnpaaGreatDoor
/- PoolWts -/
/- Layer 5: what the reach says of a pool's texts. -/
namespace Go.Proofs.YtalejaklggnnpaaGreatDoor
open Go.ChangeShapes Go.WideShapes Go.ChangeAt Go.RowKit Go.Deep
set_option linter.unusedSimpArgs false
set_option linter.unusedVariables false
section
variable {H : Type} {enc : TypeId × Value → H} {w : World} {base : Nat} {spare : Nat → Bool} {held : Bool}
end
end Go.Proofs.YtalejaklggnnpaaGreatDoor
/- PoolBulk -/
/- Layer 5: what the bound of the second form says of a pool's texts. -/
namespace Go.Proofs.YtalejaklggnnpaaGreatDoor
open Go.ChangeShapes Go.WideShapes Go.ChangeAt Go.RowKit Go.Deep
set_option linter.unusedSimpArgs false
set_option linter.unusedVariables false
theorem bulk_part {H : Type} {d : DataW H} {l : List (DataW H)} (h : d ∈ l) : Rows.uptoBulk d ≤ Rows.uptoBulkAll l := by
 induction l with
 | nil => cases h
 | cons x r ih =>
  simp only [Rows.uptoBulkAll]
  cases List.mem_cons.1 h with
  | inl e => subst e; omega
  | inr e => have := ih e; omega
section
variable {H : Type} {enc : TypeId × Value → H} {w : World} {base : Nat} {spare : Nat → Bool} {held : Bool}
set_option maxRecDepth 100000 in
theorem bulk_cn {fuel : Nat} {p : Cn} {x : DataW H × List MemPlace} (h : DataW.trod enc Tryz.prog w base spare held fuel 155 (cnCells p) = some x) : p.s.size ≤ Rows.uptoBulk x.1 := by
 obtain ⟨xs, n, _, e, hl, hxl, hg⟩ := DataW.trod_struct Tryz.underlying155 h
 have h1 := hg 1 _ rfl
 obtain ⟨y0, y1, y2, y3, y4, rfl⟩ := list5 xs hxl
 change DataW.trod enc Tryz.prog w base spare held n 9 (List.take (Tryz.prog.cellsOf 9) [.string p.s, .int .i64 p.n, .int .i64 p.a, .int .i64 p.b]) = some y1 at h1
 rw [cellsS] at h1
 obtain ⟨a1, e1, e2, hs⟩ := DataW.trod_string Tryz.underlying9 h1
 simp at e1
 subst e1
 have hb : p.s.size ≤ Rows.uptoBulk y1.1 := by
  rw [e2]
  simp [Rows.uptoBulk, ByteArray.toList_eq]
 subst e
 exact Nat.le_trans hb (Nat.le_trans (bulk_part (l := [y0.1, y1.1, y2.1, y3.1, y4.1]) (by simp)) (by simp [Rows.uptoBulk]))
set_option maxRecDepth 100000 in
theorem open_pool_b {fuel : Nat} {cs : List Value} {x : DataW H × List MemPlace} (h : DataW.trod enc Tryz.prog w base spare held fuel 22 cs = some x) :
  ∃ (A : Option Addr) (n c : Nat) (L : List Cn), cs = [.slice A n c] ∧ L.length = n ∧ n ≤ c ∧ Pool w w.heap.size A L ∧ ∀ p ∈ L, p.s.size ≤ Rows.uptoBulk x.1 := by
 rcases open_slice Tryz.underlying22 h with ⟨rfl, _⟩ | ⟨a, len, cap, m, n, D, Pl, rfl, hb, hl, hm, hmm, hx, hi⟩
 ·
  exact ⟨none, 0, 0, [], rfl, rfl, Nat.le_refl _, Or.inl rfl, fun p hp => by cases hp⟩
 ·
  have hlm : len ≤ m := by rw [hmm]; split <;> omega
  have key : ∀ i, i < len → ∃ p : Cn, (w.cell? (a.add (i * 5)) = some (.int .i64 p.t) ∧ w.cell? (a.add (i * 5 + 1)) = some (.string p.s) ∧ w.cell? (a.add (i * 5 + 2)) = some (.int .i64 p.n) ∧ w.cell? (a.add (i * 5 + 3)) = some (.int .i64 p.a) ∧ w.cell? (a.add (i * 5 + 4)) = some (.int .i64 p.b)) ∧ p.s.size ≤ Rows.uptoBulk x.1 := by
   intro i hil
   obtain ⟨cs', hc, ht⟩ := hi i (by omega)
   rw [cellsCn] at hc
   obtain ⟨p, rfl, _⟩ := open_cn ht
   have hp : p.s.size ≤ Rows.uptoBulk x.1 := Nat.le_trans (bulk_cn ht) (by
    rw [hx]
    have := bulk_part (d := D i) (l := (List.range len).map D) (List.mem_map.2 ⟨i, List.mem_range.2 hil, rfl⟩)
    simp only [Rows.uptoBulk]; omega)
   obtain ⟨_, _, hat⟩ := World.cells?_some hc
   refine ⟨p, ⟨?_, ?_, ?_, ?_, ?_⟩, hp⟩
   ·
    have := hat 0 (by decide); rwa [add_add] at this
   ·
    have := hat 1 (by decide); rwa [add_add] at this
   ·
    have := hat 2 (by decide); rwa [add_add] at this
   ·
    have := hat 3 (by decide); rwa [add_add] at this
   ·
    have := hat 4 (by decide); rwa [add_add] at this
  obtain ⟨f, hf⟩ : ∃ f : Nat → Cn, ∀ i, i < len → (w.cell? (a.add (i * 5)) = some (.int .i64 (f i).t) ∧ w.cell? (a.add (i * 5 + 1)) = some (.string (f i).s) ∧ w.cell? (a.add (i * 5 + 2)) = some (.int .i64 (f i).n) ∧ w.cell? (a.add (i * 5 + 3)) = some (.int .i64 (f i).a) ∧ w.cell? (a.add (i * 5 + 4)) = some (.int .i64 (f i).b)) ∧ (f i).s.size ≤ Rows.uptoBulk x.1 :=
   ⟨fun i => if hi : i < len then (key i hi).choose else cnZ, fun i hi => by
    simp only [dif_pos hi]
    exact (key i hi).choose_spec⟩
  refine ⟨some a, len, cap, (List.range len).map f, rfl, by simp, hl, ?_, ?_⟩
  ·
   rcases Nat.eq_zero_or_pos len with h0 | h0
   ·
    exact Or.inl (by rw [h0]; rfl)
   ·
    have c0 := (hf 0 h0).1.1
    obtain ⟨g, o, sp⟩ := a
    have hsp : sp = none := by
     have := World.cell?_spot c0
     simpa [Addr.add] using this
    subst hsp
    refine Or.inr ⟨g, o, rfl, ?_, fun i p hp => ?_⟩
    ·
     have := cell_lt c0
     rw [Addr.add_lit] at this
     exact this
    ·
     rw [List.getElem?_map] at hp
     cases hr : (List.range len)[i]? with
     | none => rw [hr] at hp; cases hp
     | some j =>
      rw [hr] at hp
      have hil : i < len := by
       rcases Nat.lt_or_ge i len with h | h
       ·
        exact h
       ·
        rw [List.getElem?_eq_none (by simpa using h)] at hr; cases hr
      have hj : j = i := by rw [List.getElem?_range hil] at hr; injection hr with hr; exact hr.symm
      subst hj
      injection hp with hp
      subst hp
      obtain ⟨⟨e0, e1, e2, e3, e4⟩, _⟩ := hf j hil
      rw [Addr.add_lit] at e0 e1 e2 e3 e4
      exact ⟨e0, e1, e2, e3, e4⟩
  ·
   intro p hp
   rw [List.mem_map] at hp
   obtain ⟨j, hj, rfl⟩ := hp
   exact (hf j (List.mem_range.1 hj)).2
set_option maxRecDepth 100000 in
theorem open_pool_bulk {r : Reach} {b0 : Nat} {v : Value} {d : DataW H} {q : List MemPlace} (hv : Value.okWide Tryz.prog w r b0 22 v) (h : DataW.Trod enc Tryz.prog w base spare held 22 v d q) :
  ∃ (A : Option Addr) (n c : Nat) (L : List Cn), v = .slice A n c ∧ L.length = n ∧ n ≤ c ∧ Pool w w.heap.size A L ∧ ∀ p ∈ L, p.s.size ≤ Rows.uptoBulk d := by
 obtain ⟨a, len, cap, rfl⟩ := okWide_slice Tryz.underlying22 hv
 obtain ⟨fuel, hf⟩ := h
 obtain ⟨A, n, c, L, e, hn, hc, ht, hs⟩ := open_pool_b hf
 have e' : (.slice a len cap : Value) = .slice A n c := by simpa [Value.cells] using e
 exact ⟨A, n, c, L, e', hn, hc, ht, hs⟩
end
end Go.Proofs.YtalejaklggnnpaaGreatDoor
