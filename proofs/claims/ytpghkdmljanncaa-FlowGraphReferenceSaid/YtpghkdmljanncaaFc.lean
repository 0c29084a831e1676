/- Layer 19: code in memory, opened. -/
import Derived.Test.YtpghkdmljanncaaFxn
import Derived.Test.YtpghkdmljanncaaFop
namespace Go.Proofs.Ytpghkdmljanncaa
open Go.ChangeShapes Go.WideShapes Go.ChangeAt Go.RowKit Go.Deep
set_option linter.unusedSimpArgs false
set_option linter.unusedVariables false

theorem cellsHd : Try.prog.cellsOf 88 = 5 := by kernel_rfl
theorem cellsIs : Try.prog.cellsOf 28 = 1 := by kernel_rfl
theorem cellsHs : Try.prog.cellsOf 46 = 1 := by kernel_rfl
theorem cellsMs : Try.prog.cellsOf 47 = 1 := by kernel_rfl
theorem cellsLs : Try.prog.cellsOf 48 = 1 := by kernel_rfl
theorem cellsCd : Try.prog.cellsOf 50 = 6 := by kernel_rfl
theorem list5 {α : Type} : ∀ (l : List α), l.length = 5 → ∃ a b c d e, l = [a, b, c, d, e]
  | [a, b, c, d, e], _ => ⟨a, b, c, d, e, rfl⟩
theorem list6 {α : Type} : ∀ (l : List α), l.length = 6 → ∃ a b c d e f, l = [a, b, c, d, e, f]
  | [a, b, c, d, e, f], _ => ⟨a, b, c, d, e, f, rfl⟩
def hcells (h : Hd) : List Value := [.int .i64 h.f, .int .i64 h.t, .int .i64 h.g, .int .i64 h.k, .string h.s]
section
variable {H : Type} {enc : TypeId × Value → H} {w : World} {base : Nat} {spare : Nat → Bool} {held : Bool}
set_option maxRecDepth 100000 in
theorem open_hd {fuel : Nat} {cs : List Value} {x : DataW H × List MemPlace} (h : DataW.trod enc Try.prog w base spare held fuel 88 cs = some x) : ∃ i : Hd, cs = hcells i := by
  obtain ⟨xs, n, _, _, hl, hxl, hg⟩ := DataW.trod_struct Try.underlying88 h
  have h0 := hg 0 _ rfl
  have h1 := hg 1 _ rfl
  have h2 := hg 2 _ rfl
  have h3 := hg 3 _ rfl
  have h4 := hg 4 _ rfl
  rw [cellsHd] at hl
  obtain ⟨v0, v1, v2, v3, v4, rfl⟩ := list5 cs hl
  obtain ⟨y0, y1, y2, y3, y4, rfl⟩ := list5 xs hxl
  change DataW.trod enc Try.prog w base spare held n 3 (List.take (Try.prog.cellsOf 3) [v0, v1, v2, v3, v4]) = some y0 at h0
  change DataW.trod enc Try.prog w base spare held n 3 (List.take (Try.prog.cellsOf 3) [v1, v2, v3, v4]) = some y1 at h1
  change DataW.trod enc Try.prog w base spare held n 3 (List.take (Try.prog.cellsOf 3) [v2, v3, v4]) = some y2 at h2
  change DataW.trod enc Try.prog w base spare held n 3 (List.take (Try.prog.cellsOf 3) [v3, v4]) = some y3 at h3
  change DataW.trod enc Try.prog w base spare held n 9 (List.take (Try.prog.cellsOf 9) [v4]) = some y4 at h4
  rw [cellsI] at h0 h1 h2 h3
  rw [cellsS] at h4
  obtain ⟨a0, e0, _, _⟩ := DataW.trod_int Try.underlying3 h0
  obtain ⟨a1, e1, _, _⟩ := DataW.trod_int Try.underlying3 h1
  obtain ⟨a2, e2, _, _⟩ := DataW.trod_int Try.underlying3 h2
  obtain ⟨a3, e3, _, _⟩ := DataW.trod_int Try.underlying3 h3
  obtain ⟨s4, e4, _, _⟩ := DataW.trod_string Try.underlying9 h4
  simp at e0 e1 e2 e3 e4
  subst e0 e1 e2 e3 e4
  exact ⟨⟨a0, a1, a2, a3, s4⟩, rfl⟩
set_option maxRecDepth 100000 in
theorem open_hds {fuel : Nat} {cs : List Value} {x : DataW H × List MemPlace} (h : DataW.trod enc Try.prog w base spare held fuel 46 cs = some x) :
    ∃ (A : Option Addr) (n c : Nat) (L : List Hd), cs = [.slice A n c] ∧ L.length = n ∧ n ≤ 9223372036854775807 ∧ Hds w w.heap.size A L := by
  rcases open_slice Try.underlying46 h with ⟨rfl, _⟩ | ⟨a, len, cap, m, n, D, Pl, rfl, hb, hl, hm, hmm, hx, hi⟩
  · exact ⟨none, 0, 0, [], rfl, rfl, Nat.zero_le _, Or.inl rfl⟩
  · have hlm : len ≤ m := by rw [hmm]; split <;> omega
    have key : ∀ i, i < len → ∃ p : Hd, ∀ j v, (hcells p)[j]? = some v → w.cell? (a.add (i * 5 + j)) = some v := by
      intro i hil
      obtain ⟨cs', hc, ht⟩ := hi i (by omega)
      rw [cellsHd] at hc
      obtain ⟨p, rfl⟩ := open_hd ht
      obtain ⟨_, _, hat⟩ := World.cells?_some hc
      refine ⟨p, fun j v hv => ?_⟩
      have hj : j < 5 := by
        rcases Nat.lt_or_ge j 5 with h | h
        · exact h
        · rw [List.getElem?_eq_none (by simpa [hcells] using h)] at hv; cases hv
      have := hat j (by simpa using hj)
      rw [add_add] at this
      rw [this, hv]
    obtain ⟨f, hf⟩ : ∃ f : Nat → Hd, ∀ i, i < len → ∀ j v, (hcells (f i))[j]? = some v → w.cell? (a.add (i * 5 + j)) = some v :=
      ⟨fun i => if hi : i < len then (key i hi).choose else ⟨0, 0, 0, 0, ⟨#[]⟩⟩, fun i hi => by
        simp only [dif_pos hi]
        exact (key i hi).choose_spec⟩
    refine ⟨some a, len, cap, (List.range len).map f, rfl, by simp, by unfold maxLen at hm; omega, ?_⟩
    rcases Nat.eq_zero_or_pos len with h0 | h0
    · exact Or.inl (by rw [h0]; rfl)
    · have c0 := hf 0 h0 0 _ rfl
      obtain ⟨g, o, sp⟩ := a
      have hsp : sp = none := by
        have := World.cell?_spot c0
        simpa [Addr.add] using this
      subst hsp
      refine Or.inr ⟨g, o, rfl, ?_, fun i p hp => ?_⟩
      · have := cell_lt c0
        rw [Addr.add_lit] at this
        exact this
      · rw [List.getElem?_map] at hp
        cases hr : (List.range len)[i]? with
        | none => rw [hr] at hp; cases hp
        | some j =>
          rw [hr] at hp
          have hil : i < len := by
            rcases Nat.lt_or_ge i len with h | h
            · exact h
            · rw [List.getElem?_eq_none (by simpa using h)] at hr; cases hr
          have hj : j = i := by rw [List.getElem?_range hil] at hr; injection hr with hr; exact hr.symm
          subst hj
          injection hp with hp
          subst hp
          have e := hf j hil
          have at' : ∀ q v, (hcells (f j))[q]? = some v → w.cell? ⟨g, o + j * 5 + q, none⟩ = some v := by
            intro q v hv
            have := e q v hv
            rw [Addr.add_lit] at this
            rw [show o + j * 5 + q = o + (j * 5 + q) by omega]
            exact this
          exact ⟨at' 0 _ rfl, at' 1 _ rfl, at' 2 _ rfl, at' 3 _ rfl, at' 4 _ rfl⟩
theorem slice_max {t e : TypeId} {fuel n c : Nat} {A : Option Addr} {x : DataW H × List MemPlace} (ht : Try.prog.underlying t = some (.slice e)) (h : DataW.trod enc Try.prog w base spare held fuel t [.slice A n c] = some x) : n ≤ 9223372036854775807 := by
  rcases open_slice ht h with ⟨he, _⟩ | ⟨a, len, cap, m, _, D, Pl, he, hb, hl, hm, hmm, hx, hi⟩
  · injection he with he _
    injection he with _ h2 _
    omega
  · injection he with he _
    injection he with _ h2 _
    unfold maxLen at hm
    omega
theorem slice_one {t e : TypeId} {fuel : Nat} {cs : List Value} {x : DataW H × List MemPlace} (ht : Try.prog.underlying t = some (.slice e)) (h : DataW.trod enc Try.prog w base spare held fuel t cs = some x) : ∃ (A : Option Addr) (n c : Nat), cs = [.slice A n c] := by
  rcases open_slice ht h with ⟨he, _⟩ | ⟨a, len, cap, m, _, D, Pl, he, hb, hl, hm, hmm, hx, hi⟩
  · exact ⟨none, 0, 0, he⟩
  · exact ⟨some a, len, cap, he⟩
set_option maxRecDepth 100000 in
theorem open_code {fuel : Nat} {cs : List Value} {x : DataW H × List MemPlace} (h : DataW.trod enc Try.prog w base spare held fuel 50 cs = some x) :
    ∃ c : Cd, cs = [.int .i64 c.st, .int .i64 c.lo, .slice c.iA c.n c.ic, .slice c.hA c.hn c.hc, .slice c.mA c.mn c.mc, .slice c.lA c.ln c.lc] ∧ c.raw w := by
  obtain ⟨xs, n, _, _, hl, hxl, hg⟩ := DataW.trod_struct Try.underlying50 h
  have h0 := hg 0 _ rfl
  have h1 := hg 1 _ rfl
  have h2 := hg 2 _ rfl
  have h3 := hg 3 _ rfl
  have h4 := hg 4 _ rfl
  have h5 := hg 5 _ rfl
  rw [cellsCd] at hl
  obtain ⟨v0, v1, v2, v3, v4, v5, rfl⟩ := list6 cs hl
  obtain ⟨y0, y1, y2, y3, y4, y5, rfl⟩ := list6 xs hxl
  change DataW.trod enc Try.prog w base spare held n 3 (List.take (Try.prog.cellsOf 3) [v0, v1, v2, v3, v4, v5]) = some y0 at h0
  change DataW.trod enc Try.prog w base spare held n 3 (List.take (Try.prog.cellsOf 3) [v1, v2, v3, v4, v5]) = some y1 at h1
  change DataW.trod enc Try.prog w base spare held n 28 (List.take (Try.prog.cellsOf 28) [v2, v3, v4, v5]) = some y2 at h2
  change DataW.trod enc Try.prog w base spare held n 46 (List.take (Try.prog.cellsOf 46) [v3, v4, v5]) = some y3 at h3
  change DataW.trod enc Try.prog w base spare held n 47 (List.take (Try.prog.cellsOf 47) [v4, v5]) = some y4 at h4
  change DataW.trod enc Try.prog w base spare held n 48 (List.take (Try.prog.cellsOf 48) [v5]) = some y5 at h5
  rw [cellsI] at h0 h1
  rw [cellsIs] at h2
  rw [cellsHs] at h3
  rw [cellsMs] at h4
  rw [cellsLs] at h5
  obtain ⟨a0, e0, _, _⟩ := DataW.trod_int Try.underlying3 h0
  obtain ⟨a1, e1, _, _⟩ := DataW.trod_int Try.underlying3 h1
  obtain ⟨A2, n2, c2, L2, e2, l2, k2, r2, z2⟩ := open_ins h2
  obtain ⟨A3, n3, c3, L3, e3, l3, k3, r3⟩ := open_hds h3
  obtain ⟨A4, n4, c4, e4⟩ := slice_one Try.underlying47 h4
  obtain ⟨A5, n5, c5, e5⟩ := slice_one Try.underlying48 h5
  have m2 : n2 ≤ 9223372036854775807 := by rw [e2] at h2; exact slice_max Try.underlying28 h2
  simp at e0 e1 e2 e3 e4 e5
  subst e0 e1 e2 e3 e4 e5
  exact ⟨⟨a0, a1, A2, n2, c2, L2, A3, n3, c3, L3, A4, n4, c4, A5, n5, c5⟩, rfl, ⟨l2, r2, m2, l3, r3, k3, z2⟩⟩
set_option maxRecDepth 100000 in
theorem open_code_of {r : Reach} {b0 : Nat} {v : Value} {d : DataW H} {q : List MemPlace} (hv : Value.okWide Try.prog w r b0 50 v) (h : DataW.Trod enc Try.prog w base spare held 50 v d q) :
    ∃ c : Cd, v = (Value.agg #[Value.int IntKind.i64 (Cd.st c), Value.int IntKind.i64 (Cd.lo c), Value.slice (Cd.iA c) (Cd.n c) (Cd.ic c), Value.slice (Cd.hA c) (Cd.hn c) (Cd.hc c), Value.slice (Cd.mA c) (Cd.mn c) (Cd.mc c), Value.slice (Cd.lA c) (Cd.ln c) (Cd.lc c)]) ∧ c.raw w := by
  obtain ⟨cs, rfl, hsz⟩ := okWide_struct Try.underlying50 hv
  obtain ⟨fuel, hf⟩ := h
  obtain ⟨c, e, hc⟩ := open_code hf
  refine ⟨c, ?_, hc⟩
  have e' : cs.toList = [.int .i64 c.st, .int .i64 c.lo, .slice c.iA c.n c.ic, .slice c.hA c.hn c.hc, .slice c.mA c.mn c.mc, .slice c.lA c.ln c.lc] := by simpa [Value.cells] using e
  have : cs = #[.int .i64 c.st, .int .i64 c.lo, .slice c.iA c.n c.ic, .slice c.hA c.hn c.hc, .slice c.mA c.mn c.mc, .slice c.lA c.ln c.lc] := by rw [← Array.toList_inj, e']
  rw [this]
end

end Go.Proofs.Ytpghkdmljanncaa
