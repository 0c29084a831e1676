import Derived.Test.YthifmcnemeiphaaDoorHa
import Derived.Deep.Slices
import Derived.Deep.Strs
import Derived.Deep.Fields
import Derived.Lib.SmallJoins
import Derived.Test.YthifmcnemeiphaaDoorVf
import Derived.Test.YthifmcnemeiphaaDoorHm
import Derived.Test.YthifmcnemeiphaaDoorRows

/- Ie -/
/- Layer 16: hierarchies in memory, opened. -/
namespace Go.Proofs.YthifmcnemeiphaaDoor
open Go.ChangeShapes Go.WideShapes Go.ChangeAt Go.RowKit Go.Deep
set_option linter.unusedSimpArgs false
set_option linter.unusedVariables false

theorem cellsC4 : Tryd.prog.cellsOf 30 = 4 := by kernel_rfl
theorem cellsSt : Tryd.prog.cellsOf 9 = 1 := by kernel_rfl
theorem cellsSl : Tryd.prog.cellsOf 28 = 1 := by kernel_rfl
theorem cellsBo : Tryd.prog.cellsOf 4 = 1 := by kernel_rfl
theorem cell_lt {w : World} {a : Addr} {v : Value} (h : w.cell? a = some v) : a.block < w.heap.size := by
  rcases Nat.lt_or_ge a.block w.heap.size with hl | hl
  · exact hl
  · rw [World.cell?, Array.getElem?_eq_none hl] at h; simp at h
theorem list4' {α : Type} : ∀ (l : List α), l.length = 4 → ∃ a b c d, l = [a, b, c, d]
  | [a, b, c, d], _ => ⟨a, b, c, d, rfl⟩
def ccells (i : CI) : List Value := [.string i.nm, .string i.su, .slice i.iA i.n i.c, .bool i.isI]
section
variable {H : Type} {enc : TypeId × Value → H} {w : World} {base : Nat} {spare : Nat → Bool} {held : Bool}
set_option maxRecDepth 100000 in
theorem open_srow {fuel : Nat} {cs : List Value} {x : DataW H × List MemPlace} (h : DataW.trod enc Tryd.prog w base spare held fuel 28 cs = some x) :
    ∃ (A : Option Addr) (n c : Nat) (L : List ByteArray), cs = [.slice A n c] ∧ L.length = n ∧ n ≤ c ∧ c ≤ 9223372036854775807 ∧ SRow w w.heap.size A L ∧ (∀ s ∈ L, s.size ≤ 9223372036854775807) ∧ (A = none → c = 0) := by
  rcases open_slice1 Tryd.underlying28 cellsSt h with ⟨rfl, _⟩ | ⟨a, len, cap, m, n, V, D, Pl, rfl, hb, hl, hm, hmm, hx, hi⟩
  · exact ⟨none, 0, 0, [], rfl, rfl, Nat.le_refl _, by omega, Or.inl rfl, (fun s hs => by cases hs), fun _ => rfl⟩
  · have hlm : len ≤ m := by rw [hmm]; split <;> omega
    have key : ∀ i, i < len → ∃ z : ByteArray, w.cell? (a.add i) = some (.string z) ∧ z.size ≤ 9223372036854775807 := by
      intro i hil
      obtain ⟨hc, ht⟩ := hi i (by omega)
      obtain ⟨z, hz, _, hk⟩ := DataW.trod_string Tryd.underlying9 ht
      simp at hz
      unfold maxLen at hk
      exact ⟨z, by rw [hc, hz], hk⟩
    obtain ⟨f, hf⟩ : ∃ f : Nat → ByteArray, ∀ i, i < len → w.cell? (a.add i) = some (.string (f i)) ∧ (f i).size ≤ 9223372036854775807 :=
      ⟨fun i => if hi : i < len then (key i hi).choose else ⟨#[]⟩, fun i hi => by
        simp only [dif_pos hi]
        exact (key i hi).choose_spec⟩
    refine ⟨some a, len, cap, (List.range len).map f, rfl, by simp, hl, by unfold maxLen at hm; exact hm, ?_, ?_, fun h => by cases h⟩
    · rcases Nat.eq_zero_or_pos len with h0 | h0
      · exact Or.inl (by rw [h0]; rfl)
      · have c0 := (hf 0 h0).1
        obtain ⟨g, o, sp⟩ := a
        have hsp : sp = none := by
          have := World.cell?_spot c0
          simpa [Addr.add] using this
        subst hsp
        refine Or.inr ⟨g, o, rfl, ?_, fun i p hp => ?_⟩
        · have := cell_lt c0
          rw [Addr.add_lit] at this
          exact this
        · rw [List.getElem?_map] at hp
          cases hr : (List.range len)[i]? with
          | none => rw [hr] at hp; cases hp
          | some j =>
            rw [hr] at hp
            have hil : i < len := by
              rcases Nat.lt_or_ge i len with h | h
              · exact h
              · rw [List.getElem?_eq_none (by simpa using h)] at hr; cases hr
            have hj : j = i := by rw [List.getElem?_range hil] at hr; injection hr with hr; exact hr.symm
            subst hj
            injection hp with hp
            subst hp
            have e0 := (hf j hil).1
            rw [Addr.add_lit] at e0
            exact e0
    · intro s hs
      rw [List.mem_map] at hs
      obtain ⟨j, hj, rfl⟩ := hs
      exact (hf j (List.mem_range.1 hj)).2
set_option maxRecDepth 100000 in
theorem open_ci {fuel : Nat} {cs : List Value} {x : DataW H × List MemPlace} (h : DataW.trod enc Tryd.prog w base spare held fuel 30 cs = some x) :
    ∃ i : CI, cs = ccells i ∧ i.ok w w.heap.size := by
  obtain ⟨xs, n, _, _, hl, hxl, hg⟩ := DataW.trod_struct Tryd.underlying30 h
  have h0 := hg 0 _ rfl
  have h1 := hg 1 _ rfl
  have h2 := hg 2 _ rfl
  have h3 := hg 3 _ rfl
  rw [cellsC4] at hl
  obtain ⟨v0, v1, v2, v3, rfl⟩ := list4' cs hl
  obtain ⟨y0, y1, y2, y3, rfl⟩ := list4' xs hxl
  change DataW.trod enc Tryd.prog w base spare held n 9 (List.take (Tryd.prog.cellsOf 9) [v0, v1, v2, v3]) = some y0 at h0
  change DataW.trod enc Tryd.prog w base spare held n 9 (List.take (Tryd.prog.cellsOf 9) [v1, v2, v3]) = some y1 at h1
  change DataW.trod enc Tryd.prog w base spare held n 28 (List.take (Tryd.prog.cellsOf 28) [v2, v3]) = some y2 at h2
  change DataW.trod enc Tryd.prog w base spare held n 4 (List.take (Tryd.prog.cellsOf 4) [v3]) = some y3 at h3
  rw [cellsSt] at h0 h1
  rw [cellsSl] at h2
  rw [cellsBo] at h3
  obtain ⟨s0, e0, _, k0⟩ := DataW.trod_string Tryd.underlying9 h0
  obtain ⟨s1, e1, _, k1⟩ := DataW.trod_string Tryd.underlying9 h1
  obtain ⟨A2, n2, c2, L2, e2, l2, m2, q2, r2, t2, z2⟩ := open_srow h2
  obtain ⟨b3, e3, _⟩ := DataW.trod_bool Tryd.underlying4 h3
  simp at e0 e1 e2 e3
  subst e0 e1 e2 e3
  unfold maxLen at k0 k1
  exact ⟨⟨s0, s1, A2, n2, c2, L2, b3⟩, rfl, k0, k1, l2, m2, q2, r2, t2, z2⟩
set_option maxRecDepth 100000 in
theorem open_cis {fuel : Nat} {cs : List Value} {x : DataW H × List MemPlace} (h : DataW.trod enc Tryd.prog w base spare held fuel 22 cs = some x) :
    ∃ (A : Option Addr) (n c : Nat) (L : List CI), cs = [.slice A n c] ∧ L.length = n ∧ n ≤ c ∧ c ≤ 9223372036854775807 ∧ CIs w w.heap.size A L := by
  rcases open_slice Tryd.underlying22 h with ⟨rfl, _⟩ | ⟨a, len, cap, m, n, D, Pl, rfl, hb, hl, hm, hmm, hx, hi⟩
  · exact ⟨none, 0, 0, [], rfl, rfl, Nat.le_refl _, by omega, Or.inl rfl⟩
  · have hlm : len ≤ m := by rw [hmm]; split <;> omega
    have key : ∀ i, i < len → ∃ p : CI, (∀ j v, (ccells p)[j]? = some v → w.cell? (a.add (i * 4 + j)) = some v) ∧ p.ok w w.heap.size := by
      intro i hil
      obtain ⟨cs', hc, ht⟩ := hi i (by omega)
      rw [cellsC4] at hc
      obtain ⟨p, rfl, hp⟩ := open_ci ht
      obtain ⟨_, _, hat⟩ := World.cells?_some hc
      refine ⟨p, fun j v hv => ?_, hp⟩
      have hj : j < 4 := by
        rcases Nat.lt_or_ge j 4 with h | h
        · exact h
        · rw [List.getElem?_eq_none (by simpa [ccells] using h)] at hv; cases hv
      have := hat j (by simpa using hj)
      rw [add_add] at this
      rw [this, hv]
    obtain ⟨f, hf⟩ : ∃ f : Nat → CI, ∀ i, i < len → (∀ j v, (ccells (f i))[j]? = some v → w.cell? (a.add (i * 4 + j)) = some v) ∧ (f i).ok w w.heap.size :=
      ⟨fun i => if hi : i < len then (key i hi).choose else ⟨⟨#[]⟩, ⟨#[]⟩, none, 0, 0, [], false⟩, fun i hi => by
        simp only [dif_pos hi]
        exact (key i hi).choose_spec⟩
    refine ⟨some a, len, cap, (List.range len).map f, rfl, by simp, hl, by unfold maxLen at hm; exact hm, ?_⟩
    · rcases Nat.eq_zero_or_pos len with h0 | h0
      · exact Or.inl (by rw [h0]; rfl)
      · have c0 := (hf 0 h0).1 0 _ rfl
        obtain ⟨g, o, sp⟩ := a
        have hsp : sp = none := by
          have := World.cell?_spot c0
          simpa [Addr.add] using this
        subst hsp
        refine Or.inr ⟨g, o, rfl, ?_, fun i p hp => ?_⟩
        · have := cell_lt c0
          rw [Addr.add_lit] at this
          exact this
        · rw [List.getElem?_map] at hp
          cases hr : (List.range len)[i]? with
          | none => rw [hr] at hp; cases hp
          | some j =>
            rw [hr] at hp
            have hil : i < len := by
              rcases Nat.lt_or_ge i len with h | h
              · exact h
              · rw [List.getElem?_eq_none (by simpa using h)] at hr; cases hr
            have hj : j = i := by rw [List.getElem?_range hil] at hr; injection hr with hr; exact hr.symm
            subst hj
            injection hp with hp
            subst hp
            obtain ⟨e, ok⟩ := hf j hil
            have at' : ∀ q v, (ccells (f j))[q]? = some v → w.cell? ⟨g, o + j * 4 + q, none⟩ = some v := by
              intro q v hv
              have := e q v hv
              rw [Addr.add_lit] at this
              rw [show o + j * 4 + q = o + (j * 4 + q) by omega]
              exact this
            exact ⟨ok, at' 0 _ rfl, at' 1 _ rfl, at' 2 _ rfl, at' 3 _ rfl⟩
set_option maxRecDepth 100000 in
theorem open_cis_of {r : Reach} {b0 : Nat} {v : Value} {d : DataW H} {q : List MemPlace} (hv : Value.okWide Tryd.prog w r b0 22 v) (h : DataW.Trod enc Tryd.prog w base spare held 22 v d q) :
    ∃ (A : Option Addr) (n c : Nat) (L : List CI), v = .slice A n c ∧ L.length = n ∧ n ≤ c ∧ c ≤ 9223372036854775807 ∧ CIs w w.heap.size A L := by
  obtain ⟨a, len, cap, rfl⟩ := okWide_slice Tryd.underlying22 hv
  obtain ⟨fuel, hf⟩ := h
  obtain ⟨A, n, c, L, e, hn, hc, ht, hs⟩ := open_cis hf
  have e' : (.slice a len cap : Value) = .slice A n c := by simpa [Value.cells] using e
  exact ⟨A, n, c, L, e', hn, hc, ht, hs⟩
end

end Go.Proofs.YthifmcnemeiphaaDoor

/- Vp -/
/- Layer 17: types and verification types, opened. -/
namespace Go.Proofs.YthifmcnemeiphaaDoor
open Go.ChangeShapes Go.WideShapes Go.ChangeAt Go.RowKit Go.Deep
set_option linter.unusedSimpArgs false
set_option linter.unusedVariables false

theorem cellsT3 : Tryd.prog.cellsOf 41 = 3 := by kernel_rfl
theorem cellsV6 : Tryd.prog.cellsOf 43 = 6 := by kernel_rfl
theorem cellsI : Tryd.prog.cellsOf 3 = 1 := by kernel_rfl
theorem cellsU : Tryd.prog.cellsOf 5 = 1 := by kernel_rfl
theorem cellsS : Tryd.prog.cellsOf 9 = 1 := by kernel_rfl
section
variable {H : Type} {enc : TypeId × Value → H} {w : World} {base : Nat} {spare : Nat → Bool} {held : Bool}
theorem list3 {α : Type} : ∀ (l : List α), l.length = 3 → ∃ a b c, l = [a, b, c]
  | [a, b, c], _ => ⟨a, b, c, rfl⟩
theorem list4 {α : Type} : ∀ (l : List α), l.length = 4 → ∃ a b c d, l = [a, b, c, d]
  | [a, b, c, d], _ => ⟨a, b, c, d, rfl⟩
theorem list6 {α : Type} : ∀ (l : List α), l.length = 6 → ∃ a b c d e f, l = [a, b, c, d, e, f]
  | [a, b, c, d, e, f], _ => ⟨a, b, c, d, e, f, rfl⟩
theorem i64_wf {n : Int} (h : (Lit.int .i64 n).wf = true) : -9223372036854775808 ≤ n ∧ n ≤ 9223372036854775807 := by
  simp only [Lit.wf, Bool.and_eq_true, decide_eq_true_eq] at h
  have h1 := h.1
  have h2 := h.2
  rw [show IntKind.i64.min = -9223372036854775808 from by rfl] at h1
  rw [show IntKind.i64.max = 9223372036854775807 from by rfl] at h2
  exact ⟨h1, h2⟩
set_option maxRecDepth 100000 in
theorem open_ty {fuel : Nat} {cs : List Value} {x : DataW H × List MemPlace} (h : DataW.trod enc Tryd.prog w base spare held fuel 41 cs = some x) :
    ∃ (d b : Int) (s : ByteArray), cs = [.int .i64 d, .int .u8 b, .string s] ∧ s.size ≤ 9223372036854775807 := by
  obtain ⟨xs, n, _, _, hl, hxl, hg⟩ := DataW.trod_struct Tryd.underlying41 h
  have h0 := hg 0 _ rfl
  have h1 := hg 1 _ rfl
  have h2 := hg 2 _ rfl
  rw [cellsT3] at hl
  obtain ⟨v0, v1, v2, rfl⟩ := list3 cs hl
  obtain ⟨y0, y1, y2, rfl⟩ := list3 xs hxl
  change DataW.trod enc Tryd.prog w base spare held n 3 (List.take (Tryd.prog.cellsOf 3) [v0, v1, v2]) = some y0 at h0
  change DataW.trod enc Tryd.prog w base spare held n 5 (List.take (Tryd.prog.cellsOf 5) [v1, v2]) = some y1 at h1
  change DataW.trod enc Tryd.prog w base spare held n 9 (List.take (Tryd.prog.cellsOf 9) [v2]) = some y2 at h2
  rw [cellsI] at h0
  rw [cellsU] at h1
  rw [cellsS] at h2
  obtain ⟨a0, e0, _, _⟩ := DataW.trod_int Tryd.underlying3 h0
  obtain ⟨a1, e1, _, _⟩ := DataW.trod_int Tryd.underlying5 h1
  obtain ⟨a2, e2, _, k2⟩ := DataW.trod_string Tryd.underlying9 h2
  simp at e0 e1 e2
  subst e0 e1 e2
  unfold maxLen at k2
  exact ⟨a0, a1, a2, rfl, k2⟩
set_option maxRecDepth 100000 in
theorem open_vt {fuel : Nat} {cs : List Value} {x : DataW H × List MemPlace} (h : DataW.trod enc Tryd.prog w base spare held fuel 43 cs = some x) :
    ∃ (k n d b : Int) (s : ByteArray) (p : Int), cs = [.int .i64 k, .int .i64 n, .int .i64 d, .int .u8 b, .string s, .int .i64 p] ∧ s.size ≤ 9223372036854775807 ∧ -9223372036854775808 ≤ n ∧ n ≤ 9223372036854775807 := by
  obtain ⟨xs, m, _, _, hl, hxl, hg⟩ := DataW.trod_struct Tryd.underlying43 h
  have h0 := hg 0 _ rfl
  have h1 := hg 1 _ rfl
  have h2 := hg 2 _ rfl
  have h3 := hg 3 _ rfl
  rw [cellsV6] at hl
  obtain ⟨v0, v1, v2, v3, v4, v5, rfl⟩ := list6 cs hl
  obtain ⟨y0, y1, y2, y3, rfl⟩ := list4 xs hxl
  change DataW.trod enc Tryd.prog w base spare held m 3 (List.take (Tryd.prog.cellsOf 3) [v0, v1, v2, v3, v4, v5]) = some y0 at h0
  change DataW.trod enc Tryd.prog w base spare held m 3 (List.take (Tryd.prog.cellsOf 3) [v1, v2, v3, v4, v5]) = some y1 at h1
  change DataW.trod enc Tryd.prog w base spare held m 41 (List.take (Tryd.prog.cellsOf 41) [v2, v3, v4, v5]) = some y2 at h2
  change DataW.trod enc Tryd.prog w base spare held m 3 (List.take (Tryd.prog.cellsOf 3) [v5]) = some y3 at h3
  rw [cellsI] at h0 h1 h3
  rw [cellsT3] at h2
  obtain ⟨a0, e0, _, _⟩ := DataW.trod_int Tryd.underlying3 h0
  obtain ⟨a1, e1, _, k1⟩ := DataW.trod_int Tryd.underlying3 h1
  obtain ⟨d, b, s, e2, hs⟩ := open_ty h2
  obtain ⟨a3, e3, _, _⟩ := DataW.trod_int Tryd.underlying3 h3
  simp at e0 e1 e2 e3
  obtain ⟨f2, f3, f4⟩ := e2
  subst e0 e1 f2 f3 f4 e3
  exact ⟨a0, a1, d, b, s, a3, rfl, hs, i64_wf k1⟩
set_option maxRecDepth 100000 in
theorem open_ty_of {r : Reach} {b0 : Nat} {v : Value} {d : DataW H} {q : List MemPlace} (hv : Value.okWide Tryd.prog w r b0 41 v) (h : DataW.Trod enc Tryd.prog w base spare held 41 v d q) :
    ∃ (d b : Int) (s : ByteArray), v = .agg #[.int .i64 d, .int .u8 b, .string s] ∧ s.size ≤ 9223372036854775807 := by
  obtain ⟨cs, rfl, hsz⟩ := okWide_struct Tryd.underlying41 hv
  obtain ⟨fuel, hf⟩ := h
  obtain ⟨d, b, s, e, hs⟩ := open_ty hf
  refine ⟨d, b, s, ?_, hs⟩
  have e' : cs.toList = [.int .i64 d, .int .u8 b, .string s] := by simpa [Value.cells] using e
  have : cs = #[.int .i64 d, .int .u8 b, .string s] := by rw [← Array.toArray_toList (xs := cs), e']
  rw [this]
set_option maxRecDepth 100000 in
theorem open_vt_of {r : Reach} {b0 : Nat} {v : Value} {d : DataW H} {q : List MemPlace} (hv : Value.okWide Tryd.prog w r b0 43 v) (h : DataW.Trod enc Tryd.prog w base spare held 43 v d q) :
    ∃ (k n d b : Int) (s : ByteArray) (p : Int), v = .agg #[.int .i64 k, .int .i64 n, .int .i64 d, .int .u8 b, .string s, .int .i64 p] ∧ s.size ≤ 9223372036854775807 ∧ -9223372036854775808 ≤ n ∧ n ≤ 9223372036854775807 := by
  obtain ⟨cs, rfl, hsz⟩ := okWide_struct Tryd.underlying43 hv
  obtain ⟨fuel, hf⟩ := h
  obtain ⟨k, n, d, b, s, p, e, hs⟩ := open_vt hf
  refine ⟨k, n, d, b, s, p, ?_, hs⟩
  have e' : cs.toList = [.int .i64 k, .int .i64 n, .int .i64 d, .int .u8 b, .string s, .int .i64 p] := by simpa [Value.cells] using e
  have : cs = #[.int .i64 k, .int .i64 n, .int .i64 d, .int .u8 b, .string s, .int .i64 p] := by rw [← Array.toArray_toList (xs := cs), e']
  rw [this]
end
end Go.Proofs.YthifmcnemeiphaaDoor

/- Mm -/
/- Layer 18: hierarchies, types and verification types, opened; what the bound of the second form says of them. -/
namespace Go.Proofs.YthifmcnemeiphaaDoor
open Go.ChangeShapes Go.WideShapes Go.ChangeAt Go.RowKit Go.Deep
set_option linter.unusedSimpArgs false
set_option linter.unusedVariables false

theorem bulk_pos {H : Type} (d : DataW H) : 1 ≤ Rows.uptoBulk d := by
  cases d with
  | lit l => cases l <;> simp [Rows.uptoBulk]
  | _ => simp [Rows.uptoBulk]
theorem bulk_mem {H : Type} {d : DataW H} {l : List (DataW H)} (h : d ∈ l) : Rows.uptoBulk d ≤ Rows.uptoBulkAll l := by
  induction l with
  | nil => cases h
  | cons x r ih =>
    simp only [Rows.uptoBulkAll]
    cases List.mem_cons.1 h with
    | inl e => subst e; omega
    | inr e => have := ih e; omega
theorem bulk_len {H : Type} (l : List (DataW H)) : l.length ≤ Rows.uptoBulkAll l := by
  induction l with
  | nil => exact Nat.zero_le _
  | cons x r ih =>
    simp only [Rows.uptoBulkAll, List.length_cons]
    have := bulk_pos x
    omega
theorem bulk_names {H : Type} : ∀ (L : List CI) (D : List (DataW H)), L.length = D.length → (∀ (k : Nat) (x : CI) (d : DataW H), L[k]? = some x → D[k]? = some d → x.fs.length + 1 ≤ Rows.uptoBulk d) → (names L).length ≤ Rows.uptoBulkAll D
  | [], _, _, _ => Nat.zero_le _
  | x :: L, [], hl, _ => by simp at hl
  | x :: L, d :: D, hl, h => by
    have h1 := h 0 x d rfl rfl
    have h2 := bulk_names L D (by simpa using hl) (fun k y e hy he => h (k + 1) y e (by simpa using hy) (by simpa using he))
    have h3 : (nxt x).length ≤ x.fs.length + 1 := by
      unfold nxt
      rw [List.length_append]
      split <;> simp <;> omega
    unfold names at h2 ⊢
    rw [List.flatMap_cons, List.length_append]
    simp only [Rows.uptoBulkAll]
    omega
section
variable {H : Type} {enc : TypeId × Value → H} {w : World} {base : Nat} {spare : Nat → Bool} {held : Bool}
set_option maxRecDepth 100000 in
theorem srow_bulk {fuel n c : Nat} {A : Option Addr} {x : DataW H × List MemPlace} (h : DataW.trod enc Tryd.prog w base spare held fuel 28 [.slice A n c] = some x) : n + 1 ≤ Rows.uptoBulk x.1 := by
  rcases open_slice1 Tryd.underlying28 cellsSt h with ⟨e, rfl⟩ | ⟨a, len, cap, m, _, V, D, Pl, e, hb, hl, hm, hmm, rfl, hi⟩
  · simp at e
    obtain ⟨_, rfl, _⟩ := e
    simp [Rows.uptoBulk]
  · simp at e
    obtain ⟨_, rfl, _⟩ := e
    have := bulk_len ((List.range n).map D)
    rw [List.length_map, List.length_range] at this
    simp only [Rows.uptoBulk]
    omega
set_option maxRecDepth 100000 in
theorem ci_bulk {fuel : Nat} {i : CI} {x : DataW H × List MemPlace} (h : DataW.trod enc Tryd.prog w base spare held fuel 30 (ccells i) = some x) : i.n + 1 ≤ Rows.uptoBulk x.1 := by
  obtain ⟨xs, n, _, e, hl, hxl, hg⟩ := DataW.trod_struct Tryd.underlying30 h
  have h2 := hg 2 _ rfl
  obtain ⟨y0, y1, y2, y3, rfl⟩ := list4' xs hxl
  change DataW.trod enc Tryd.prog w base spare held n 28 (List.take (Tryd.prog.cellsOf 28) [.slice i.iA i.n i.c, .bool i.isI]) = some y2 at h2
  rw [cellsSl] at h2
  have hb := srow_bulk h2
  subst e
  have h3 := bulk_mem (l := [y0.1, y1.1, y2.1, y3.1]) (d := y2.1) (by simp)
  simp only [Rows.uptoBulk, List.map]
  omega
set_option maxRecDepth 100000 in
theorem cis_bulk {fuel n c : Nat} {A : Option Addr} {L : List CI} {x : DataW H × List MemPlace} (h : DataW.trod enc Tryd.prog w base spare held fuel 22 [.slice A n c] = some x) (hn : L.length = n) (hL : CIs w w.heap.size A L) : (names L).length ≤ Rows.uptoBulk x.1 := by
  rcases open_slice Tryd.underlying22 h with ⟨e, rfl⟩ | ⟨a, len, cap, m, fu, D, Pl, e, hb, hl, hm, hmm, hx, hi⟩
  · simp at e
    obtain ⟨_, rfl, _⟩ := e
    obtain rfl := List.length_eq_zero_iff.1 hn
    exact Nat.zero_le _
  · simp at e
    obtain ⟨rfl, rfl, _⟩ := e
    have hlm : n ≤ m := by rw [hmm]; split <;> omega
    rw [hx]
    have key := bulk_names L ((List.range n).map D) (by simp [hn]) (fun k y d hy hd => by
      have hk : k < n := by
        rcases Nat.lt_or_ge k n with h | h
        · exact h
        · rw [List.getElem?_eq_none (by omega)] at hy; cases hy
      have hd' : d = D k := by
        rw [List.getElem?_map, List.getElem?_range hk] at hd
        exact (Option.some.inj hd).symm
      subst hd'
      obtain ⟨cs', hc, ht⟩ := hi k (by omega)
      rw [cellsC4] at hc
      obtain ⟨p, rfl, hp⟩ := open_ci ht
      obtain ⟨_, _, hat⟩ := World.cells?_some hc
      have h2 := hat 2 (by decide)
      rw [add_add] at h2
      rcases hL with h | ⟨g, o, hA, hg, hcc⟩
      · rw [h] at hy; simp at hy
      · obtain rfl := Option.some.inj hA
        obtain ⟨hok, _, _, c2, _⟩ := hcc k y hy
        rw [Addr.add_lit] at h2
        rw [show o + k * 4 + 2 = o + (k * 4 + 2) by omega] at c2
        rw [c2] at h2
        have h3 : Value.slice y.iA y.n y.c = Value.slice p.iA p.n p.c := by simpa [ccells] using h2
        have h4 : y.n = p.n := by injection h3
        have h5 := ci_bulk ht
        rw [hok.2.2.1, h4]
        exact h5)
    simp only [Rows.uptoBulk]
    omega
set_option maxRecDepth 100000 in
theorem open_cis_bulk {r : Reach} {b0 : Nat} {v : Value} {d : DataW H} {q : List MemPlace} (hv : Value.okWide Tryd.prog w r b0 22 v) (h : DataW.Trod enc Tryd.prog w base spare held 22 v d q) :
    ∃ (A : Option Addr) (n c : Nat) (L : List CI), v = .slice A n c ∧ L.length = n ∧ n ≤ c ∧ c ≤ 9223372036854775807 ∧ CIs w w.heap.size A L ∧ (names L).length ≤ Rows.uptoBulk d := by
  obtain ⟨A, n, c, L, rfl, hn, hc, ht, hs⟩ := open_cis_of hv h
  obtain ⟨fuel, hf⟩ := h
  exact ⟨A, n, c, L, rfl, hn, hc, ht, hs, cis_bulk hf hn hs⟩
set_option maxRecDepth 100000 in
theorem open_ty_b {fuel : Nat} {cs : List Value} {x : DataW H × List MemPlace} (h : DataW.trod enc Tryd.prog w base spare held fuel 41 cs = some x) :
    ∃ (d b : Int) (s : ByteArray), cs = [.int .i64 d, .int .u8 b, .string s] ∧ s.size ≤ Rows.uptoBulk x.1 := by
  obtain ⟨d, b, s, rfl, _⟩ := open_ty h
  obtain ⟨xs, n, _, e, hl, hxl, hg⟩ := DataW.trod_struct Tryd.underlying41 h
  have h2 := hg 2 _ rfl
  obtain ⟨y0, y1, y2, rfl⟩ := list3 xs hxl
  change DataW.trod enc Tryd.prog w base spare held n 9 (List.take (Tryd.prog.cellsOf 9) [.string s]) = some y2 at h2
  rw [cellsS] at h2
  obtain ⟨a2, e2, e3, _⟩ := DataW.trod_string Tryd.underlying9 h2
  simp at e2
  subst e2
  subst e
  refine ⟨d, b, s, rfl, ?_⟩
  have h3 := bulk_mem (l := [y0.1, y1.1, y2.1]) (d := y2.1) (by simp)
  have h4 : s.size ≤ Rows.uptoBulk y2.1 := by rw [e3]; simp [Rows.uptoBulk, ByteArray.toList_eq]
  simp only [Rows.uptoBulk, List.map]
  omega
set_option maxRecDepth 100000 in
theorem open_vt_b {fuel : Nat} {cs : List Value} {x : DataW H × List MemPlace} (h : DataW.trod enc Tryd.prog w base spare held fuel 43 cs = some x) :
    ∃ (k n d b : Int) (s : ByteArray) (p : Int), cs = [.int .i64 k, .int .i64 n, .int .i64 d, .int .u8 b, .string s, .int .i64 p] ∧ s.size ≤ Rows.uptoBulk x.1 := by
  obtain ⟨k, n, d, b, s, p, rfl, _⟩ := open_vt h
  obtain ⟨xs, m, _, e, hl, hxl, hg⟩ := DataW.trod_struct Tryd.underlying43 h
  have h2 := hg 2 _ rfl
  obtain ⟨y0, y1, y2, y3, rfl⟩ := list4 xs hxl
  change DataW.trod enc Tryd.prog w base spare held m 41 (List.take (Tryd.prog.cellsOf 41) [.int .i64 d, .int .u8 b, .string s, .int .i64 p]) = some y2 at h2
  rw [cellsT3] at h2
  obtain ⟨d', b', s', e2, hs⟩ := open_ty_b h2
  simp at e2
  obtain ⟨_, _, rfl⟩ := e2
  subst e
  refine ⟨k, n, d, b, s, p, rfl, ?_⟩
  have h3 := bulk_mem (l := [y0.1, y1.1, y2.1, y3.1]) (d := y2.1) (by simp)
  simp only [Rows.uptoBulk, List.map]
  omega
theorem cells6t : Tryd.prog.cellsOf 49 = 6 := by kernel_rfl
theorem cells12v : Tryd.prog.cellsOf 50 = 12 := by kernel_rfl
set_option maxRecDepth 100000 in
theorem open_tt_of {r : Reach} {b0 : Nat} {v : Value} {d : DataW H} {q : List MemPlace} (hv : Value.okWide Tryd.prog w r b0 49 v) (h : DataW.Trod enc Tryd.prog w base spare held 49 v d q) :
    ∃ (d1 b1 : Int) (s1 : ByteArray) (d2 b2 : Int) (s2 : ByteArray), v = .agg #[.int .i64 d1, .int .u8 b1, .string s1, .int .i64 d2, .int .u8 b2, .string s2] ∧ s1.size ≤ Rows.uptoBulk d ∧ s2.size ≤ Rows.uptoBulk d := by
  unfold Value.okWide at hv
  rw [Tryd.underlying49] at hv
  obtain ⟨cs, rfl, hsz, _⟩ := hv
  obtain ⟨fuel, hf⟩ := h
  obtain ⟨xs, m, _, ex, hl, hxl, hg⟩ := DataW.trod_array Tryd.underlying49 hf
  rw [cells6t] at hl
  have e0 : (Value.agg cs).cells = cs := rfl
  rw [e0] at hl hg
  obtain ⟨c0, c1, c2, c3, c4, c5, hc⟩ := list6 cs.toList hl
  obtain ⟨y0, y1, rfl⟩ : ∃ y0 y1, xs = [y0, y1] := by
    match xs, hxl with
    | [y0, y1], _ => exact ⟨y0, y1, rfl⟩
  have g0 := hg 0 (by decide)
  have g1 := hg 1 (by decide)
  rw [hc, cellsT3] at g0 g1
  obtain ⟨d1, b1, s1, f0, z0⟩ := open_ty_b (x := y0) g0
  obtain ⟨d2, b2, s2, f1, z1⟩ := open_ty_b (x := y1) g1
  simp at f0 f1
  obtain ⟨rfl, rfl, rfl⟩ := f0
  obtain ⟨rfl, rfl, rfl⟩ := f1
  have hd : d = .agg [y0.1, y1.1] := congrArg Prod.fst ex
  have h0 := bulk_mem (l := [y0.1, y1.1]) (d := y0.1) (by simp)
  have h1 := bulk_mem (l := [y0.1, y1.1]) (d := y1.1) (by simp)
  have hb : Rows.uptoBulk d = Rows.uptoBulkAll [y0.1, y1.1] + 1 := by rw [hd]; simp only [Rows.uptoBulk]
  refine ⟨d1, b1, s1, d2, b2, s2, ?_, by omega, by omega⟩
  rw [show cs = _ from (Array.toArray_toList (xs := cs)).symm, hc]
set_option maxRecDepth 100000 in
theorem open_vv_of {r : Reach} {b0 : Nat} {v : Value} {d : DataW H} {q : List MemPlace} (hv : Value.okWide Tryd.prog w r b0 50 v) (h : DataW.Trod enc Tryd.prog w base spare held 50 v d q) :
    ∃ (k1 n1 d1 b1 : Int) (s1 : ByteArray) (p1 k2 n2 d2 b2 : Int) (s2 : ByteArray) (p2 : Int), v = .agg #[.int .i64 k1, .int .i64 n1, .int .i64 d1, .int .u8 b1, .string s1, .int .i64 p1, .int .i64 k2, .int .i64 n2, .int .i64 d2, .int .u8 b2, .string s2, .int .i64 p2] ∧ s1.size ≤ Rows.uptoBulk d ∧ s2.size ≤ Rows.uptoBulk d := by
  unfold Value.okWide at hv
  rw [Tryd.underlying50] at hv
  obtain ⟨cs, rfl, hsz, _⟩ := hv
  obtain ⟨fuel, hf⟩ := h
  obtain ⟨xs, m, _, ex, hl, hxl, hg⟩ := DataW.trod_array Tryd.underlying50 hf
  rw [cells12v] at hl
  have e0 : (Value.agg cs).cells = cs := rfl
  rw [e0] at hl hg
  obtain ⟨c0, c1, c2, c3, c4, c5, c6, c7, c8, c9, c10, c11, hc⟩ : ∃ c0 c1 c2 c3 c4 c5 c6 c7 c8 c9 c10 c11, cs.toList = [c0, c1, c2, c3, c4, c5, c6, c7, c8, c9, c10, c11] := by
    match cs.toList, hl with
    | [c0, c1, c2, c3, c4, c5, c6, c7, c8, c9, c10, c11], _ => exact ⟨c0, c1, c2, c3, c4, c5, c6, c7, c8, c9, c10, c11, rfl⟩
  obtain ⟨y0, y1, rfl⟩ : ∃ y0 y1, xs = [y0, y1] := by
    match xs, hxl with
    | [y0, y1], _ => exact ⟨y0, y1, rfl⟩
  have g0 := hg 0 (by decide)
  have g1 := hg 1 (by decide)
  rw [hc, cellsV6] at g0 g1
  obtain ⟨k1, n1, d1, b1, s1, p1, f0, z0⟩ := open_vt_b (x := y0) g0
  obtain ⟨k2, n2, d2, b2, s2, p2, f1, z1⟩ := open_vt_b (x := y1) g1
  simp at f0 f1
  obtain ⟨rfl, rfl, rfl, rfl, rfl, rfl⟩ := f0
  obtain ⟨rfl, rfl, rfl, rfl, rfl, rfl⟩ := f1
  have hd : d = .agg [y0.1, y1.1] := congrArg Prod.fst ex
  have h0 := bulk_mem (l := [y0.1, y1.1]) (d := y0.1) (by simp)
  have h1 := bulk_mem (l := [y0.1, y1.1]) (d := y1.1) (by simp)
  have hb : Rows.uptoBulk d = Rows.uptoBulkAll [y0.1, y1.1] + 1 := by rw [hd]; simp only [Rows.uptoBulk]
  refine ⟨k1, n1, d1, b1, s1, p1, k2, n2, d2, b2, s2, p2, ?_, by omega, by omega⟩
  rw [show cs = _ from (Array.toArray_toList (xs := cs)).symm, hc]
end
end Go.Proofs.YthifmcnemeiphaaDoor
