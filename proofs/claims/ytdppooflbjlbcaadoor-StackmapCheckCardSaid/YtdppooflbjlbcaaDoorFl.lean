/- Layer 19: code in memory; exists, Successors. -/
import Derived.Test.YtdppooflbjlbcaaDoorFo
namespace Go.Proofs.YtdppooflbjlbcaaDoor.I
open Go.ChangeShapes Go.WideShapes Go.ChangeAt Go.RowKit Go.PlainAid
set_option linter.unusedSimpArgs false
set_option linter.unusedVariables false

/-- an exception handler -/
structure Hd where
  f : Int
  t : Int
  g : Int
  k : Int
  s : ByteArray
def Hds (w : World) (B : Nat) (A : Option Addr) (L : List Hd) : Prop :=
  L = [] ∨ ∃ g o, A = some ⟨g, o, none⟩ ∧ g < B ∧ ∀ (k : Nat) (h : Hd), L[k]? = some h → w.cell? ⟨g, o + k * 5, none⟩ = some (.int .i64 h.f) ∧ w.cell? ⟨g, o + k * 5 + 1, none⟩ = some (.int .i64 h.t) ∧ w.cell? ⟨g, o + k * 5 + 2, none⟩ = some (.int .i64 h.g) ∧ w.cell? ⟨g, o + k * 5 + 3, none⟩ = some (.int .i64 h.k) ∧ w.cell? ⟨g, o + k * 5 + 4, none⟩ = some (.string h.s)
theorem Hds.up {w w' : World} {A : Option Addr} {L : List Hd} (h : Hds w w.heap.size A L) (hb : Below w.heap.size w w') : Hds w' w'.heap.size A L := by
  rcases h with h | ⟨g, o, hA, hg, hc⟩
  · exact Or.inl h
  · refine Or.inr ⟨g, o, hA, Nat.lt_of_lt_of_le hg hb.size, fun k x hx => ?_⟩
    have e := fun j => hb.cell (p := ⟨g, j, none⟩) hg
    obtain ⟨c0, c1, c2, c3, c4⟩ := hc k x hx
    exact ⟨(e _).trans c0, (e _).trans c1, (e _).trans c2, (e _).trans c3, (e _).trans c4⟩
/-- code in memory -/
structure Cd where
  st : Int
  lo : Int
  iA : Option Addr
  n : Nat
  ic : Nat
  is : List In
  hA : Option Addr
  hn : Nat
  hc : Nat
  hs : List Hd
  mA : Option Addr
  mn : Nat
  mc : Nat
  lA : Option Addr
  ln : Nat
  lc : Nat
structure Cd.ok (w : World) (c : Cd) : Prop where
  il : c.is.length = c.n
  iw : Ins w w.heap.size c.iA c.is
  ib : c.n ≤ 1000000
  hl : c.hs.length = c.hn
  hw : Hds w w.heap.size c.hA c.hs
  hb : c.hn ≤ 1000000
  nz : ∀ i ∈ c.is, i.nz
  tn : ∀ i ∈ c.is, i.tn ≤ 1000000
theorem Cd.ok.up {w w' : World} {c : Cd} (h : c.ok w) (hb : Below w.heap.size w w') : c.ok w' := ⟨h.il, h.iw.up hb, h.ib, h.hl, h.hw.up hb, h.hb, h.nz, h.tn⟩
theorem six_cells {W : World} {B : Nat} {a b c d e f : Value} {t : TypeId} (hh : W.heap[B]? = some (.cells #[a, b, c, d, e, f] t)) :
    W.cell? ⟨B, 0, none⟩ = some a ∧ W.cell? ⟨B, 1, none⟩ = some b ∧ W.cell? ⟨B, 2, none⟩ = some c ∧ W.cell? ⟨B, 3, none⟩ = some d ∧ W.cell? ⟨B, 4, none⟩ = some e ∧ W.cell? ⟨B, 5, none⟩ = some f := by
  refine ⟨?_, ?_, ?_, ?_, ?_, ?_⟩ <;> simp [World.cell?, hh]
def exB (n : Nat) (x : Int) : Bool := decide (0 ≤ x ∧ x < n)
theorem ex_any (c : Cd) (x : Int) (w : World) : Calls Tryd.prog 123 #[(Value.agg #[Value.int IntKind.i64 (Cd.st c), Value.int IntKind.i64 (Cd.lo c), Value.slice (Cd.iA c) (Cd.n c) (Cd.ic c), Value.slice (Cd.hA c) (Cd.hn c) (Cd.hc c), Value.slice (Cd.mA c) (Cd.mn c) (Cd.mc c), Value.slice (Cd.lA c) (Cd.ln c) (Cd.lc c)]), .int .i64 x] w fun e w' => e = .returned (.bool (exB c.n x)) ∧ Below w.heap.size w w' := by
  have hB : Below w.heap.size w w := Below.refl _ _
  go_enter Tryd.func123, Tryd.ntmps123
  go_upto_region 1 with fail
  have R := World.alloc_heap_new w (.cells #[.int .i64 c.st, .int .i64 c.lo, .slice c.iA c.n c.ic, .slice c.hA c.hn c.hc, .slice c.mA c.mn c.mc, .slice c.lA c.ln c.lc] 27)
  replace hB := below_al hB (.cells #[.int .i64 c.st, .int .i64 c.lo, .slice c.iA c.n c.ic, .slice c.hA c.hn c.hc, .slice c.mA c.mn c.mc, .slice c.lA c.ln c.lc] 27)
  generalize w.alloc (.cells #[.int .i64 c.st, .int .i64 c.lo, .slice c.iA c.n c.ic, .slice c.hA c.hn c.hc, .slice c.mA c.mn c.mc, .slice c.lA c.ln c.lc] 27) = W1 at R hB ⊢
  obtain ⟨r0, r1, r2, r3, r4, r5⟩ := six_cells R
  have y1 := lt_heap R
  replace R := Lib.hid R
  by_cases h0 : 0 ≤ x
  · by_cases h1 : x < c.n
    · go_wp2
      all_goals go_ret
      all_goals exact ⟨ret_bool (by (try simp_all [exB]); (try omega)), hB⟩
    · go_wp2
      all_goals go_ret
      all_goals exact ⟨ret_bool (by (try simp_all [exB]); (try omega)), hB⟩
  · go_wp2
    all_goals go_ret
    all_goals exact ⟨ret_bool (by (try simp_all [exB]); (try omega)), hB⟩
theorem ris_any (c : Cd) (x : Int) (w : World) : Calls Tryd.prog 138 #[(Value.agg #[Value.int IntKind.i64 (Cd.st c), Value.int IntKind.i64 (Cd.lo c), Value.slice (Cd.iA c) (Cd.n c) (Cd.ic c), Value.slice (Cd.hA c) (Cd.hn c) (Cd.hc c), Value.slice (Cd.mA c) (Cd.mn c) (Cd.mc c), Value.slice (Cd.lA c) (Cd.ln c) (Cd.lc c)]), .int .i64 x] w fun e w' => e = .returned (.bool (exB c.n x)) ∧ Below w.heap.size w w' := by
  have hB : Below w.heap.size w w := Below.refl _ _
  go_enter Tryd.func138, Tryd.ntmps138
  go_upto_region 1 with fail
  have R := World.alloc_heap_new w (.cells #[.int .i64 c.st, .int .i64 c.lo, .slice c.iA c.n c.ic, .slice c.hA c.hn c.hc, .slice c.mA c.mn c.mc, .slice c.lA c.ln c.lc] 27)
  replace hB := below_al hB (.cells #[.int .i64 c.st, .int .i64 c.lo, .slice c.iA c.n c.ic, .slice c.hA c.hn c.hc, .slice c.mA c.mn c.mc, .slice c.lA c.ln c.lc] 27)
  generalize w.alloc (.cells #[.int .i64 c.st, .int .i64 c.lo, .slice c.iA c.n c.ic, .slice c.hA c.hn c.hc, .slice c.mA c.mn c.mc, .slice c.lA c.ln c.lc] 27) = W1 at R hB ⊢
  obtain ⟨r0, r1, r2, r3, r4, r5⟩ := six_cells R
  have y1 := lt_heap R
  replace R := Lib.hid R
  by_cases h0 : 0 ≤ x
  · by_cases h1 : x < c.n
    · go_wp2
      all_goals go_ret
      all_goals exact ⟨ret_bool (by (try simp_all [exB]); (try omega)), hB⟩
    · go_wp2
      all_goals go_ret
      all_goals exact ⟨ret_bool (by (try simp_all [exB]); (try omega)), hB⟩
  · go_wp2
    all_goals go_ret
    all_goals exact ⟨ret_bool (by (try simp_all [exB]); (try omega)), hB⟩
theorem ex_gen {st lo : Int} {iA hA mA lA : Option Addr} {n ic hn hc mn mc ln lc : Nat} (x : Int) (w : World) : Calls Tryd.prog 123 #[.agg #[.int .i64 st, .int .i64 lo, .slice iA n ic, .slice hA hn hc, .slice mA mn mc, .slice lA ln lc], .int .i64 x] w fun e w' => e = .returned (.bool (exB n x)) ∧ Below w.heap.size w w' := ex_any ⟨st, lo, iA, n, ic, [], hA, hn, hc, [], mA, mn, mc, lA, ln, lc⟩ x w
theorem is_gen {st lo : Int} {iA hA mA lA : Option Addr} {n ic hn hc mn mc ln lc : Nat} (x : Int) (w : World) : Calls Tryd.prog 138 #[.agg #[.int .i64 st, .int .i64 lo, .slice iA n ic, .slice hA hn hc, .slice mA mn mc, .slice lA ln lc], .int .i64 x] w fun e w' => e = .returned (.bool (exB n x)) ∧ Below w.heap.size w w' := ris_any ⟨st, lo, iA, n, ic, [], hA, hn, hc, [], mA, mn, mc, lA, ln, lc⟩ x w
/-- a row of the call's own, handed back -/
def IntsOwn (w : World) (L : List Int) (e : Ending) (w' : World) : Prop :=
  ∃ v, e = .returned v ∧ w'.ownsRow w.heap.size 3 1 v L.length (Ri L) ∧ Below w.heap.size w w'
theorem IntsOwn.ret {w w' : World} {L : List Int} {e : Ending} (h : IntsOwn w L e w') : IntsRet w L e w' := by
  obtain ⟨v, rfl, ho, hb⟩ := h
  exact ints_own ho hb
theorem own_up {w W w' : World} {L : List Int} {v : Value} (hb : Below w.heap.size w W) (ho : w'.ownsRow W.heap.size 3 1 v L.length (Ri L)) (hb2 : Below W.heap.size W w') : IntsOwn w L (.returned v) w' :=
  ⟨v, rfl, own_leF ho hb.size, below_on hb hb2⟩
theorem own_nil (w w' : World) (h : Below w.heap.size w w') : IntsOwn w [] (.returned (.slice none 0 0)) w' := ⟨_, rfl, World.ownsRow_nil _ _ _ _, h⟩
/-- what may follow an instruction, not yet in order -/
def nxL (n : Nat) (i : In) (at' : Int) : List Int := (tgL i).filter (exB n) ++ (if exB n (at' + 1) = true ∧ termB i.op = false then [at' + 1] else [])
def scL (c : Cd) (x : Int) : List Int := match c.is[x.toNat]? with | some i => if exB c.n x = true then ordL (nxL c.n i x) else [] | none => []
theorem scL_no {c : Cd} {x : Int} (h : exB c.n x = false) : scL c x = [] := by
  unfold scL
  cases c.is[x.toNat]? with
  | none => rfl
  | some i => show (if exB c.n x = true then _ else _) = _; rw [h]; rfl
theorem scL_yes {c : Cd} {x : Int} {i : In} (hi : c.is[x.toNat]? = some i) (h : exB c.n x = true) : scL c x = ordL (nxL c.n i x) := by
  unfold scL
  rw [hi]
  show (if exB c.n x = true then _ else _) = _
  rw [if_pos h]
theorem ex_iff {n : Nat} {x : Int} : exB n x = true ↔ 0 ≤ x ∧ x < n := by unfold exB; exact decide_eq_true_iff
theorem filter_snoc {p : Int → Bool} {l : List Int} {k : Nat} {x : Int} (h : l[k]? = some x) : (l.take (k + 1)).filter p = (l.take k).filter p ++ (if p x = true then [x] else []) := by
  rw [take_snocF h, List.filter_append]
  congr 1
  cases hp : p x <;> simp [List.filter, hp]
theorem row_get {w : World} {B : Nat} {A : Option Addr} {L : List Int} {k : Nat} {x : Int} (h : Row w B A L) (hx : L[k]? = some x) : ∃ g o, A = some ⟨g, o, none⟩ ∧ g < B ∧ w.cell? ⟨g, o + k, none⟩ = some (.int .i64 x) := by
  rcases h with h | ⟨g, o, hA, hg, hc⟩
  · rw [h] at hx; simp at hx
  · exact ⟨g, o, hA, hg, hc k x hx⟩
theorem tgL_bd {i : In} (h : i.ts.length ≤ 1000000) : (tgL i).length ≤ 1000001 := by
  unfold tgL
  split
  · simp; omega
  · simp

end Go.Proofs.YtdppooflbjlbcaaDoor.I
