import Derived.Test.YtalejaklggnnpaaGreatDoorInNumS
import Derived.Test.YtalejaklggnnpaaGreatDoorShelfS
import Derived.Shelf.Sort.Plain
import Derived.Lib.RowBridge
/- Layer 19: a row put in order, each number once. -/
namespace Go.Proofs.YtalejaklggnnpaaGreatDoor.I
open Go.ChangeShapes Go.WideShapes Go.ChangeAt Go.RowKit Go.PlainAid
set_option linter.unusedSimpArgs false
set_option linter.unusedVariables false
theorem own_leF {w : World} {B B' e k n : Nat} {v : Value} {xs : List Value} (h : w.ownsRow B e k v n xs) (hB : B' ≤ B) : w.ownsRow B' e k v n xs := by
 refine ⟨h.1, ?_⟩
 rcases h.2 with h2 | ⟨g, cap, cur, hv, hg, hh, rest⟩
 ·
  exact Or.inl h2
 ·
  exact Or.inr ⟨g, cap, cur, hv, by omega, hh, rest⟩
theorem get_someF {α : Type} {l : List α} {k : Nat} (h : k < l.length) : ∃ x, l[k]? = some x := ⟨l[k], List.getElem?_eq_getElem _⟩
theorem get_ltF {α : Type} {l : List α} {k : Nat} {x : α} (h : l[k]? = some x) : k < l.length := by
 rcases Nat.lt_or_ge k l.length with h' | h'
 ·
  exact h'
 ·
  rw [List.getElem?_eq_none h'] at h; cases h
theorem take_snocF {α : Type} {l : List α} {k : Nat} {x : α} (h : l[k]? = some x) : l.take (k + 1) = l.take k ++ [x] := by rw [List.take_add_one, h]; rfl
end Go.Proofs.YtalejaklggnnpaaGreatDoor.I
/- Layer 19: code in memory; exists, Successors. -/
namespace Go.Proofs.YtalejaklggnnpaaGreatDoor.I
open Go.ChangeShapes Go.WideShapes Go.ChangeAt Go.RowKit Go.PlainAid
set_option linter.unusedSimpArgs false
set_option linter.unusedVariables false
/-- an exception handler -/
structure Hd where
 f : Int
 t : Int
 g : Int
 k : Int
 s : ByteArray
def Hds (w : World) (B : Nat) (A : Option Addr) (L : List Hd) : Prop :=
 L = [] ∨ ∃ g o, A = some ⟨g, o, none⟩ ∧ g < B ∧ ∀ (k : Nat) (h : Hd), L[k]? = some h → w.cell? ⟨g, o + k * 5, none⟩ = some (.int .i64 h.f) ∧ w.cell? ⟨g, o + k * 5 + 1, none⟩ = some (.int .i64 h.t) ∧ w.cell? ⟨g, o + k * 5 + 2, none⟩ = some (.int .i64 h.g) ∧ w.cell? ⟨g, o + k * 5 + 3, none⟩ = some (.int .i64 h.k) ∧ w.cell? ⟨g, o + k * 5 + 4, none⟩ = some (.string h.s)
theorem Hds.up {w w' : World} {A : Option Addr} {L : List Hd} (h : Hds w w.heap.size A L) (hb : Below w.heap.size w w') : Hds w' w'.heap.size A L := by
 rcases h with h | ⟨g, o, hA, hg, hc⟩
 ·
  exact Or.inl h
 ·
  refine Or.inr ⟨g, o, hA, Nat.lt_of_lt_of_le hg hb.size, fun k x hx => ?_⟩
  have e := fun j => hb.cell (p := ⟨g, j, none⟩) hg
  obtain ⟨c0, c1, c2, c3, c4⟩ := hc k x hx
  exact ⟨(e _).trans c0, (e _).trans c1, (e _).trans c2, (e _).trans c3, (e _).trans c4⟩
/-- code in memory -/
structure Cd where
 st : Int
 lo : Int
 iA : Option Addr
 n : Nat
 ic : Nat
 is : List In
 hA : Option Addr
 hn : Nat
 hc : Nat
 hs : List Hd
 mA : Option Addr
 mn : Nat
 mc : Nat
 lA : Option Addr
 ln : Nat
 lc : Nat
structure Cd.ok (w : World) (c : Cd) : Prop where
 il : c.is.length = c.n
 iw : Ins w w.heap.size c.iA c.is
 ib : c.n ≤ 1000000
 hl : c.hs.length = c.hn
 hw : Hds w w.heap.size c.hA c.hs
 hb : c.hn ≤ 1000000
 nz : ∀ i ∈ c.is, i.nz
 tn : ∀ i ∈ c.is, i.tn ≤ 1000000
theorem Cd.ok.up {w w' : World} {c : Cd} (h : c.ok w) (hb : Below w.heap.size w w') : c.ok w' := ⟨h.il, h.iw.up hb, h.ib, h.hl, h.hw.up hb, h.hb, h.nz, h.tn⟩
theorem six_cells {W : World} {B : Nat} {a b c d e f : Value} {t : TypeId} (hh : W.heap[B]? = some (.cells #[a, b, c, d, e, f] t)) :
  W.cell? ⟨B, 0, none⟩ = some a ∧ W.cell? ⟨B, 1, none⟩ = some b ∧ W.cell? ⟨B, 2, none⟩ = some c ∧ W.cell? ⟨B, 3, none⟩ = some d ∧ W.cell? ⟨B, 4, none⟩ = some e ∧ W.cell? ⟨B, 5, none⟩ = some f := by
 refine ⟨?_, ?_, ?_, ?_, ?_, ?_⟩ <;> simp [World.cell?, hh]
def exB (n : Nat) (x : Int) : Bool := decide (0 ≤ x ∧ x < n)
/-- a row of the call's own, handed back -/
def IntsOwn (w : World) (L : List Int) (e : Ending) (w' : World) : Prop :=
 ∃ v, e = .returned v ∧ w'.ownsRow w.heap.size 3 1 v L.length (Ri L) ∧ Below w.heap.size w w'
theorem IntsOwn.ret {w w' : World} {L : List Int} {e : Ending} (h : IntsOwn w L e w') : IntsRet w L e w' := by
 obtain ⟨v, rfl, ho, hb⟩ := h
 exact ints_own ho hb
theorem own_up {w W w' : World} {L : List Int} {v : Value} (hb : Below w.heap.size w W) (ho : w'.ownsRow W.heap.size 3 1 v L.length (Ri L)) (hb2 : Below W.heap.size W w') : IntsOwn w L (.returned v) w' :=
 ⟨v, rfl, own_leF ho hb.size, below_on hb hb2⟩
theorem ex_iff {n : Nat} {x : Int} : exB n x = true ↔ 0 ≤ x ∧ x < n := by unfold exB; exact decide_eq_true_iff
theorem row_get {w : World} {B : Nat} {A : Option Addr} {L : List Int} {k : Nat} {x : Int} (h : Row w B A L) (hx : L[k]? = some x) : ∃ g o, A = some ⟨g, o, none⟩ ∧ g < B ∧ w.cell? ⟨g, o + k, none⟩ = some (.int .i64 x) := by
 rcases h with h | ⟨g, o, hA, hg, hc⟩
 ·
  rw [h] at hx; simp at hx
 ·
  exact ⟨g, o, hA, hg, hc k x hx⟩
end Go.Proofs.YtalejaklggnnpaaGreatDoor.I
/- Rows of marks, made by a call. -/
namespace Go.Proofs.YtalejaklggnnpaaGreatDoor.I
open Go.ChangeShapes Go.WideShapes Go.ChangeAt Go.RowKit Go.PlainAid
set_option linter.unusedSimpArgs false
set_option linter.unusedVariables false
def Rb (M : List Bool) : List Value := M.map fun b => .bool b
theorem rb_len (M : List Bool) : (Rb M).length = M.length := by simp [Rb]
theorem made_rb (n : Nat) : (madeCells (Value.bool false).cells (n * 1)).toList = Rb (List.replicate n false) := by
 unfold madeCells Rb
 rw [Nat.mul_one]
 apply List.ext_getElem
 ·
  simp
 ·
  intro i h1 h2
  simp [Value.cells, Nat.mod_one]
theorem infoB : (Tryz.prog.info? 4).map (fun i => (i.zero, i.size, i.bytes)) = some (some (.bool false), 1, 1) := by kernel_rfl
/-- a row of marks, made by the call -/
structure Mk (W wr : World) (n : Nat) (M : List Bool) : Prop where
 own : wr.ownsRow W.heap.size 4 1 (.slice (some ⟨W.heap.size, 0, none⟩) n n) n (Rb M)
 bel : Below W.heap.size W wr
theorem Mk.len {W wr : World} {n : Nat} {M : List Bool} (h : Mk W wr n M) : M.length = n := by have := h.own.1; rw [rb_len] at this; omega
theorem Mk.cell {W wr : World} {n : Nat} {M : List Bool} (h : Mk W wr n M) {j : Nat} {b : Bool} (hb : M[j]? = some b) : wr.cell? ⟨W.heap.size, j, none⟩ = some (.bool b) := by
 have hl := h.len
 have hj := get_ltF hb
 rw [h.own.cellAt j (by omega)]
 unfold Rb
 rw [List.getElem?_map, hb]; rfl
theorem Mk.put {W wr : World} {n : Nat} {M : List Bool} (h : Mk W wr n M) (j : Nat) (b : Bool) : Mk W (wr.setCell ⟨W.heap.size, j, none⟩ (.bool b)) n (M.set j b) := by
 have hs := h.own.stored j (.bool b)
 refine ⟨by unfold Rb; rw [List.map_set]; exact hs.1, below_st (p := ⟨W.heap.size, j, none⟩) h.bel (Nat.le_refl _) _⟩
theorem Mk.up {W wr w2 : World} {n : Nat} {M : List Bool} (h : Mk W wr n M) (hb : Below wr.heap.size wr w2) : Mk W w2 n M := ⟨own_below h.own hb, below_on h.bel hb⟩
theorem Mk.sz {W wr : World} {n : Nat} {M : List Bool} (h : Mk W wr n M) : W.heap.size < wr.heap.size := (h.own.lt W.heap.size rfl).2
/-- a row of marks is handed back -/
def MarksRet (w : World) (n : Nat) (M : List Bool) (e : Ending) (w' : World) : Prop :=
 ∃ W : World, e = .returned (.slice (some ⟨W.heap.size, 0, none⟩) n n) ∧ Mk W w' n M ∧ Below w.heap.size w W
/-- a row that a call gathers since the world W -/
structure Nxt (W wr : World) (L : List Int) (v : Value) : Prop where
 own : wr.ownsRow W.heap.size 3 1 v L.length (Ri L)
 bel : Below W.heap.size W wr
theorem Nxt.up {W wr w2 : World} {L : List Int} {v : Value} (N : Nxt W wr L v) (h : Below wr.heap.size wr w2) : Nxt W w2 L v := ⟨own_below N.own h, below_on N.bel h⟩
theorem Nxt.add {W w2 w4 : World} {L : List Int} {v v' : Value} {t : Int} {o : Obj} (N : Nxt W w2 L v) (ho : w4.ownsRow W.heap.size 3 1 v' (L.length + 1) (Ri (L ++ [t]))) (hg : (w2.alloc o).grownBy w4 v.ownBlock) : Nxt W w4 (L ++ [t]) v' :=
 ⟨by rw [List.length_append]; exact ho, grown_own (below_al N.bel o) (N.own.alloc o) hg⟩
theorem Nxt.start {W : World} : Nxt W W [] (.slice none 0 0) := ⟨World.ownsRow_nil _ _ _ _, Below.refl _ _⟩
/-- the numbers below k that P takes -/
def rowsI (P : Nat → Bool) (k : Nat) : List Int := ((List.range k).filter P).map (fun (j : Nat) => (j : Int))
theorem rowsI_succ (P : Nat → Bool) (k : Nat) : rowsI P (k + 1) = rowsI P k ++ (if P k = true then [(k : Int)] else []) := by
 unfold rowsI
 rw [List.range_succ, List.filter_append, List.map_append]
 congr 1
 cases h : P k <;> simp [List.filter, h]
theorem rowsI_len (P : Nat → Bool) (k : Nat) : (rowsI P k).length ≤ k := by
 unfold rowsI
 rw [List.length_map]
 exact Nat.le_trans (List.length_filter_le _ _) (by simp)
end Go.Proofs.YtalejaklggnnpaaGreatDoor.I
