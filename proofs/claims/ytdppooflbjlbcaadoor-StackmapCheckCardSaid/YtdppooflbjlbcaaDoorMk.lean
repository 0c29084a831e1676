/- Rows of marks, made by a call. -/
import Derived.Test.YtdppooflbjlbcaaDoorFl
namespace Go.Proofs.YtdppooflbjlbcaaDoor.I
open Go.ChangeShapes Go.WideShapes Go.ChangeAt Go.RowKit Go.PlainAid
set_option linter.unusedSimpArgs false
set_option linter.unusedVariables false

def Rb (M : List Bool) : List Value := M.map fun b => .bool b
theorem rb_len (M : List Bool) : (Rb M).length = M.length := by simp [Rb]
theorem made_rb (n : Nat) : (madeCells (Value.bool false).cells (n * 1)).toList = Rb (List.replicate n false) := by
  unfold madeCells Rb
  rw [Nat.mul_one]
  apply List.ext_getElem
  · simp
  · intro i h1 h2
    simp [Value.cells, Nat.mod_one]
theorem infoB : (Tryd.prog.info? 4).map (fun i => (i.zero, i.size, i.bytes)) = some (some (.bool false), 1, 1) := by kernel_rfl
/-- a row of marks, made by the call -/
structure Mk (W wr : World) (n : Nat) (M : List Bool) : Prop where
  own : wr.ownsRow W.heap.size 4 1 (.slice (some ⟨W.heap.size, 0, none⟩) n n) n (Rb M)
  bel : Below W.heap.size W wr
theorem Mk.len {W wr : World} {n : Nat} {M : List Bool} (h : Mk W wr n M) : M.length = n := by have := h.own.1; rw [rb_len] at this; omega
theorem Mk.cell {W wr : World} {n : Nat} {M : List Bool} (h : Mk W wr n M) {j : Nat} {b : Bool} (hb : M[j]? = some b) : wr.cell? ⟨W.heap.size, j, none⟩ = some (.bool b) := by
  have hl := h.len
  have hj := get_ltF hb
  rw [h.own.cellAt j (by omega)]
  unfold Rb
  rw [List.getElem?_map, hb]; rfl
theorem Mk.put {W wr : World} {n : Nat} {M : List Bool} (h : Mk W wr n M) (j : Nat) (b : Bool) : Mk W (wr.setCell ⟨W.heap.size, j, none⟩ (.bool b)) n (M.set j b) := by
  have hs := h.own.stored j (.bool b)
  refine ⟨by unfold Rb; rw [List.map_set]; exact hs.1, below_st (p := ⟨W.heap.size, j, none⟩) h.bel (Nat.le_refl _) _⟩
theorem Mk.up {W wr w2 : World} {n : Nat} {M : List Bool} (h : Mk W wr n M) (hb : Below wr.heap.size wr w2) : Mk W w2 n M := ⟨own_below h.own hb, below_on h.bel hb⟩
theorem Mk.sz {W wr : World} {n : Nat} {M : List Bool} (h : Mk W wr n M) : W.heap.size < wr.heap.size := (h.own.lt W.heap.size rfl).2
/-- a row of marks is handed back -/
def MarksRet (w : World) (n : Nat) (M : List Bool) (e : Ending) (w' : World) : Prop :=
  ∃ W : World, e = .returned (.slice (some ⟨W.heap.size, 0, none⟩) n n) ∧ Mk W w' n M ∧ Below w.heap.size w W
/-- a row that a call gathers since the world W -/
structure Nxt (W wr : World) (L : List Int) (v : Value) : Prop where
  own : wr.ownsRow W.heap.size 3 1 v L.length (Ri L)
  bel : Below W.heap.size W wr
theorem Nxt.up {W wr w2 : World} {L : List Int} {v : Value} (N : Nxt W wr L v) (h : Below wr.heap.size wr w2) : Nxt W w2 L v := ⟨own_below N.own h, below_on N.bel h⟩
theorem Nxt.add {W w2 w4 : World} {L : List Int} {v v' : Value} {t : Int} {o : Obj} (N : Nxt W w2 L v) (ho : w4.ownsRow W.heap.size 3 1 v' (L.length + 1) (Ri (L ++ [t]))) (hg : (w2.alloc o).grownBy w4 v.ownBlock) : Nxt W w4 (L ++ [t]) v' :=
  ⟨by rw [List.length_append]; exact ho, grown_own (below_al N.bel o) (N.own.alloc o) hg⟩
theorem Nxt.start {W : World} : Nxt W W [] (.slice none 0 0) := ⟨World.ownsRow_nil _ _ _ _, Below.refl _ _⟩
/-- the numbers below k that P takes -/
def rowsI (P : Nat → Bool) (k : Nat) : List Int := ((List.range k).filter P).map (fun (j : Nat) => (j : Int))
theorem rowsI_succ (P : Nat → Bool) (k : Nat) : rowsI P (k + 1) = rowsI P k ++ (if P k = true then [(k : Int)] else []) := by
  unfold rowsI
  rw [List.range_succ, List.filter_append, List.map_append]
  congr 1
  cases h : P k <;> simp [List.filter, h]
theorem rowsI_len (P : Nat → Bool) (k : Nat) : (rowsI P k).length ≤ k := by
  unfold rowsI
  rw [List.length_map]
  exact Nat.le_trans (List.length_filter_le _ _) (by simp)
theorem rowsI_mem {P : Nat → Bool} {k : Nat} {x : Int} : x ∈ rowsI P k ↔ ∃ j : Nat, j < k ∧ P j = true ∧ x = j := by
  unfold rowsI
  rw [List.mem_map]
  constructor
  · rintro ⟨j, hj, rfl⟩
    have := List.mem_filter.1 hj
    exact ⟨j, List.mem_range.1 this.1, this.2, rfl⟩
  · rintro ⟨j, hj, hp, rfl⟩
    exact ⟨j, List.mem_filter.2 ⟨List.mem_range.2 hj, hp⟩, rfl⟩

end Go.Proofs.YtdppooflbjlbcaaDoor.I
