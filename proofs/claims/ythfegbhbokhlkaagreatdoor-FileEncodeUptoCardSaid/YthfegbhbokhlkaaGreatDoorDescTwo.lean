/- Layer 4: Element, ArrayOf, Kind, in the package and in its reference. -/
import Derived.Test.YthfegbhbokhlkaaGreatDoorDesc
namespace Go.Proofs.YthfegbhbokhlkaaGreatDoor
open Go.ChangeShapes Go.WideShapes Go.ChangeAt Go.RowKit Go.PlainAid
set_option linter.unusedSimpArgs false
set_option linter.unusedVariables false

def elE (d b : Int) (n : ByteArray) : Int := if validB d b n = true then if d = 0 then 1 else 0 else 13
def elV (d b : Int) (n : ByteArray) : Value := if elE d b n = 0 then .agg #[.int .i64 (d - 1), .int .u8 b, .string n] else .agg #[.int .i64 0, .int .u8 0, .string ⟨#[]⟩]

/-- the box and the result's cell, in a world where whatever lay lies as it lay -/
theorem box_cells {w w1 : World} {d b d' b' : Int} {n n' : ByteArray} (h : Below ((w.alloc (.cells #[.int .i64 d, .int .u8 b, .string n] 118)).alloc (.cells #[.int .i64 d', .int .u8 b', .string n'] 118)).heap.size ((w.alloc (.cells #[.int .i64 d, .int .u8 b, .string n] 118)).alloc (.cells #[.int .i64 d', .int .u8 b', .string n'] 118)) w1) :
    w1.heap[w.heap.size]? = some (.cells #[.int .i64 d, .int .u8 b, .string n] 118) ∧ w1.heap[w.heap.size + 1]? = some (.cells #[.int .i64 d', .int .u8 b', .string n'] 118) := by
  constructor
  · exact (h.block w.heap.size (by simp only [World.size_alloc]; omega)).trans ((Below.heap_alloc _ _ _ (by simp)).trans (World.alloc_heap_new w _))
  · refine (h.block (w.heap.size + 1) (by simp only [World.size_alloc]; omega)).trans ?_
    have := World.alloc_heap_new (w.alloc (.cells #[.int .i64 d, .int .u8 b, .string n] 118)) (.cells #[.int .i64 d', .int .u8 b', .string n'] 118)
    rwa [World.size_alloc] at this
theorem three_cells {W : World} {B : Nat} {x y z : Value} {t : TypeId} (h : W.heap[B]? = some (.cells #[x, y, z] t)) :
    W.cell? ⟨B, 0, none⟩ = some x ∧ W.cell? ⟨B, 1, none⟩ = some y ∧ W.cell? ⟨B, 2, none⟩ = some z ∧ W.frozen? ⟨B, 0, none⟩ = false ∧ W.frozen? ⟨B, 1, none⟩ = false ∧ W.frozen? ⟨B, 2, none⟩ = false := by
  refine ⟨?_, ?_, ?_, ?_, ?_, ?_⟩ <;> simp [World.cell?, World.frozen?, h]

theorem set3 {W : World} {B : Nat} {x y z a b c : Value} {t : TypeId} (h : W.heap[B]? = some (.cells #[x, y, z] t)) :
    (((W.setCell ⟨B, 0, none⟩ a).setCell ⟨B, 1, none⟩ b).setCell ⟨B, 2, none⟩ c).heap[B]? = some (.cells #[a, b, c] t) := by
  simp [World.setCell, Array.getElem?_modify, h]
theorem below_set3 {w W : World} {B : Nat} {a b c : Value} (h : Below w.heap.size w W) (hB : w.heap.size ≤ B) :
    Below w.heap.size w (((W.setCell ⟨B, 0, none⟩ a).setCell ⟨B, 1, none⟩ b).setCell ⟨B, 2, none⟩ c) :=
  ((h.setCell (p := ⟨B, 0, none⟩) hB _).setCell (p := ⟨B, 1, none⟩) hB _).setCell (p := ⟨B, 2, none⟩) hB _

theorem valid_bd {d b : Int} {n : ByteArray} (h : validB d b n = true) : 0 ≤ d ∧ d ≤ 8 := by
  unfold validB at h
  rw [Bool.and_eq_true, decide_eq_true_iff] at h
  exact h.1

end Go.Proofs.YthfegbhbokhlkaaGreatDoor
