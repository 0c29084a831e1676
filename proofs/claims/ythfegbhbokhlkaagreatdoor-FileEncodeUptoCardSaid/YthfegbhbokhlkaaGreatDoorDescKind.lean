/- Layer 4: Kind, in the package and in its reference. -/
import Derived.Test.YthfegbhbokhlkaaGreatDoorDescThree
namespace Go.Proofs.YthfegbhbokhlkaaGreatDoor
open Go.ChangeShapes Go.WideShapes Go.ChangeAt Go.RowKit Go.PlainAid
set_option linter.unusedSimpArgs false
set_option linter.unusedVariables false

def kiV (d b : Int) (n : ByteArray) : Int := if validB d b n = true then if b = 86 then 0 else if 0 < d ∨ b = 76 then 3 else if b = 73 then 1 else 2 else 0
theorem valid_base {d b : Int} {n : ByteArray} (h : validB d b n = true) : b = 73 ∨ b = 74 ∨ b = 76 ∨ b = 86 := by
  rw [valid_in (valid_bd h)] at h
  by_cases h1 : b = 73 ∨ b = 74
  · omega
  · rw [if_neg h1] at h
    by_cases h2 : b = 76
    · omega
    · rw [if_neg h2] at h
      by_cases h3 : b = 86
      · omega
      · rw [if_neg h3] at h; cases h
theorem one_box {w w1 : World} {d b : Int} {n : ByteArray} (h : Below (w.alloc (.cells #[.int .i64 d, .int .u8 b, .string n] 118)).heap.size (w.alloc (.cells #[.int .i64 d, .int .u8 b, .string n] 118)) w1) :
    w1.heap[w.heap.size]? = some (.cells #[.int .i64 d, .int .u8 b, .string n] 118) :=
  (h.block w.heap.size (by simp only [World.size_alloc]; omega)).trans (World.alloc_heap_new w _)

end Go.Proofs.YthfegbhbokhlkaaGreatDoor
