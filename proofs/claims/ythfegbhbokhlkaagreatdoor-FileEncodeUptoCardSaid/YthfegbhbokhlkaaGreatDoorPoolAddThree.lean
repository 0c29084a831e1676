/- Layer 5: Add, in the package. -/
import Derived.Test.YthfegbhbokhlkaaGreatDoorPoolAddTwo
import Derived.Deep.RegionHeld3
namespace Go.Proofs.YthfegbhbokhlkaaGreatDoor
open Go.ChangeShapes Go.WideShapes Go.ChangeAt Go.RowKit Go.PlainAid
set_option linter.unusedSimpArgs false
set_option linter.unusedVariables false

def ad (L : List Cn) (x : Cn) : List Cn × Int × Int := if ixN L x < L.length then (L, (ixN L x : Int) + 1, 0) else if 1000 ≤ L.length then (L, 0, 5) else (L ++ [x], (L.length : Int) + 1, 0)
def adL (L : List Cn) (x : Cn) : List Cn := (ad L x).1
def adI (L : List Cn) (x : Cn) : Int := (ad L x).2.1
def adE (L : List Cn) (x : Cn) : Int := (ad L x).2.2
theorem ad_1 {L : List Cn} {x : Cn} (h : ixN L x < L.length) : adL L x = L ∧ adI L x = (ixN L x : Int) + 1 ∧ adE L x = 0 := by unfold adL adI adE ad; rw [if_pos h]; exact ⟨rfl, rfl, rfl⟩
theorem ad_2 {L : List Cn} {x : Cn} (h : ¬ ixN L x < L.length) (h2 : 1000 ≤ L.length) : adL L x = L ∧ adI L x = 0 ∧ adE L x = 5 := by unfold adL adI adE ad; rw [if_neg h, if_pos h2]; exact ⟨rfl, rfl, rfl⟩
theorem ad_3 {L : List Cn} {x : Cn} (h : ¬ ixN L x < L.length) (h2 : ¬ 1000 ≤ L.length) : adL L x = L ++ [x] ∧ adI L x = (L.length : Int) + 1 ∧ adE L x = 0 := by unfold adL adI adE ad; rw [if_neg h, if_neg h2]; exact ⟨rfl, rfl, rfl⟩
theorem ad_len {L : List Cn} {x : Cn} (h : L.length ≤ 100000) : (adL L x).length ≤ 100000 := by
  by_cases h1 : ixN L x < L.length
  · rw [(ad_1 h1).1]; exact h
  · by_cases h2 : 1000 ≤ L.length
    · rw [(ad_2 h1 h2).1]; exact h
    · rw [(ad_3 h1 h2).1, List.length_append]; simp; omega

/-- what the adding functions hand back: a pool, an index, an error -/
def AddRet (w : World) (M : List Cn) (i e : Int) (r : Ending) (w' : World) : Prop :=
  ∃ A n c, r = .returned (.tuple #[.slice A n c, .int .i64 i, .int .i64 e]) ∧ M.length = n ∧ n ≤ c ∧ Pool w' w'.heap.size A M ∧ Below w.heap.size w w'

end Go.Proofs.YthfegbhbokhlkaaGreatDoor
