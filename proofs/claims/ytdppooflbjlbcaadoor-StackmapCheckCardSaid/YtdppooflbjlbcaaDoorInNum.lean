/- Layer 8: the reader's number. -/
import Derived.Test.YtdppooflbjlbcaaDoorOctRefTwo
import Derived.Test.YtdppooflbjlbcaaDoorRow
namespace Go.Proofs.YtdppooflbjlbcaaDoor.I
open Go.ChangeShapes Go.WideShapes Go.ChangeAt Go.RowKit Go.PlainAid
set_option linter.unusedSimpArgs false
set_option linter.unusedVariables false

/-- what a reader reads -/
def rdV (s : ByteArray) (p z : Int) (sg : Bool) : Int := if sg = true then sigV s p z else unsV s p z
/-- is it there -/
def rdB (s : ByteArray) (p z : Int) : Bool := decide (unsE s p z = 0)
theorem uns_min (s : ByteArray) (p z : Int) (h0 : 0 ≤ p) : unsV s (min p s.size) z = unsV s p z ∧ (unsE s (min p s.size) z = 0 ↔ unsE s p z = 0) := by
  by_cases h : p ≤ s.size
  · rw [Int.min_eq_left h]; exact ⟨rfl, Iff.rfl⟩
  · rw [Int.min_eq_right (by omega)]
    have e1 : unsE s p z ≠ 0 := by
      unfold unsE
      by_cases hz : okSize z
      · rw [if_neg (by simpa using hz), if_pos (by omega)]; decide
      · rw [if_pos hz]; decide
    have e2 : unsE s s.size z ≠ 0 := by
      unfold unsE
      by_cases hz : okSize z
      · rw [if_neg (by simpa using hz), if_neg (by omega), if_pos (by unfold okSize at hz; omega)]; decide
      · rw [if_pos hz]; decide
    exact ⟨by unfold unsV; rw [if_neg e1, if_neg e2], ⟨fun h => absurd h e2, fun h => absurd h e1⟩⟩
theorem grown_set {w : World} {g j : Nat} {u : Value} : w.grownBy (w.setCell ⟨g, j, none⟩ u) (some g) :=
  ⟨rfl, rfl, rfl, by simp, fun k _ hk => heap_setCell_other w ⟨g, j, none⟩ k u (fun e => hk (by simp [e]))⟩
theorem grown_trans {w w1 w2 : World} {r : Option Nat} (h : w.grownBy w1 r) (k : w1.grownBy w2 r) : w.grownBy w2 r :=
  ⟨k.os.trans h.os, k.tape.trans h.tape, k.output.trans h.output, Nat.le_trans h.size k.size, fun i hi hr => (k.block i (Nat.lt_of_lt_of_le hi h.size) hr).trans (h.block i hi hr)⟩
theorem grown_dr {w w' : World} {q : Nat} {r : Option Nat} (h : (w.drewN q).grownBy w' r) : w.grownBy w' r := ⟨h.os, h.tape, h.output, h.size, h.block⟩
end Go.Proofs.YtdppooflbjlbcaaDoor.I
