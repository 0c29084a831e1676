/- The statements of layer 1 that do not need the reference: the examples, and that of each condition and its negation exactly one holds. -/
import Derived.Test.YtgiglbjkijlchaaNumTwo
namespace Go.Proofs.Ytgiglbjkijlchaa
open Go.ChangeShapes Go.WideShapes Go.ChangeAt Go.RowKit
set_option linter.unusedSimpArgs false
set_option linter.unusedVariables false

theorem grown_eq {w w' : World} (h : w = w') : Grown w w' := by subst h; exact Grown.refl _

theorem cmpI_cases (a b : Int) : cmpI a b = -1 ∨ cmpI a b = 0 ∨ cmpI a b = 1 := by
  unfold cmpI; split
  · simp
  · split <;> simp

theorem cond_neg (i a b : Int) (h0 : i = 0 ∨ i = 1 ∨ i = 2 ∨ i = 3 ∨ i = 4 ∨ i = 5) : (condV (36 + 2 * i) a b != condV (37 + 2 * i) a b) = true := by
  have hc := cmpI_cases (wrap32 a) 0
  have hd := cmpI_cases (wrap32 a) (wrap32 b)
  unfold condV
  generalize cmpI (wrap32 a) 0 = x at *
  generalize cmpI (wrap32 a) (wrap32 b) = y at *
  rcases h0 with rfl | rfl | rfl | rfl | rfl | rfl <;> rcases hc with rfl | rfl | rfl <;> rcases hd with rfl | rfl | rfl <;> decide +kernel

theorem neg_one (i op a b : Int) (hop : op = 36 + 2 * i) (h0 : i = 0 ∨ i = 1 ∨ i = 2 ∨ i = 3 ∨ i = 4 ∨ i = 5) :
    (condV op a b = true ∧ condV (op + 1) a b = false ∨ condV op a b = false ∧ condV (op + 1) a b = true) ∧ condE op = 0 ∧ condE (op + 1) = 0 := by
  have h := cond_neg i a b h0
  refine ⟨?_, ?_⟩
  · have e : op + 1 = 37 + 2 * i := by omega
    rw [e, hop]
    generalize condV (36 + 2 * i) a b = x at *
    generalize condV (37 + 2 * i) a b = y at *
    revert h; cases x <;> cases y <;> decide
  · unfold condE; constructor <;> rw [if_neg (by omega)]

end Go.Proofs.Ytgiglbjkijlchaa
