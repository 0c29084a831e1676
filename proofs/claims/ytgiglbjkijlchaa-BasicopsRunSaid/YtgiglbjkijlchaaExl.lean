/- Layer 42: lengths under execution. -/
import Derived.Test.YtgiglbjkijlchaaExp
namespace Go.Proofs.Ytgiglbjkijlchaa
open Go.ChangeShapes Go.WideShapes Go.ChangeAt Go.RowKit Go.PlainAid
set_option linter.unusedSimpArgs false
set_option linter.unusedVariables false

theorem runI_ls (i : In) (r : Rs) : (runI i r).ls.length = r.ls.length := by
  unfold runI
  split
  · rw [brS_ls]
  · split
    · rw [compS_ls]
    · split
      · rw [shufS_ls]
      · split
        · rw [accessS_len]
        · rw [constS_ls]
theorem constS_sl (i : In) (r : Rs) : (constS i r).ss.length ≤ r.ss.length + 3 := by
  unfold constS pushS
  split
  · simp
  · split
    · simp
    · split <;> simp
theorem accessS_sl (i : In) (r : Rs) : (accessS i r).ss.length ≤ r.ss.length + 3 := by
  unfold accessS pushS
  split
  · simp [localS_ss]
  · split
    · rw [setS_ss]; have := popS_ss (i.op - 6) r; omega
    · rw [setS_ss, localS_ss]; omega
theorem shufS_sl (op : Int) (r : Rs) : (shufS op r).ss.length ≤ r.ss.length + 3 := by
  have h1 := popAnyS_ss r
  have h2 := popAnyS_ss (popAnyS r)
  unfold shufS
  split
  · simp only [List.length_append, List.length_cons, List.length_nil]; omega
  · split
    · simp only [List.length_append, List.length_cons, List.length_nil]; omega
    · split
      · simp only [List.length_append, List.length_cons, List.length_nil]; omega
      · omega
theorem compS_sl (op : Int) (r : Rs) : (compS op r).ss.length ≤ r.ss.length + 3 := by
  have h1 := popS_ss (fromK op) r
  have h2 := popS_ss (fromK op) (popS (fromK op) r)
  unfold compS pushS
  split
  · simp only [List.length_append, List.length_cons, List.length_nil, errS_ss]; omega
  · simp only [List.length_append, List.length_cons, List.length_nil, errS_ss]; omega
theorem brS_sl (i : In) (r : Rs) : (brS i r).ss.length ≤ r.ss.length + 3 := by
  have h1 := popS_ss 1 r
  have h2 := popS_ss 1 (popS 1 r)
  have h3 := popS_ss 3 r
  have h4 := popS_ss 3 (popS 3 r)
  unfold brS
  split
  · omega
  · split
    · omega
    · split
      · omega
      · split <;> omega
theorem runI_sl (i : In) (r : Rs) : (runI i r).ss.length ≤ r.ss.length + 3 := by
  unfold runI
  split
  · exact brS_sl i r
  · split
    · exact compS_sl _ r
    · split
      · exact shufS_sl _ r
      · split
        · exact accessS_sl i r
        · exact constS_sl i r
theorem exec_len (i : In) (a : Sp) : (execS i a).ls.length = a.ls.length ∧ (execS i a).ss.length ≤ a.ss.length + 3 := by
  unfold execS
  split
  · exact ⟨rfl, by omega⟩
  · exact ⟨runI_ls i ⟨a.ls, a.ss, 0⟩, runI_sl i ⟨a.ls, a.ss, 0⟩⟩
end Go.Proofs.Ytgiglbjkijlchaa
