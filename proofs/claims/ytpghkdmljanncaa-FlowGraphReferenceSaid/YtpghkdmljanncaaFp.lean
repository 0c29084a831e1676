/- Layer 19: distances, pure. -/
import Derived.Test.YtpghkdmljanncaaFd
namespace Go.Proofs.Ytpghkdmljanncaa
open Go.ChangeShapes Go.WideShapes Go.ChangeAt Go.RowKit Go.PlainAid
set_option linter.unusedSimpArgs false
set_option linter.unusedVariables false

/-- what is done with the edges of a -/
def dsIn (a : Int) : List Int → List Int → List Int → List Int × List Int
  | f, q, [] => (f, q)
  | f, q, t :: r => if f.getD t.toNat 0 < 0 then dsIn a (f.set t.toNat (f.getD a.toNat 0 + 1)) (q ++ [t]) r else dsIn a f q r
/-- what is done with the queue -/
def dsOut (c : Cd) : Nat → List Int → List Int → List Int
  | 0, f, _ => f
  | _ + 1, f, [] => f
  | n + 1, f, a :: q => dsOut c n (dsIn a f q (edL c a)).1 (dsIn a f q (edL c a)).2
/-- what is still to come -/
def mu (f q : List Int) : Nat := (f.filter (· < 0)).length + q.length
theorem neg_set : ∀ (f : List Int) (k : Nat) (y : Int), f.getD k 0 < 0 → 0 ≤ y → ((f.set k y).filter (· < 0)).length + 1 = (f.filter (· < 0)).length
  | [], k, y, h, _ => by simp at h
  | x :: f, 0, y, h, hy => by
    simp at h
    rw [List.set_cons_zero, List.filter_cons_of_neg (by simpa using hy), List.filter_cons_of_pos (by simpa using h), List.length_cons]
  | x :: f, k + 1, y, h, hy => by
    have ih := neg_set f k y (by simpa using h) hy
    rw [List.set_cons_succ]
    by_cases hx : x < 0
    · rw [List.filter_cons_of_pos (by simpa using hx), List.filter_cons_of_pos (by simpa using hx), List.length_cons, List.length_cons]; omega
    · rw [List.filter_cons_of_neg (by simpa using hx), List.filter_cons_of_neg (by simpa using hx)]; exact ih
theorem dsIn_mu (a : Int) : ∀ (S f q : List Int), 0 ≤ f.getD a.toNat 0 → mu (dsIn a f q S).1 (dsIn a f q S).2 = mu f q ∧ (dsIn a f q S).1.length = f.length
  | [], f, q, _ => ⟨rfl, rfl⟩
  | t :: r, f, q, h => by
    unfold dsIn
    by_cases ht : f.getD t.toNat 0 < 0
    · rw [if_pos ht]
      have hne : t.toNat ≠ a.toNat := fun e => by rw [e] at ht; omega
      have hg : (f.set t.toNat (f.getD a.toNat 0 + 1)).getD a.toNat 0 = f.getD a.toNat 0 := by
        rw [List.getD_eq_getElem?_getD, List.getElem?_set, if_neg hne, ← List.getD_eq_getElem?_getD]
      have ih := dsIn_mu a r (f.set t.toNat (f.getD a.toNat 0 + 1)) (q ++ [t]) (by rw [hg]; exact h)
      have hn := neg_set f t.toNat (f.getD a.toNat 0 + 1) ht (by omega)
      refine ⟨?_, by rw [ih.2, List.length_set]⟩
      rw [ih.1]
      unfold mu
      rw [List.length_append]
      simp only [List.length_cons, List.length_nil]
      omega
    · rw [if_neg ht]
      exact dsIn_mu a r f q h
/-- the distances -/
def distL (c : Cd) : List Int := if c.n = 0 then [] else dsOut c (c.n + 1) ((List.replicate c.n (-1)).set 0 0) [0]
theorem mu_start {n : Nat} (h : 0 < n) : mu ((List.replicate n (-1)).set 0 0) [0] = n := by
  have := neg_set (List.replicate n (-1)) 0 0 (by rw [List.getD_eq_getElem?_getD, List.getElem?_replicate, if_pos h]; decide) (Int.le_refl _)
  unfold mu
  have h2 : ((List.replicate n (-1 : Int)).filter (· < 0)).length = n := by rw [List.filter_eq_self.2 (fun x hx => by rw [List.eq_of_mem_replicate hx]; decide)]; simp
  simp only [List.length_cons, List.length_nil]
  omega

end Go.Proofs.Ytpghkdmljanncaa
