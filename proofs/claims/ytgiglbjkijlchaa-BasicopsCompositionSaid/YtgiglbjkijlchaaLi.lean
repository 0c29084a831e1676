/- Layer 42: running m and then n instructions (pure). -/
import Derived.Test.YtgiglbjkijlchaaRu
namespace Go.Proofs.Ytgiglbjkijlchaa
open Go.ChangeShapes Go.WideShapes Go.ChangeAt Go.RowKit Go.PlainAid
set_option linter.unusedSimpArgs false
set_option linter.unusedVariables false

theorem runS_add (l : List In) (n : Nat) : ∀ (m : Nat) (a : Sp), (((runS l m a).2.2 ≠ 0 ∨ (runS l m a).2.1 < m) → runS l (m + n) a = runS l m a) ∧ (((runS l m a).2.2 = 0 ∧ ¬ (runS l m a).2.1 < m) → (runS l m a).2.1 = m ∧ runS l (m + n) a = addN m (runS l n (runS l m a).1))
  | 0, a => by
    rw [Nat.zero_add]
    refine ⟨fun h => ?_, fun _ => ⟨rfl, ?_⟩⟩
    · rcases h with h | h
      · exact absurd rfl h
      · exact absurd h (Nat.not_lt_zero _)
    · show runS l n a = addN 0 (runS l n a)
      unfold addN
      simp
  | m + 1, a => by
    have ha : m + 1 + n = (m + n) + 1 := by omega
    cases hi : insAt l a.h.pc with
    | none =>
      rw [runS_none hi, runS_none hi]
      exact ⟨fun _ => rfl, fun h => absurd (Nat.succ_pos m) h.2⟩
    | some i =>
      cases ho : ownI i with
      | false =>
        rw [runS_not hi ho, runS_not hi ho]
        exact ⟨fun _ => rfl, fun h => absurd (Nat.succ_pos m) h.2⟩
      | true =>
        by_cases he : execE i a = 0
        · rw [ha, runS_ok hi ho he, runS_ok hi ho he]
          obtain ⟨h1, h2⟩ := runS_add l n m (execS i a)
          constructor
          · intro h
            rw [h1 (by
              rcases h with h | h
              · exact Or.inl h
              · exact Or.inr (by unfold addN at h; dsimp only at h; omega))]
          · intro h
            obtain ⟨g1, g2⟩ := h2 ⟨h.1, fun g => h.2 (by unfold addN; dsimp only; omega)⟩
            refine ⟨by unfold addN; dsimp only; omega, ?_⟩
            rw [g2, addN_addN]
            rfl
        · rw [ha, runS_err hi ho he, runS_err hi ho he]
          exact ⟨fun _ => rfl, fun h => absurd h.1 he⟩
theorem runS_fit {l : List In} (hf : InsFit l) : ∀ (k : Nat) (a : Sp), VsIn a.ls → VsIn a.ss → VsIn (runS l k a).1.ls ∧ VsIn (runS l k a).1.ss ∧ (runS l k a).1.ls.length = a.ls.length ∧ (runS l k a).1.ss.length ≤ a.ss.length + 3 * k ∧ (runS l k a).2.1 ≤ k
  | 0, a, h1, h2 => ⟨h1, h2, rfl, Nat.le_refl _, Nat.le_refl _⟩
  | k + 1, a, h1, h2 => by
    cases hi : insAt l a.h.pc with
    | none => rw [runS_none hi]; exact ⟨h1, h2, rfl, by show a.ss.length ≤ _; omega, Nat.zero_le _⟩
    | some i =>
      cases ho : ownI i with
      | false => rw [runS_not hi ho]; exact ⟨h1, h2, rfl, by show a.ss.length ≤ _; omega, Nat.zero_le _⟩
      | true =>
        by_cases he : execE i a = 0
        · rw [runS_ok hi ho he]
          have hin := exec_in (i := i) h1 h2 (hf.a i (insAt_mem hi))
          have hln := exec_len i a
          obtain ⟨g1, g2, g3, g4, g5⟩ := runS_fit hf k (execS i a) hin.1 hin.2
          unfold addN
          exact ⟨g1, g2, g3.trans hln.1, by dsimp only; omega, by dsimp only; omega⟩
        · rw [runS_err hi ho he]; exact ⟨h1, h2, rfl, by show a.ss.length ≤ _; omega, Nat.zero_le _⟩
theorem ins_fit {w : World} {B : Nat} {A : Option Addr} {l : List In} (h : Ins w B A l) (ha : ∀ i ∈ l, Rg i.a) : InsFit l := by
  rcases h with h | ⟨g, o, hA, hg, hc⟩
  · subst h
    exact ⟨fun i hi => (by cases hi), fun i hi => (by cases hi), fun i hi => (by cases hi)⟩
  · refine ⟨fun i hi => ?_, fun i hi => ?_, ha⟩
    · obtain ⟨k, hk⟩ := List.mem_iff_getElem?.1 hi
      have := (hc k i hk).1
      exact Nat.le_trans this.2.1 this.2.2.1
    · obtain ⟨k, hk⟩ := List.mem_iff_getElem?.1 hi
      have := (hc k i hk).1
      exact Nat.le_trans this.2.2.2.2.2.1 this.2.2.2.2.2.2.1
end Go.Proofs.Ytgiglbjkijlchaa
