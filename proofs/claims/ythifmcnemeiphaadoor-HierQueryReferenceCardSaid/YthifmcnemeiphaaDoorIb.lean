/- Layer 16: the chapter's example, pure. -/
import Derived.Test.YthifmcnemeiphaaDoorHx
import Derived.Test.YthifmcnemeiphaaDoorHy
import Derived.Test.YthifmcnemeiphaaDoorHj
namespace Go.Proofs.YthifmcnemeiphaaDoor
open Go.ChangeShapes Go.WideShapes Go.ChangeAt Go.RowKit Go.PlainAid Go.Maps
set_option linter.unusedSimpArgs false
set_option linter.unusedVariables false

abbrev sB : ByteArray := ⟨#[66]⟩
abbrev sA : ByteArray := ⟨#[65]⟩
abbrev sI : ByteArray := ⟨#[73]⟩
def ex (A : Option Addr) : List CI := [⟨sB, sA, none, 0, 0, [], false⟩, ⟨sA, rootS, A, 1, 1, [sI], false⟩, ⟨sI, rootS, none, 0, 0, [], true⟩, ⟨rootS, ⟨#[]⟩, none, 0, 0, [], false⟩]
theorem ceV_zero {L : List CI} {i : Nat} {x : CI} (h1 : clsB x.nm = true) (h2 : fI L x.nm = i) (h3 : decide (x.su.toList.isEmpty ≠ (x.nm.toList == rootL) ∨ (x.isI = true ∧ (x.su.toList == rootL) = false)) = false) (h4 : decide (x.su.toList.isEmpty = false ∧ (fB L x.su = false ∨ (lkC L x.su).isI = true)) = false) (h5 : x.fs.all (ifOk L) = true) (h6 : ¬ Rc L i i) : ceV L i x = 0 := by
  unfold ceV
  rw [if_neg (by rw [h1]; decide), if_neg (by simpa using h2), if_neg (of_decide_eq_false h3), if_neg (of_decide_eq_false h4), if_neg (by rw [h5]; decide), if_neg (by rw [rcB_iff]; exact h6)]
theorem rc_rise {L : List CI} (h : ∀ i j, Ed L i j → i < j) {i j : Nat} (hr : Rc L i j) : i < j := by
  induction hr with
  | one he => exact h _ _ he
  | more _ he ih => exact Nat.lt_trans ih (h _ _ he)
theorem ex_ed (A : Option Addr) (i j : Nat) (h : Ed (ex A) i j) : i < j := by
  obtain ⟨hi, s, hs, hf, _⟩ := h
  have hi4 : i < 4 := hi
  rcases (show i = 0 ∨ i = 1 ∨ i = 2 ∨ i = 3 by omega) with rfl | rfl | rfl | rfl
  · have e : nxt ((ex A)[0]'hi) = [sA] := by kernel_rfl
    rw [e] at hs
    rw [List.mem_singleton.1 hs] at hf
    rw [← hf, show fnd (ex A) sA = 1 by kernel_rfl]; decide
  · have e : nxt ((ex A)[1]'hi) = [rootS, sI] := by kernel_rfl
    rw [e] at hs
    rcases List.mem_cons.1 hs with rfl | hs
    · rw [← hf, show fnd (ex A) rootS = 3 by kernel_rfl]; decide
    · rw [List.mem_singleton.1 hs] at hf
      rw [← hf, show fnd (ex A) sI = 2 by kernel_rfl]; decide
  · have e : nxt ((ex A)[2]'hi) = [rootS] := by kernel_rfl
    rw [e] at hs
    rw [List.mem_singleton.1 hs] at hf
    rw [← hf, show fnd (ex A) rootS = 3 by kernel_rfl]; decide
  · have e : nxt ((ex A)[3]'hi) = [] := by kernel_rfl
    rw [e] at hs
    cases hs
theorem ex_no (A : Option Addr) (i : Nat) : ¬ Rc (ex A) i i := fun h => Nat.lt_irrefl _ (rc_rise (ex_ed A) h)
theorem ex_VH (A : Option Addr) : VH (ex A) := by
  intro i x hx
  have hi : i < 4 := lt_of_some hx
  rcases (show i = 0 ∨ i = 1 ∨ i = 2 ∨ i = 3 by omega) with rfl | rfl | rfl | rfl
  all_goals
    obtain rfl := Option.some.inj hx
    exact ceV_zero (by kernel_rfl) (by kernel_rfl) (by kernel_rfl) (by kernel_rfl) (by kernel_rfl) (ex_no A _)
theorem ex_chk (A : Option Addr) : ChkV (ex A) ⟨#[]⟩ 0 := Or.inr ⟨fun j y h => ex_VH A j y h, rfl, rfl⟩
theorem ex_chk1 (A : Option Addr) : ChkV ((ex A).take 1) sB 33 := by
  refine Or.inl ⟨0, _, rfl, fun j y hj => absurd hj (Nat.not_lt_zero _), ?_, by decide, rfl⟩
  unfold ceV
  rw [if_neg (of_decide_eq_false (by kernel_rfl)), if_neg (of_decide_eq_false (by kernel_rfl)), if_neg (of_decide_eq_false (by kernel_rfl)), if_pos (of_decide_eq_true (by kernel_rfl))]
theorem ex_sup (A : Option Addr) : supL (ex A) sB = [sB, sA, rootS] := by kernel_rfl
theorem ex_r02 (A : Option Addr) : Rc (ex A) 0 2 := by
  refine .more (j := 1) (.one ⟨by show 0 < 4; decide, sA, ?_, by kernel_rfl, by show 1 < 4; decide⟩) ⟨by show 1 < 4; decide, sI, ?_, by kernel_rfl, by show 2 < 4; decide⟩
  · have e : nxt ((ex A)[0]'(by show 0 < 4; decide)) = [sA] := by kernel_rfl
    rw [e]; exact List.mem_singleton.2 rfl
  · have e : nxt ((ex A)[1]'(by show 1 < 4; decide)) = [rootS, sI] := by kernel_rfl
    rw [e]; exact List.mem_cons_of_mem _ (List.mem_singleton.2 rfl)
theorem ex_ifs (A : Option Addr) : ifL (ex A) sB = [sI] := by
  unfold ifL
  rw [if_pos (show fB (ex A) sB = true by kernel_rfl), show fI (ex A) sB = 0 by kernel_rfl, show (ex A).length = 4 by rfl]
  have p0 : itP (ex A) 0 0 = false := by
    unfold itP
    rw [show (((ex A)[0]?).getD zeroCI).isI = false by rfl, Bool.and_false]
  have p1 : itP (ex A) 0 1 = false := by
    unfold itP
    rw [show (((ex A)[1]?).getD zeroCI).isI = false by rfl, Bool.and_false]
  have p2 : itP (ex A) 0 2 = true := by
    unfold itP
    rw [rcB_iff.2 (ex_r02 A)]; rfl
  have p3 : itP (ex A) 0 3 = false := by
    unfold itP
    rw [show (((ex A)[3]?).getD zeroCI).isI = false by rfl, Bool.and_false]
  have e : itF (ex A) 0 4 = [sI] := by
    simp only [itF, p0, p1, p2, p3]
    rfl
  rw [e]
  simp [sortB, rawL, bs]
theorem ex_cs1 (A : Option Addr) : csV (ex A) sB sA = sA := by kernel_rfl
theorem ex_cs2 (A : Option Addr) : csV (ex A) sA sI = rootS := by kernel_rfl
theorem ex_is1 (A : Option Addr) : isV (ex A) sB sI = true := by
  unfold isV
  rw [show fI (ex A) sB = 0 by kernel_rfl, show fI (ex A) sI = 2 by kernel_rfl, rcB_iff.2 (ex_r02 A)]
  kernel_rfl
theorem ex_is2 (A : Option Addr) : isV (ex A) sA sB = false := by
  unfold isV
  rw [show fI (ex A) sA = 1 by kernel_rfl, show fI (ex A) sB = 0 by kernel_rfl, show rcB (ex A) 1 0 = false from by
    cases h : rcB (ex A) 1 0 with
    | false => rfl
    | true => exact absurd (rc_rise (ex_ed A) (rcB_iff.1 h)) (by decide)]
  kernel_rfl
end Go.Proofs.YthifmcnemeiphaaDoor
