/- Layer 42: the reference's hand, as pure functions, beside the program's. -/
import Derived.Test.YtgiglbjkijlchaaExl
namespace Go.Proofs.Ytgiglbjkijlchaa
open Go.ChangeShapes Go.WideShapes Go.ChangeAt Go.RowKit Go.PlainAid
set_option linter.unusedSimpArgs false
set_option linter.unusedVariables false

/-- the reference's take: 0 stands for any kind -/
def takeV (r : Rs) : Va := if r.ss = [] ∨ r.e ≠ 0 then (0, 0) else topV r.ss
def takeS (k : Int) (r : Rs) : Rs :=
  if r.ss = [] then failS 20 r else if r.e ≠ 0 then r
  else if k ≠ 0 ∧ (topV r.ss).1 ≠ k then failS 22 { r with ss := r.ss.dropLast } else { r with ss := r.ss.dropLast }
def putS (k n : Int) (r : Rs) : Rs := if r.e = 0 then pushS k n r else r
/-- the same error; without one, the same state -/
def Sim (r q : Rs) : Prop := r.e = q.e ∧ (r.e = 0 → r = q)
theorem Sim.refl (r : Rs) : Sim r r := ⟨rfl, fun _ => rfl⟩
theorem sim_fail {r q : Rs} (x : Int) (h : Sim r q) : Sim (failS x r) (failS x q) := by
  unfold failS
  by_cases h0 : r.e = 0
  · rw [if_pos h0, if_pos (h.1 ▸ h0), h.2 h0]; exact Sim.refl _
  · rw [if_neg h0, if_neg (h.1 ▸ h0)]; exact h
theorem popAnyS_e {q : Rs} (h : q.e ≠ 0) : (popAnyS q).e = q.e := by unfold popAnyS failS; split <;> simp [h]
theorem popS_e {k : Int} {q : Rs} (h : q.e ≠ 0) : (popS k q).e = q.e := by
  have h1 := popAnyS_e h
  unfold popS
  split
  · exact h1
  · unfold failS; rw [if_neg (by rw [h1]; exact h)]; exact h1
theorem takeS_e {k : Int} {r : Rs} (h : r.e ≠ 0) : (takeS k r).e = r.e := by unfold takeS failS; split <;> simp [h]
theorem sim_any {r q : Rs} (h : Sim r q) : Sim (takeS 0 r) (popAnyS q) := by
  by_cases h0 : r.e = 0
  · have e := h.2 h0
    subst e
    unfold takeS popAnyS
    split
    · exact Sim.refl _
    · rw [if_neg (fun g => g h0), if_neg (fun g => g.1 rfl)]; exact Sim.refl _
  · have hq : q.e ≠ 0 := h.1 ▸ h0
    exact ⟨by rw [takeS_e h0, popAnyS_e hq]; exact h.1, fun e => absurd ((takeS_e (k := 0) h0).symm.trans e) h0⟩
theorem sim_pop {r q : Rs} {k : Int} (hk : k ≠ 0) (h : Sim r q) : Sim (takeS k r) (popS k q) := by
  by_cases h0 : r.e = 0
  · have e := h.2 h0
    subst e
    by_cases hn : r.ss = []
    · have h1 : popAnyS r = failS 20 r := if_pos hn
      have h2 : (failS 20 r).e ≠ 0 := by unfold failS; rw [if_pos h0]; exact (by decide : (20 : Int) ≠ 0)
      have h3 : popS k r = failS 20 r := by
        unfold popS
        rw [h1]
        split
        · rfl
        · exact if_neg h2
      rw [show takeS k r = failS 20 r from if_pos hn, h3]; exact Sim.refl _
    · have h1 : popAnyS r = { r with ss := r.ss.dropLast } := if_neg hn
      unfold takeS popS
      rw [if_neg hn, if_neg (fun g => g h0), h1]
      by_cases hv : (topV r.ss).1 = k
      · rw [if_neg (fun g => g.2 hv), if_pos hv]; exact Sim.refl _
      · rw [if_pos ⟨hk, hv⟩, if_neg hv]; exact Sim.refl _
  · have hq : q.e ≠ 0 := h.1 ▸ h0
    exact ⟨by rw [takeS_e h0, popS_e hq]; exact h.1, fun e => absurd ((takeS_e (k := k) h0).symm.trans e) h0⟩
theorem sim_put {r q : Rs} (k n : Int) (h : Sim r q) : Sim (putS k n r) (pushS k n q) := by
  by_cases h0 : r.e = 0
  · have e := h.2 h0
    subst e
    rw [show putS k n r = pushS k n r from if_pos h0]; exact Sim.refl _
  · rw [show putS k n r = r from if_neg h0]
    exact ⟨h.1, fun e => absurd e h0⟩
/-- the reference's local and set -/
def atV (n : Int) (ls : List Va) : Option Va := if n < 0 then none else ls[n.toNat]?
def locRS (n k : Int) (r : Rs) : Rs := match atV n r.ls with | none => failS 21 r | some p => if k ≠ 0 ∧ p.1 ≠ k then failS 21 r else r
def locRV (n : Int) (r : Rs) : Va := (atV n r.ls).getD (0, 0)
def setRS (n : Int) (v : Va) (r : Rs) : Rs := if (locRS n 0 r).e ≠ 0 then locRS n 0 r else { r with ls := r.ls.set n.toNat v }
theorem failS_e {x : Int} {r : Rs} (h : r.e ≠ 0) : failS x r = r := if_neg h
theorem locRS_eq {n k : Int} {r : Rs} (hk : k ≠ 0) : locRS n k r = localS n k r := by
  unfold locRS localS atV locO
  by_cases h0 : n < 0
  · rw [if_pos h0, if_pos h0]
  · rw [if_neg h0, if_neg h0]
    cases r.ls[n.toNat]? with
    | none => rfl
    | some p =>
      dsimp only
      by_cases h1 : p.1 = k
      · rw [if_neg (fun g => g.2 h1), if_pos h1]
      · rw [if_pos ⟨hk, h1⟩, if_neg h1]
theorem localS_e {n k : Int} {q : Rs} (h : q.e ≠ 0) : localS n k q = q := by unfold localS; split; rfl; exact failS_e h
theorem sim_local {r q : Rs} {n k : Int} (hk : k ≠ 0) (h : Sim r q) : Sim (locRS n k r) (localS n k q) := by
  rw [locRS_eq hk]
  by_cases h0 : r.e = 0
  · rw [h.2 h0]; exact Sim.refl _
  · rw [localS_e h0, localS_e (h.1 ▸ h0)]; exact h
theorem locRV_eq {n k : Int} {r : Rs} (h : (localS n k r).e = 0) (hr : r.e = 0) : locRV n r = (k, localV n k r.ls) := by
  have hf : ∀ r' : Rs, r'.e = 0 → (failS 21 r').e ≠ 0 := fun r' h' => by unfold failS; rw [if_pos h']; exact (by decide : (21 : Int) ≠ 0)
  unfold localS at h
  unfold locRV atV localV
  unfold locO at h ⊢
  by_cases h0 : n < 0
  · rw [if_pos h0] at h; exact absurd h (hf _ hr)
  · rw [if_neg h0] at h
    rw [if_neg h0, if_neg h0]
    cases hq : r.ls[n.toNat]? with
    | none => rw [hq] at h; exact absurd h (hf _ hr)
    | some p =>
      rw [hq] at h
      dsimp only at h ⊢
      by_cases h1 : p.1 = k
      · rw [if_pos h1]; show p = (k, p.2); rw [← h1]
      · rw [if_neg h1] at h; exact absurd h (hf _ hr)
theorem sim_set {r q : Rs} {n : Int} {v v' : Va} (h : Sim r q) (hv : r.e = 0 → v = v') : Sim (setRS n v r) (setS n v' q) := by
  by_cases h0 : r.e = 0
  · rw [← h.2 h0, ← hv h0]
    have hf : (failS 21 r).e ≠ 0 := by unfold failS; rw [if_pos h0]; exact (by decide : (21 : Int) ≠ 0)
    by_cases h1 : 0 ≤ n ∧ n < r.ls.length
    · have hg : r.ls[n.toNat]? = some (r.ls[n.toNat]'(by omega)) := List.getElem?_eq_getElem _
      have hL : locRS n 0 r = r := by
        unfold locRS atV
        rw [if_neg (by omega : ¬ n < 0), hg]
        exact if_neg (fun g => g.1 rfl)
      rw [show setS n v r = { r with ls := r.ls.set n.toNat v } from if_pos h1]
      unfold setRS
      rw [hL, if_neg (fun g => g h0)]
      exact Sim.refl _
    · have hL : locRS n 0 r = failS 21 r := by
        unfold locRS atV
        by_cases h2 : n < 0
        · rw [if_pos h2]
        · rw [if_neg h2, List.getElem?_eq_none (by omega)]
      rw [show setS n v r = failS 21 r from if_neg h1]
      unfold setRS
      rw [hL, if_pos hf]
      exact Sim.refl _
  · have hl : locRS n 0 r = r := by
      unfold locRS
      split
      · exact failS_e h0
      · split
        · exact failS_e h0
        · rfl
    have hs : (setS n v' q).e = q.e := by unfold setS; split; rfl; rw [failS_e (h.1 ▸ h0)]
    have hr : setRS n v r = r := by unfold setRS; rw [hl, if_pos h0]
    rw [hr]
    exact ⟨by rw [hs]; exact h.1, fun e => absurd e h0⟩
end Go.Proofs.Ytgiglbjkijlchaa
