/- Layer 42: what execution changes, and what undoes it (pure). -/
import Derived.Test.YtgiglbjkijlchaaExr
namespace Go.Proofs.Ytgiglbjkijlchaa
open Go.ChangeShapes Go.WideShapes Go.ChangeAt Go.RowKit Go.PlainAid
set_option linter.unusedSimpArgs false
set_option linter.unusedVariables false

theorem failS_ne {x : Int} {r : Rs} (hx : x ≠ 0) : (failS x r).e ≠ 0 := by
  unfold failS
  split
  · exact hx
  · assumption
theorem topV_cc (M : List Va) (y : Va) : topV (M ++ [y]) = y := by simp [topV]
theorem top_split {ss : List Va} (h : ss ≠ []) : ss = ss.dropLast ++ [topV ss] := by
  have := List.dropLast_concat_getLast h
  unfold topV
  rw [List.getLast?_eq_some_getLast h]
  exact this.symm
theorem popAny_ok {r : Rs} (h : (popAnyS r).e = 0) : r.e = 0 ∧ r.ss = (popAnyS r).ss ++ [topV r.ss] ∧ (popAnyS r).ls = r.ls := by
  unfold popAnyS at h ⊢
  split at h
  · exact absurd h (failS_ne (by decide))
  · rename_i hn
    rw [if_neg hn]
    exact ⟨h, top_split hn, rfl⟩
theorem pop_ok {k : Int} {r : Rs} (h : (popS k r).e = 0) : r.e = 0 ∧ r.ss = (popS k r).ss ++ [topV r.ss] ∧ (popS k r).ls = r.ls ∧ (topV r.ss).1 = k := by
  unfold popS at h ⊢
  split at h
  · rename_i hk
    rw [if_pos hk]
    obtain ⟨h1, h2, h3⟩ := popAny_ok h
    exact ⟨h1, h2, h3, hk⟩
  · exact absurd h (failS_ne (by decide))
theorem err_ok {x : Int} {r : Rs} (h : (errS x r).e = 0) : errS x r = r := by
  unfold errS at h ⊢
  split at h
  · rename_i hx; rw [if_pos hx]
  · rename_i hx; exact absurd h (failS_ne hx)
theorem loc_ok {n k : Int} {r : Rs} (h : (localS n k r).e = 0) : localS n k r = r ∧ 0 ≤ n ∧ r.ls[n.toNat]? = some (k, localV n k r.ls) := by
  unfold localS at h ⊢
  unfold localV
  cases hq : locO n k r.ls with
  | none => rw [hq] at h; exact absurd h (failS_ne (by decide))
  | some v =>
    unfold locO at hq
    split at hq
    · cases hq
    · rename_i hn
      cases hp : r.ls[n.toNat]? with
      | none => rw [hp] at hq; cases hq
      | some p =>
        rw [hp] at hq
        dsimp only at hq
        split at hq
        · rename_i hk
          have hv := Option.some.inj hq
          refine ⟨rfl, by omega, ?_⟩
          obtain ⟨p1, p2⟩ := p
          dsimp only at hk hv
          rw [hk, hv]; rfl
        · cases hq
theorem set_ok {n : Int} {v : Va} {r : Rs} (h : (setS n v r).e = 0) : r.e = 0 ∧ setS n v r = { r with ls := r.ls.set n.toNat v } ∧ 0 ≤ n ∧ n.toNat < r.ls.length := by
  unfold setS at h ⊢
  split at h
  · rename_i hc
    rw [if_pos hc]
    exact ⟨h, rfl, hc.1, by omega⟩
  · exact absurd h (failS_ne (by decide))
/-- what a run without error has changed -/
def Eff (r q : Rs) : Prop := (q.ls = r.ls ∨ ∃ (n : Nat) (v : Va), q.ls = r.ls.set n v) ∧ ∃ M D T : List Va, r.ss = M ++ D ∧ q.ss = M ++ T ∧ D.length ≤ 2 ∧ T.length ≤ D.length + 1
theorem eff0 {r q : Rs} {T : List Va} (hl : q.ls = r.ls ∨ ∃ (n : Nat) (v : Va), q.ls = r.ls.set n v) (hs : q.ss = r.ss ++ T) (hT : T.length ≤ 1) : Eff r q := ⟨hl, r.ss, [], T, by simp, hs, by simp, by simpa using hT⟩
theorem eff1 {r r1 q : Rs} {y : Va} {T : List Va} (h1 : r.ss = r1.ss ++ [y]) (hl : q.ls = r.ls ∨ ∃ (n : Nat) (v : Va), q.ls = r.ls.set n v) (hs : q.ss = r1.ss ++ T) (hT : T.length ≤ 2) : Eff r q := ⟨hl, r1.ss, [y], T, h1, hs, by simp, by simpa using hT⟩
theorem eff2 {r r1 r2 q : Rs} {y x : Va} {T : List Va} (h1 : r.ss = r1.ss ++ [y]) (h2 : r1.ss = r2.ss ++ [x]) (hl : q.ls = r.ls ∨ ∃ (n : Nat) (v : Va), q.ls = r.ls.set n v) (hs : q.ss = r2.ss ++ T) (hT : T.length ≤ 3) : Eff r q :=
  ⟨hl, r2.ss, [x, y], T, by rw [h1, h2]; simp, hs, by simp, by simpa using hT⟩
theorem eff_const {i : In} {r : Rs} : Eff r (constS i r) := by
  unfold constS pushS
  split
  · exact eff0 (Or.inl rfl) rfl (by simp)
  · split
    · exact eff0 (Or.inl rfl) rfl (by simp)
    · split
      · exact eff0 (T := []) (Or.inl rfl) (by simp) (by simp)
      · exact eff0 (Or.inl rfl) rfl (by simp)
theorem eff_access {i : In} {r : Rs} (h : (accessS i r).e = 0) : Eff r (accessS i r) := by
  unfold accessS at h ⊢
  split at h
  · rename_i hc
    rw [if_pos hc]
    have hl := (loc_ok h).1
    unfold pushS
    rw [hl]
    exact eff0 (Or.inl rfl) rfl (by simp)
  · rename_i hc
    rw [if_neg hc]
    split at h
    · rename_i hd
      rw [if_pos hd]
      obtain ⟨h1, h2, _, _⟩ := set_ok h
      obtain ⟨_, p2, p3, _⟩ := pop_ok h1
      rw [h2]
      exact eff1 (T := []) p2 (Or.inr ⟨_, _, by rw [← p3]⟩) (by simp) (by simp)
    · rename_i hd
      rw [if_neg hd]
      obtain ⟨h1, h2, _, _⟩ := set_ok h
      have hl := (loc_ok h1).1
      rw [h2, hl]
      exact eff0 (T := []) (Or.inr ⟨_, _, rfl⟩) (by simp) (by simp)
theorem eff_shuf {op : Int} {r : Rs} (h : (shufS op r).e = 0) : Eff r (shufS op r) := by
  unfold shufS at h ⊢
  split at h
  · rename_i hc
    rw [if_pos hc]
    obtain ⟨_, p2, p3⟩ := popAny_ok h
    exact eff1 p2 (Or.inl p3) rfl (by simp)
  · rename_i hc
    rw [if_neg hc]
    split at h
    · rename_i hd
      rw [if_pos hd]
      obtain ⟨h1, p2, p3⟩ := popAny_ok h
      obtain ⟨_, q2, q3⟩ := popAny_ok h1
      exact eff2 q2 p2 (Or.inl (p3.trans q3)) rfl (by simp)
    · rename_i hd
      rw [if_neg hd]
      split at h
      · rename_i hf
        rw [if_pos hf]
        obtain ⟨h1, p2, p3⟩ := popAny_ok h
        obtain ⟨_, q2, q3⟩ := popAny_ok h1
        exact eff2 q2 p2 (Or.inl (p3.trans q3)) rfl (by simp)
      · rename_i hf
        rw [if_neg hf]
        obtain ⟨_, p2, p3⟩ := popAny_ok h
        exact eff1 (T := []) p2 (Or.inl p3) (by simp) (by simp)
theorem eff_comp {op : Int} {r : Rs} (h : (compS op r).e = 0) : Eff r (compS op r) := by
  unfold compS at h ⊢
  split at h
  · rename_i hc
    rw [if_pos hc]
    have hs := err_ok h
    unfold pushS at h ⊢
    dsimp only at h
    rw [hs] at h ⊢
    obtain ⟨_, p2, p3, _⟩ := pop_ok h
    exact eff1 p2 (Or.inl p3) rfl (by simp)
  · rename_i hc
    rw [if_neg hc]
    have hs := err_ok h
    unfold pushS at h ⊢
    dsimp only at h
    rw [hs] at h ⊢
    obtain ⟨h1, p2, p3, _⟩ := pop_ok h
    obtain ⟨_, q2, q3, _⟩ := pop_ok h1
    exact eff2 q2 p2 (Or.inl (p3.trans q3)) rfl (by simp)
theorem eff_br {i : In} {r : Rs} (h : (brS i r).e = 0) : Eff r (brS i r) := by
  have two : ∀ k, (popS k (popS k r)).e = 0 → Eff r (popS k (popS k r)) := fun k h => by
    obtain ⟨h1, p2, p3, _⟩ := pop_ok h
    obtain ⟨_, q2, q3, _⟩ := pop_ok h1
    exact eff2 (T := []) q2 p2 (Or.inl (p3.trans q3)) (by simp) (by simp)
  have one : ∀ k, (popS k r).e = 0 → Eff r (popS k r) := fun k h => by
    obtain ⟨_, q2, q3, _⟩ := pop_ok h
    exact eff1 (T := []) q2 (Or.inl q3) (by simp) (by simp)
  unfold brS at h ⊢
  split at h
  · rename_i hc; rw [if_pos hc]; exact two _ h
  · rename_i hc
    rw [if_neg hc]
    split at h
    · rename_i hd; rw [if_pos hd]; exact one _ h
    · rename_i hd
      rw [if_neg hd]
      split at h
      · rename_i hf; rw [if_pos hf]; exact two _ h
      · rename_i hf
        rw [if_neg hf]
        split at h
        · rename_i hg; rw [if_pos hg]; exact eff0 (T := []) (Or.inl rfl) (by simp) (by simp)
        · rename_i hg; rw [if_neg hg]; exact one _ h
theorem eff_run {i : In} {r : Rs} (h : (runI i r).e = 0) : Eff r (runI i r) := by
  unfold runI at h ⊢
  split at h
  · rename_i hc; rw [if_pos hc]; exact eff_br h
  · rename_i hc
    rw [if_neg hc]
    split at h
    · rename_i hd; rw [if_pos hd]; exact eff_comp h
    · rename_i hd
      rw [if_neg hd]
      split at h
      · rename_i hf; rw [if_pos hf]; exact eff_shuf h
      · rename_i hf
        rw [if_neg hf]
        split at h
        · rename_i hg; rw [if_pos hg]; exact eff_access h
        · rename_i hg; rw [if_neg hg]; exact eff_const
theorem exec_own {i : In} {a : Sp} (h : execE i a = 0) : ownI i = true ∧ (runI i ⟨a.ls, a.ss, 0⟩).e = 0 ∧ execS i a = ⟨{ a.h with pc := nextI i ⟨a.ls, a.ss, 0⟩ a.h.pc }, (runI i ⟨a.ls, a.ss, 0⟩).ls, (runI i ⟨a.ls, a.ss, 0⟩).ss⟩ := by
  have ho : ownI i = true := by
    refine Classical.byContradiction fun ho => ?_
    unfold execE at h
    rw [if_neg ho] at h
    exact absurd h (by decide)
  refine ⟨ho, ?_, if_neg (fun g => g h)⟩
  unfold execE at h
  rw [if_pos ho] at h
  exact h
/-- what Execute changes -/
theorem exec_eff {i : In} {a : Sp} (h : execE i a = 0) : (execS i a).h = { a.h with pc := (execS i a).h.pc } ∧ Eff ⟨a.ls, a.ss, 0⟩ ⟨(execS i a).ls, (execS i a).ss, 0⟩ := by
  obtain ⟨ho, he, hs⟩ := exec_own h
  rw [hs]
  exact ⟨rfl, eff_run he⟩
theorem eff_take {r q : Rs} (h : Eff r q) (d : Nat) (hd : d ≤ r.ss.length - 2) : r.ss.take d = q.ss.take d ∧ q.ss.length ≤ r.ss.length + 1 ∧ r.ss.length ≤ q.ss.length + 2 := by
  obtain ⟨_, M, D, T, h1, h2, h3, h4⟩ := h
  rw [h1] at hd
  rw [List.length_append] at hd
  have hM : d ≤ M.length := by omega
  rw [h1, h2, List.take_append_of_le_length hM, List.take_append_of_le_length hM, List.length_append, List.length_append]
  exact ⟨rfl, by omega, by omega⟩
/-- the pairs of the chapter: the second undoes the first -/
theorem inv_shape {i j : In} {h : Hd8} {ls ss : List Va} (hi : i.op < 36) (hj : j.op < 36) (hoj : ownI j = true) (he : execE i ⟨h, ls, ss⟩ = 0)
    (hr : (runI i ⟨ls, ss, 0⟩).e = 0 → runI j ⟨(runI i ⟨ls, ss, 0⟩).ls, (runI i ⟨ls, ss, 0⟩).ss, 0⟩ = ⟨ls, ss, 0⟩) :
    execE j (execS i ⟨h, ls, ss⟩) = 0 ∧ execS j (execS i ⟨h, ls, ss⟩) = ⟨{ h with pc := wrap64 (wrap64 (h.pc + 1) + 1) }, ls, ss⟩ := by
  obtain ⟨ho, h0, hs⟩ := exec_own he
  have hx := hr h0
  rw [hs]
  have hE : execE j ⟨{ h with pc := nextI i ⟨ls, ss, 0⟩ h.pc }, (runI i ⟨ls, ss, 0⟩).ls, (runI i ⟨ls, ss, 0⟩).ss⟩ = 0 := by
    unfold execE
    rw [if_pos hoj]
    exact congrArg Rs.e hx
  refine ⟨hE, ?_⟩
  obtain ⟨_, _, hs2⟩ := exec_own hE
  rw [hs2]
  dsimp only
  rw [hx]
  have n1 : nextI i ⟨ls, ss, 0⟩ h.pc = wrap64 (h.pc + 1) := if_neg (fun g => by omega)
  have n2 : nextI j ⟨(runI i ⟨ls, ss, 0⟩).ls, (runI i ⟨ls, ss, 0⟩).ss, 0⟩ (nextI i ⟨ls, ss, 0⟩ h.pc) = wrap64 (wrap64 (h.pc + 1) + 1) := by
    rw [n1]; exact if_neg (fun g => by omega)
  rw [n2]
def insX (op l : Int) : In := ⟨op, l, 0, 0, none, 0, 0, [], none, 0, 0, [], ⟨#[]⟩, ⟨#[]⟩, ⟨#[]⟩, ⟨#[]⟩⟩
theorem popAny_cc (ls M : List Va) (y : Va) : popAnyS ⟨ls, M ++ [y], 0⟩ = ⟨ls, M, 0⟩ := by unfold popAnyS; simp
theorem rs_eta {r : Rs} (h : r.e = 0) : r = ⟨r.ls, r.ss, 0⟩ := by obtain ⟨a, b, c⟩ := r; dsimp only at h; subst h; rfl
theorem inv_swap {l : Int} {ls ss : List Va} (h : (runI (insX 14 l) ⟨ls, ss, 0⟩).e = 0) : runI (insX 14 l) ⟨(runI (insX 14 l) ⟨ls, ss, 0⟩).ls, (runI (insX 14 l) ⟨ls, ss, 0⟩).ss, 0⟩ = ⟨ls, ss, 0⟩ := by
  have hd : ∀ r, runI (insX 14 l) r = { popAnyS (popAnyS r) with ss := (popAnyS (popAnyS r)).ss ++ [topV r.ss, topV (popAnyS r).ss] } := fun r => rfl
  rw [hd] at h
  obtain ⟨h1, p2, p3⟩ := popAny_ok h
  obtain ⟨h2, q2, q3⟩ := popAny_ok h1
  rw [hd ⟨ls, ss, 0⟩]
  dsimp only at q2 q3 p3 p2 ⊢
  generalize topV ss = y at *
  generalize topV (popAnyS ⟨ls, ss, 0⟩).ss = x at *
  generalize popAnyS (popAnyS ⟨ls, ss, 0⟩) = r2 at *
  generalize popAnyS ⟨ls, ss, 0⟩ = r1 at *
  rw [hd]
  have e1 : r2.ss ++ [y, x] = (r2.ss ++ [y]) ++ [x] := by simp
  rw [e1, topV_cc, popAny_cc, topV_cc, popAny_cc]
  dsimp only
  rw [p3, q3, q2, p2]
  simp
theorem inv_dup {l : Int} {ls ss : List Va} (h : (runI (insX 12 l) ⟨ls, ss, 0⟩).e = 0) : runI (insX 11 l) ⟨(runI (insX 12 l) ⟨ls, ss, 0⟩).ls, (runI (insX 12 l) ⟨ls, ss, 0⟩).ss, 0⟩ = ⟨ls, ss, 0⟩ := by
  have hd : ∀ r, runI (insX 12 l) r = { popAnyS r with ss := (popAnyS r).ss ++ [topV r.ss, topV r.ss] } := fun r => rfl
  rw [hd] at h
  obtain ⟨h1, p2, p3⟩ := popAny_ok h
  rw [hd]
  show popAnyS _ = _
  dsimp only at p2 p3 ⊢
  generalize topV ss = y at *
  generalize popAnyS ⟨ls, ss, 0⟩ = r1 at *
  have e1 : r1.ss ++ [y, y] = (r1.ss ++ [y]) ++ [y] := by simp
  rw [e1, popAny_cc, p3, p2]
theorem set_self {L : List Va} {n : Nat} {v : Va} (h : L[n]? = some v) : L.set n v = L := by
  apply List.ext_getElem?
  intro k
  rw [List.getElem?_set]
  split
  · rename_i e
    subst e
    have := get_ltF h
    rw [if_pos this, h]
  · rfl
theorem inv_load {o k l : Int} {ls ss : List Va} (hk : (o = 4 ∧ k = 1) ∨ (o = 5 ∧ k = 2) ∨ (o = 6 ∧ k = 3)) (h : (runI (insX o l) ⟨ls, ss, 0⟩).e = 0) : runI (insX (o + 3) l) ⟨(runI (insX o l) ⟨ls, ss, 0⟩).ls, (runI (insX o l) ⟨ls, ss, 0⟩).ss, 0⟩ = ⟨ls, ss, 0⟩ := by
  have hd : ∀ r, runI (insX o l) r = pushS k (localV l k r.ls) (localS l k r) := by
    rcases hk with ⟨rfl, rfl⟩ | ⟨rfl, rfl⟩ | ⟨rfl, rfl⟩ <;> exact fun r => rfl
  have hs : ∀ r, runI (insX (o + 3) l) r = setS l (k, (topV r.ss).2) (popS k r) := by
    rcases hk with ⟨rfl, rfl⟩ | ⟨rfl, rfl⟩ | ⟨rfl, rfl⟩ <;> exact fun r => rfl
  rw [hd] at h
  obtain ⟨h1, h2, h3⟩ := loc_ok h
  rw [hd, h1]
  unfold pushS
  dsimp only at h2 h3 ⊢
  generalize localV l k ls = v at *
  rw [hs]
  have hp : popS k ⟨ls, ss ++ [(k, v)], 0⟩ = ⟨ls, ss, 0⟩ := by
    unfold popS
    rw [if_pos (by rw [topV_cc]), popAny_cc]
  rw [topV_cc, hp]
  unfold setS
  have hl := get_ltF h3
  rw [if_pos ⟨h2, by show l < (ls.length : Int); omega⟩]
  dsimp only
  rw [set_self h3]
end Go.Proofs.Ytgiglbjkijlchaa
