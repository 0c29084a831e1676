/- Layer 16: what Interfaces returns, pure: sorted strictly, and complete. -/
import Derived.Test.YthifmcnemeiphaaDoorIh
namespace Go.Proofs.YthifmcnemeiphaaDoor
open Go.ChangeShapes Go.WideShapes Go.ChangeAt Go.RowKit Go.PlainAid Go.Maps
set_option linter.unusedSimpArgs false
set_option linter.unusedVariables false

theorem bs_inj {x y : List UInt8} (h : bs x = bs y) : x = y := by rw [← data_bs x, h, data_bs]
theorem raw_nodup {S : List ByteArray} (h : S.Nodup) : (rawL S).Nodup := by
  unfold rawL
  rw [List.nodup_iff_pairwise_ne, List.pairwise_map]
  refine (List.nodup_iff_pairwise_ne.1 h).imp ?_
  intro x y hxy e
  exact hxy (by rw [← bs_data x, ← bs_data y, e])
theorem sortB_strict {S : List ByteArray} (h : S.Nodup) (j : Nat) (hj : j + 1 < (sortB S).length) : Op.bytesLess ((sortB S)[j]'(by omega)).toList (sortB S)[j + 1].toList = true := by
  have hp : ((rawL S).mergeSort fun x y => decide (x ≤ y)).Pairwise fun x y => x < y := by
    have h1 : ((rawL S).mergeSort fun x y => decide (x ≤ y)).Pairwise fun x y => decide (x ≤ y) = true :=
      List.pairwise_mergeSort (fun a b c h1 h2 => by
        rw [decide_eq_true_iff] at *
        exact List.le_trans h1 h2) (fun a b => by
        rw [Bool.or_eq_true, decide_eq_true_iff, decide_eq_true_iff]
        exact List.le_total a b) _
    have h2 : ((rawL S).mergeSort fun x y => decide (x ≤ y)).Nodup := (List.mergeSort_perm _ _).nodup_iff.2 (raw_nodup h)
    refine (h1.and (List.nodup_iff_pairwise_ne.1 h2)).imp ?_
    rintro x y ⟨h3, h4⟩
    rw [decide_eq_true_iff] at h3
    exact Classical.byContradiction fun h5 => h4 (List.le_antisymm h3 (List.not_lt.1 h5))
  rw [Proofs.bytesLess_eq, decide_eq_true_iff, Lib.toList_data, Lib.toList_data]
  have hl := sortB_len S
  have e : ∀ k (hk : k < (sortB S).length), (sortB S)[k].data.toList = ((rawL S).mergeSort fun x y => decide (x ≤ y))[k]'(by simpa [sortB] using hk) := by
    intro k hk
    simp only [sortB, List.getElem_map, data_bs]
  rw [e, e]
  exact List.pairwise_iff_getElem.1 hp _ _ _ _ (Nat.lt_succ_self j)
theorem itF_mem {L : List CI} {i : Nat} {s : ByteArray} : ∀ k, s ∈ itF L i k → ∃ j x, j < k ∧ L[j]? = some x ∧ x.nm = s ∧ itP L i j = true
  | 0, h => by cases h
  | k + 1, h => by
    unfold itF at h
    rcases List.mem_append.1 h with h | h
    · obtain ⟨j, x, h1, h2⟩ := itF_mem k h
      exact ⟨j, x, Nat.lt_succ_of_lt h1, h2⟩
    · split at h
      · rename_i hp
        cases hx : L[k]? with
        | none =>
          unfold itP at hp
          rw [hx, Bool.and_eq_true] at hp
          exact absurd hp.2 (by simp [zeroCI])
        | some x =>
          rw [hx] at h
          exact ⟨k, x, Nat.lt_succ_self k, hx, (List.mem_singleton.1 h).symm, hp⟩
      · cases h
theorem itF_nodup {L : List CI} (hv : VH L) (i : Nat) : ∀ k, (itF L i k).Nodup
  | 0 => List.nodup_nil
  | k + 1 => by
    unfold itF
    rw [List.nodup_append]
    refine ⟨itF_nodup hv i k, ?_, ?_⟩
    · split <;> simp
    · intro s hs t ht e
      subst e
      obtain ⟨j, x, h1, h2, h3, h4⟩ := itF_mem k hs
      split at ht
      · rename_i hp
        rw [List.mem_singleton] at ht
        cases hx : L[k]? with
        | none =>
          unfold itP at hp
          rw [hx, Bool.and_eq_true] at hp
          exact absurd hp.2 (by simp [zeroCI])
        | some y =>
          rw [hx] at ht
          have e1 := (hv.all h2).2.1
          have e2 := (hv.all hx).2.1
          rw [h3, ht] at e1
          have : k = j := e2.symm.trans e1
          omega
      · cases ht
theorem VH.place {L : List CI} (hv : VH L) {j : Nat} {x : CI} (hx : L[j]? = some x) : fI L x.nm = j ∧ fB L x.nm = true ∧ lkC L x.nm = x := by
  have e1 := (hv.all hx).2.1
  have hl := lt_of_some hx
  have hf : fB L x.nm = true := by
    unfold fB
    refine decide_eq_true ?_
    unfold fnd
    exact List.findIdx_lt_length_of_exists ⟨x, List.mem_of_getElem? hx, by simp⟩
  refine ⟨e1, hf, ?_⟩
  obtain ⟨h1, h2⟩ := fI_of hf
  rw [lkC_yes h2]
  have e3 : fnd L x.nm = j := h1.symm.trans e1 |>.symm ▸ rfl
  subst e3
  rw [List.getElem?_eq_getElem h2] at hx
  exact Option.some.inj hx
theorem ifL_spec {L : List CI} (hv : VH L) (a : ByteArray) {s : ByteArray} (hs : s ∈ ifL L a) : fB L s = true ∧ (lkC L s).isI = true ∧ isV L a s = true := by
  unfold ifL at hs
  split at hs
  · rename_i hfa
    rw [sortB_mem] at hs
    obtain ⟨j, x, h1, h2, rfl, h4⟩ := itF_mem _ hs
    obtain ⟨e1, e2, e3⟩ := hv.place h2
    unfold itP at h4
    rw [h2, Bool.and_eq_true, Bool.or_eq_true] at h4
    refine ⟨e2, by rw [e3]; exact h4.2, ?_⟩
    rcases h4.1 with h | h
    · have : x.nm = a := eq_of_place e2 hfa (by rw [e1]; exact beq_iff_eq.1 h)
      rw [this]; exact isV_refl L a
    · exact isV_iff.2 (Or.inr ⟨hfa, Or.inr ⟨e2, by rw [e1]; exact rcB_iff.1 h⟩⟩)
  · cases hs
theorem ifL_strict {L : List CI} (hv : VH L) (a : ByteArray) (j : Nat) (hj : j + 1 < (ifL L a).length) : Op.bytesLess ((ifL L a)[j]'(by omega)).toList (ifL L a)[j + 1].toList = true := by
  have key : ∀ S, ifL L a = S → (hj : j + 1 < S.length) → Op.bytesLess (S[j]'(by omega)).toList S[j + 1].toList = true := by
    intro S hS hj
    unfold ifL at hS
    split at hS
    · subst hS
      exact sortB_strict (itF_nodup hv _ _) j hj
    · subst hS; simp at hj
  exact key _ rfl hj
/-- how many interfaces among the first k -/
noncomputable def ifN (L : List CI) (a : ByteArray) (k : Nat) : Nat := if fB L a = true then (itF L (fI L a) k).length else 0
theorem ifN_all (L : List CI) (a : ByteArray) : ifN L a L.length = (ifL L a).length := by
  unfold ifN ifL
  split
  · rw [sortB_len]
  · rfl
theorem ifN_zero (L : List CI) (a : ByteArray) : ifN L a 0 = 0 := by
  unfold ifN; split <;> rfl
theorem ifN_le (L : List CI) (a : ByteArray) (k : Nat) : ifN L a k ≤ k := by
  unfold ifN; split
  · exact itF_len L _ k
  · exact Nat.zero_le _
theorem ifN_step {L : List CI} (hv : VH L) (a : ByteArray) {k : Nat} {x : CI} (hx : L[k]? = some x) : ifN L a (k + 1) = ifN L a k + (if (fB L a && x.isI && isV L a x.nm) = true then 1 else 0) := by
  cases hfa : fB L a with
  | false => unfold ifN; rw [hfa]; rfl
  | true =>
    obtain ⟨e1, e2, e3⟩ := hv.place hx
    have hp : itP L (fI L a) k = (x.isI && isV L a x.nm) := by
      unfold itP
      rw [hx]
      show (_ && x.isI) = _
      rcases Bool.eq_false_or_eq_true x.isI with hI | hI
      · rw [hI, Bool.and_true, Bool.true_and, Bool.eq_iff_iff, Bool.or_eq_true]
        constructor
        · rintro (h | h)
          · have : x.nm = a := eq_of_place e2 hfa (by rw [e1]; exact beq_iff_eq.1 h)
            rw [this]; exact isV_refl L a
          · exact isV_iff.2 (Or.inr ⟨hfa, Or.inr ⟨e2, by rw [e1]; exact rcB_iff.1 h⟩⟩)
        · intro h
          rcases isV_iff.1 h with h | ⟨_, h | ⟨_, h⟩⟩
          · refine Or.inl (beq_iff_eq.2 ?_)
            rw [← e1, h]
          · obtain ⟨_, _, h3, h4, _⟩ := hv.all hx
            have h5 := h4 hI
            rw [h] at h3
            rw [beq_iff_eq] at h5
            rw [h5] at h3
            exact absurd h3 (by decide +kernel)
          · exact Or.inr (rcB_iff.2 (by rw [← e1]; exact h))
      · rw [hI, Bool.and_false, Bool.false_and]
    unfold ifN
    rw [if_pos hfa, if_pos hfa]
    rw [show itF L (fI L a) (k + 1) = itF L (fI L a) k ++ (if itP L (fI L a) k = true then [((L[k]?).getD zeroCI).nm] else []) from rfl]
    rw [List.length_append, hp, Bool.true_and]
    congr 1
    split <;> rfl
end Go.Proofs.YthifmcnemeiphaaDoor
