/- Layer 16: the order of the entries doesn't matter, pure. -/
import Derived.Test.YthifmcnemeiphaaDoorIj
namespace Go.Proofs.YthifmcnemeiphaaDoor
open Go.ChangeShapes Go.WideShapes Go.ChangeAt Go.RowKit Go.PlainAid Go.Maps
set_option linter.unusedSimpArgs false
set_option linter.unusedVariables false

/-- no name twice -/
def NU (L : List CI) : Prop := ∀ (i j : Nat) (x y : CI), L[i]? = some x → L[j]? = some y → x.nm = y.nm → i = j
theorem VH.nu {L : List CI} (h : VH L) : NU L := fun i j x y hx hy e => by
  rw [← (h.place hx).1, ← (h.place hy).1, e]
theorem NU.place {L : List CI} (h : NU L) {j : Nat} {x : CI} (hx : L[j]? = some x) : fI L x.nm = j ∧ fB L x.nm = true ∧ lkC L x.nm = x := by
  have hl := lt_of_some hx
  have hg : L[j] = x := by rw [List.getElem?_eq_getElem hl] at hx; exact Option.some.inj hx
  have e : fnd L x.nm = j := fnd_at hl (fun i hi e => by
    have := h i j _ _ (List.getElem?_eq_getElem (show i < L.length by omega)) hx (toList_iff.1 e)
    omega) (by rw [hg])
  have hf : fB L x.nm = true := fB_of (by rw [e]; exact hl)
  refine ⟨by rw [(fI_of hf).1, e], hf, ?_⟩
  rw [lkC_yes (fI_of hf).2]
  subst e
  exact hg
theorem NU.rev {L : List CI} (h : NU L) : NU L.reverse := fun i j x y hx hy e => by
  have h1 := lt_of_some hx
  have h2 := lt_of_some hy
  rw [List.length_reverse] at h1 h2
  rw [List.getElem?_reverse h1] at hx
  rw [List.getElem?_reverse h2] at hy
  have := h _ _ _ _ hx hy e
  omega
/-- a list with the same entries -/
structure Sm (L M : List CI) : Prop where
  a : NU L
  b : NU M
  m : ∀ x, x ∈ L ↔ x ∈ M
  n : L.length = M.length
theorem Sm.symm {L M : List CI} (h : Sm L M) : Sm M L := ⟨h.b, h.a, fun x => (h.m x).symm, h.n.symm⟩
theorem fB_ex {L : List CI} {s : ByteArray} (h : fB L s = true) : ∃ x, x ∈ L ∧ x.nm = s ∧ lkC L s = x := by
  obtain ⟨x, h1, h2, h3⟩ := nm_place h
  exact ⟨x, List.mem_of_getElem? h1, h2, h3⟩
theorem Sm.yes {L M : List CI} (h : Sm L M) {s : ByteArray} (hf : fB L s = true) : fB M s = true ∧ lkC M s = lkC L s := by
  obtain ⟨x, h1, rfl, h3⟩ := fB_ex hf
  obtain ⟨j, hj⟩ := List.mem_iff_getElem?.1 ((h.m x).1 h1)
  obtain ⟨_, h4, h5⟩ := h.b.place hj
  exact ⟨h4, h5.trans h3.symm⟩
theorem Sm.fb {L M : List CI} (h : Sm L M) (s : ByteArray) : fB M s = fB L s := by
  rw [Bool.eq_iff_iff]
  exact ⟨fun hf => (h.symm.yes hf).1, fun hf => (h.yes hf).1⟩
theorem lkC_none {L : List CI} {s : ByteArray} (h : fB L s = false) : lkC L s = zeroCI := lkC_no (fun hl => by rw [fB_of hl] at h; cases h)
theorem Sm.lk {L M : List CI} (h : Sm L M) (s : ByteArray) : lkC M s = lkC L s := by
  cases hf : fB L s with
  | true => exact (h.yes hf).2
  | false => rw [lkC_none hf, lkC_none (by rw [h.fb]; exact hf)]
theorem Sm.nx {L M : List CI} (h : Sm L M) (s : ByteArray) : nx M s = nx L s := by
  unfold Go.Proofs.YthifmcnemeiphaaDoor.nx
  rw [h.fb, h.lk]
theorem Sm.nr {L M : List CI} (h : Sm L M) {s t : ByteArray} (hr : Nr L s t) : Nr M s t := by
  induction hr with
  | one hm => exact .one (by rw [h.nx]; exact hm)
  | more _ hm ih => exact .more ih (by rw [h.nx]; exact hm)
theorem Sm.rc {L M : List CI} (h : Sm L M) {s t : ByteArray} (hs : fB L s = true) (ht : fB L t = true) (hr : Rc L (fI L s) (fI L t)) : Rc M (fI M s) (fI M t) :=
  nr_place (by rw [h.fb]; exact hs) (h.nr (place_nr hs hr t ht rfl)) (by rw [h.fb]; exact ht)
theorem Sm.isV {L M : List CI} (h : Sm L M) (a b : ByteArray) : isV M a b = isV L a b := by
  rw [Bool.eq_iff_iff, isV_iff, isV_iff, h.fb, h.fb]
  constructor
  · rintro (e | ⟨h1, h2 | ⟨h2, h3⟩⟩)
    · exact Or.inl e
    · exact Or.inr ⟨h1, Or.inl h2⟩
    · exact Or.inr ⟨h1, Or.inr ⟨h2, h.symm.rc (by rw [h.fb]; exact h1) (by rw [h.fb]; exact h2) h3⟩⟩
  · rintro (e | ⟨h1, h2 | ⟨h2, h3⟩⟩)
    · exact Or.inl e
    · exact Or.inr ⟨h1, Or.inl h2⟩
    · exact Or.inr ⟨h1, Or.inr ⟨h2, h.rc h1 h2 h3⟩⟩
theorem Sm.chain {L M : List CI} (h : Sm L M) : ∀ (k : Nat) (a : ByteArray), chain M k a = chain L k a
  | 0, _ => rfl
  | k + 1, a => by
    unfold Go.Proofs.YthifmcnemeiphaaDoor.chain
    rw [h.fb, h.lk, h.chain k]
theorem Sm.sup {L M : List CI} (h : Sm L M) (a : ByteArray) : supL M a = supL L a := by
  unfold supL
  rw [h.chain, h.n]
theorem Sm.cs {L M : List CI} (h : Sm L M) (a b : ByteArray) : csV M a b = csV L a b := by
  unfold csV
  rw [h.fb, h.fb, h.lk, h.lk, h.sup, h.sup]
theorem Sm.vh {L M : List CI} (h : Sm L M) (hv : VH L) : VH M := by
  intro i x hx
  obtain ⟨j, hj⟩ := List.mem_iff_getElem?.1 ((h.m x).2 (List.mem_of_getElem? hx))
  obtain ⟨h1, h2, h3, h4, h5, h6, h7⟩ := hv.all hj
  obtain ⟨e1, e2, e3⟩ := h.b.place hx
  unfold ceV
  rw [if_neg (by simp [h1]), if_neg (by simpa using e1), if_neg, if_neg, if_neg, if_neg]
  · intro hr
    rw [rcB_iff, ← e1] at hr
    have := h.symm.rc e2 e2 hr
    rw [h2] at this
    exact h7 this
  · have : ifOk M = ifOk L := funext fun s => by unfold ifOk; rw [h.fb, h.lk]
    rw [this, h6]; decide
  · rintro ⟨q1, q2⟩
    obtain ⟨q3, q4⟩ := h5 q1
    rw [h.fb, h.lk, q3, q4] at q2
    rcases q2 with q | q <;> cases q
  · rintro (q | ⟨q1, q2⟩)
    · exact q h3
    · rw [h4 q1] at q2; cases q2
theorem itP_isV {L : List CI} (hv : VH L) {a : ByteArray} (hfa : fB L a = true) {k : Nat} {x : CI} (hx : L[k]? = some x) : itP L (fI L a) k = (x.isI && isV L a x.nm) := by
  obtain ⟨e1, e2, e3⟩ := hv.place hx
  unfold itP
  rw [hx]
  show (_ && x.isI) = _
  rcases Bool.eq_false_or_eq_true x.isI with hI | hI
  · rw [hI, Bool.and_true, Bool.true_and, Bool.eq_iff_iff, Bool.or_eq_true]
    constructor
    · rintro (h | h)
      · have : x.nm = a := eq_of_place e2 hfa (by rw [e1]; exact beq_iff_eq.1 h)
        rw [this]; exact isV_refl L a
      · exact isV_iff.2 (Or.inr ⟨hfa, Or.inr ⟨e2, by rw [e1]; exact rcB_iff.1 h⟩⟩)
    · intro h
      rcases isV_iff.1 h with h | ⟨_, h | ⟨_, h⟩⟩
      · refine Or.inl (beq_iff_eq.2 ?_)
        rw [← e1, h]
      · obtain ⟨_, _, h3, h4, _⟩ := hv.all hx
        have h5 := h4 hI
        rw [h] at h3
        rw [beq_iff_eq] at h5
        rw [h5] at h3
        exact absurd h3 (by decide +kernel)
      · exact Or.inr (rcB_iff.2 (by rw [← e1]; exact h))
  · rw [hI, Bool.and_false, Bool.false_and]
theorem itF_of {L : List CI} {i j : Nat} {x : CI} (hx : L[j]? = some x) (hp : itP L i j = true) : ∀ k, j < k → x.nm ∈ itF L i k
  | 0, h => absurd h (Nat.not_lt_zero _)
  | k + 1, h => by
    unfold itF
    rw [List.mem_append]
    by_cases e : j = k
    · subst e
      right
      rw [if_pos hp, hx]
      exact List.mem_singleton.2 rfl
    · exact Or.inl (itF_of hx hp k (by omega))
theorem itF_iff {L : List CI} (hv : VH L) {a : ByteArray} (hfa : fB L a = true) {s : ByteArray} : s ∈ itF L (fI L a) L.length ↔ fB L s = true ∧ (lkC L s).isI = true ∧ isV L a s = true := by
  constructor
  · intro h
    refine ifL_spec hv a ?_
    unfold ifL
    rw [if_pos hfa, sortB_mem]
    exact h
  · rintro ⟨h1, h2, h3⟩
    obtain ⟨x, k1, rfl, k3⟩ := nm_place h1
    refine itF_of k1 ?_ _ (lt_of_some k1)
    rw [itP_isV hv hfa k1, h3]
    rw [k3] at h2
    rw [h2]; rfl
theorem sortB_perm {S T : List ByteArray} (h : S.Perm T) : sortB S = sortB T := by
  unfold sortB
  congr 1
  have tr : ∀ a b c : List UInt8, decide (a ≤ b) = true → decide (b ≤ c) = true → decide (a ≤ c) = true := fun a b c h1 h2 => by
    rw [decide_eq_true_iff] at *
    exact List.le_trans h1 h2
  have tt : ∀ a b : List UInt8, (decide (a ≤ b) || decide (b ≤ a)) = true := fun a b => by
    rw [Bool.or_eq_true, decide_eq_true_iff, decide_eq_true_iff]
    exact List.le_total a b
  refine List.Perm.eq_of_pairwise (le := fun x y => decide (x ≤ y) = true) ?_ (List.pairwise_mergeSort tr tt _) (List.pairwise_mergeSort tr tt _) ?_
  · intro a b _ _ h1 h2
    rw [decide_eq_true_iff] at h1 h2
    exact List.le_antisymm h1 h2
  · refine (List.mergeSort_perm _ _).trans (List.Perm.trans ?_ (List.mergeSort_perm _ _).symm)
    unfold rawL
    exact h.map _
theorem Sm.ifs {L M : List CI} (h : Sm L M) (hv : VH L) (a : ByteArray) : ifL M a = ifL L a := by
  have hm := h.vh hv
  unfold ifL
  rw [h.fb]
  split
  · rename_i hfa
    refine sortB_perm ((List.perm_ext_iff_of_nodup (itF_nodup hm _ _) (itF_nodup hv _ _)).2 fun s => ?_)
    rw [itF_iff hm (by rw [h.fb]; exact hfa), itF_iff hv hfa, h.fb, h.lk, h.isV]
  · rfl
theorem VH.sm {L : List CI} (h : VH L) : Sm L L.reverse := ⟨h.nu, h.nu.rev, fun x => List.mem_reverse.symm, List.length_reverse.symm⟩
end Go.Proofs.YthifmcnemeiphaaDoor
