/- Layer 16: what an entry reaches; a search with a stack finds just that. No walk. -/
import Derived.Test.YthifmcnemeiphaaDoorHe
namespace Go.Proofs.YthifmcnemeiphaaDoor
open Go.ChangeShapes Go.WideShapes Go.ChangeAt Go.RowKit Go.PlainAid Go.Maps
set_option linter.unusedSimpArgs false
set_option linter.unusedVariables false

def nxt (x : CI) : List ByteArray := (if x.su.toList = [] then [] else [x.su]) ++ x.fs
def Ed (L : List CI) (i j : Nat) : Prop := ∃ (hi : i < L.length), ∃ s ∈ nxt L[i], fnd L s = j ∧ j < L.length
inductive Rc (L : List CI) : Nat → Nat → Prop
  | one {i j : Nat} : Ed L i j → Rc L i j
  | more {i j k : Nat} : Rc L i j → Ed L j k → Rc L i k
noncomputable def rcB (L : List CI) (i j : Nat) : Bool := @decide (Rc L i j) (Classical.propDecidable _)
theorem rcB_iff {L : List CI} {i j : Nat} : rcB L i j = true ↔ Rc L i j := by
  unfold rcB; exact @decide_eq_true_iff _ (Classical.propDecidable _)
noncomputable def rcL (L : List CI) (i : Nat) : List Bool := (List.range L.length).map (rcB L i)
theorem Ed.lt {L : List CI} {i j : Nat} (h : Ed L i j) : j < L.length := by obtain ⟨_, s, _, _, h⟩ := h; exact h
theorem Rc.lt {L : List CI} {i j : Nat} (h : Rc L i j) : j < L.length := by cases h with | one h => exact h.lt | more _ h => exact h.lt
theorem fI_of {L : List CI} {s : ByteArray} (h : fB L s = true) : fI L s = fnd L s ∧ fnd L s < L.length := by
  unfold fB at h
  have := of_decide_eq_true h
  unfold fI
  exact ⟨if_pos this, this⟩
theorem fB_of {L : List CI} {s : ByteArray} (h : fnd L s < L.length) : fB L s = true := decide_eq_true h
structure DF (L : List CI) (f : Nat) (M : List Bool) (O : List Nat) (c : Option Nat) (done : List ByteArray) : Prop where
  ml : M.length = L.length
  sound : ∀ j, M.getD j false = true → Rc L f j
  opn : ∀ j ∈ O, j < L.length ∧ (j = f ∨ Rc L f j)
  closed : ∀ j, (j = f ∨ M.getD j false = true) → j ∉ O → some j ≠ c → ∀ k, Ed L j k → M.getD k false = true
  cur : ∀ i, c = some i → (i < L.length ∧ (i = f ∨ Rc L f i)) ∧ ∀ s ∈ done, fB L s = true → M.getD (fI L s) false = true
theorem DF.start {L : List CI} {f : Nat} (hf : f < L.length) : DF L f (List.replicate L.length false) [f] none [] := by
  refine ⟨List.length_replicate, fun j h => ?_, fun j h => ?_, fun j h hn _ => ?_, fun i h => by cases h⟩
  · rw [List.getD_eq_getElem?_getD, List.getElem?_replicate] at h
    split at h <;> simp at h
  · obtain rfl := List.mem_singleton.1 h; exact ⟨hf, Or.inl rfl⟩
  · rcases h with rfl | h
    · exact absurd (List.mem_singleton.2 rfl) hn
    · rw [List.getD_eq_getElem?_getD, List.getElem?_replicate] at h
      split at h <;> simp at h
theorem DF.pop {L : List CI} {f i : Nat} {M : List Bool} {O : List Nat} (h : DF L f M (O ++ [i]) none []) : DF L f M O (some i) [] := by
  refine ⟨h.ml, h.sound, fun j hj => h.opn j (List.mem_append_left _ hj), fun j hj hn hc => h.closed j hj ?_ (fun e => by cases e), ?_⟩
  · intro hm
    rcases List.mem_append.1 hm with hm | hm
    · exact hn hm
    · exact hc (by rw [List.mem_singleton.1 hm])
  · intro k hk
    obtain rfl : i = k := Option.some.inj hk
    exact ⟨h.opn _ (List.mem_append_right _ (List.mem_singleton.2 rfl)), fun s hs => by cases hs⟩
theorem getD_set_true {M : List Bool} {k j : Nat} (hk : k < M.length) : (M.set k true).getD j false = true ↔ (j = k ∨ M.getD j false = true) := by
  rw [List.getD_eq_getElem?_getD, List.getElem?_set]
  by_cases e : k = j
  · subst e; simp [hk]
  · rw [if_neg e, List.getD_eq_getElem?_getD]
    constructor
    · exact Or.inr
    · rintro (rfl | h)
      · exact absurd rfl e
      · exact h
theorem getD_def {M : List Bool} {k : Nat} (hk : k < M.length) (a b : Bool) : M.getD k a = M.getD k b := by
  rw [List.getD_eq_getElem?_getD, List.getD_eq_getElem?_getD, List.getElem?_eq_getElem hk]; rfl
theorem DF.visit {L : List CI} {f i : Nat} {M : List Bool} {O : List Nat} {done : List ByteArray} (h : DF L f M O (some i) done) {s : ByteArray} (hi : i < L.length) (hs : s ∈ nxt L[i]) : DF L f (visM L s M) (visO L s M O) (some i) (done ++ [s]) := by
  unfold visM visO
  by_cases hc : fB L s = true ∧ M.getD (fI L s) true = false
  · rw [if_pos hc, if_pos hc]
    obtain ⟨hf, hm⟩ := hc
    obtain ⟨e, hl⟩ := fI_of hf
    rw [e] at hm ⊢
    have hlM : fnd L s < M.length := by rw [h.ml]; exact hl
    have hed : Ed L i (fnd L s) := ⟨hi, s, hs, rfl, hl⟩
    have hrc : Rc L f (fnd L s) := by
      rcases (h.cur i rfl).1.2 with rfl | hr
      · exact .one hed
      · exact .more hr hed
    refine ⟨by rw [List.length_set]; exact h.ml, fun j hj => ?_, fun j hj => ?_, fun j hj hn hc k hk => ?_, ?_⟩
    · rcases (getD_set_true hlM).1 hj with rfl | hj
      · exact hrc
      · exact h.sound j hj
    · rcases List.mem_append.1 hj with hj | hj
      · exact h.opn j hj
      · rw [List.mem_singleton.1 hj]; exact ⟨hl, Or.inr hrc⟩
    · refine (getD_set_true hlM).2 (Or.inr (h.closed j ?_ (fun hm => hn (List.mem_append_left _ hm)) hc k hk))
      rcases hj with hj | hj
      · exact Or.inl hj
      · rcases (getD_set_true hlM).1 hj with rfl | hj
        · exact absurd (List.mem_append_right _ (List.mem_singleton.2 rfl)) hn
        · exact Or.inr hj
    · intro k hk
      obtain rfl : i = k := Option.some.inj hk
      refine ⟨(h.cur i rfl).1, fun t ht hft => (getD_set_true hlM).2 ?_⟩
      rcases List.mem_append.1 ht with ht | ht
      · exact Or.inr ((h.cur i rfl).2 t ht hft)
      · obtain rfl := List.mem_singleton.1 ht; exact Or.inl e
  · rw [if_neg hc, if_neg hc]
    refine ⟨h.ml, h.sound, h.opn, h.closed, ?_⟩
    intro k hk
    obtain rfl : i = k := Option.some.inj hk
    refine ⟨(h.cur i rfl).1, fun t ht hft => ?_⟩
    rcases List.mem_append.1 ht with ht | ht
    · exact (h.cur i rfl).2 t ht hft
    · obtain rfl := List.mem_singleton.1 ht
      obtain ⟨e, hl⟩ := fI_of hft
      have hlM : fI L t < M.length := by rw [h.ml, e]; exact hl
      rw [getD_def hlM false true]
      cases hm : M.getD (fI L t) true with
      | true => rfl
      | false => exact absurd ⟨hft, hm⟩ hc
theorem DF.close {L : List CI} {f i : Nat} {M : List Bool} {O : List Nat} (hi : i < L.length) (h : DF L f M O (some i) (nxt L[i])) : DF L f M O none [] := by
  refine ⟨h.ml, h.sound, h.opn, fun j hj hn _ k hk => ?_, fun i h => by cases h⟩
  by_cases e : j = i
  · subst e
    obtain ⟨_, s, hs, rfl, hl⟩ := hk
    have := (h.cur j rfl).2 s hs (fB_of hl)
    rwa [(fI_of (fB_of hl)).1] at this
  · exact h.closed j hj hn (fun e' => e (by injection e')) k hk
theorem DF.done {L : List CI} {f : Nat} {M : List Bool} (h : DF L f M [] none []) : M = rcL L f := by
  have hc : ∀ j, Rc L f j → M.getD j false = true := by
    intro j hr
    induction hr with
    | one hed => exact h.closed _ (Or.inl rfl) (by simp) (fun e => by cases e) _ hed
    | more _ hed ih => exact h.closed _ (Or.inr ih) (by simp) (fun e => by cases e) _ hed
  apply List.ext_getElem?
  intro j
  unfold rcL
  by_cases hj : j < L.length
  · have hjM : j < M.length := by rw [h.ml]; exact hj
    rw [List.getElem?_eq_getElem hjM, List.getElem?_map, List.getElem?_range hj]
    show some M[j] = some (rcB L f j)
    congr 1
    have e : M.getD j false = M[j] := by rw [List.getD_eq_getElem?_getD, List.getElem?_eq_getElem hjM]; rfl
    rw [← e, Bool.eq_iff_iff, rcB_iff]
    exact ⟨h.sound j, hc j⟩
  · rw [List.getElem?_eq_none (by rw [h.ml]; omega), List.getElem?_eq_none (by simp; omega)]
def un (M : List Bool) : Nat := M.countP (!·)
theorem un_set : ∀ {M : List Bool} {k : Nat}, M.getD k true = false → un (M.set k true) + 1 = un M
  | [], k, h => by simp at h
  | b :: M, 0, h => by
    have : b = false := by simpa using h
    subst this
    simp [un, List.countP_cons]
  | b :: M, k + 1, h => by
    have := un_set (M := M) (k := k) (by simpa using h)
    simp only [un, List.set_cons_succ, List.countP_cons] at this ⊢
    omega
theorem vis_mu (L : List CI) (s : ByteArray) (M : List Bool) (O : List Nat) : un (visM L s M) + (visO L s M O).length = un M + O.length := by
  unfold visM visO
  by_cases hc : fB L s = true ∧ M.getD (fI L s) true = false
  · rw [if_pos hc, if_pos hc, List.length_append]
    have := un_set hc.2
    simp
    omega
  · rw [if_neg hc, if_neg hc]
theorem un_start (n : Nat) : un (List.replicate n false) = n := by simp [un, List.countP_replicate]
end Go.Proofs.YthifmcnemeiphaaDoor
