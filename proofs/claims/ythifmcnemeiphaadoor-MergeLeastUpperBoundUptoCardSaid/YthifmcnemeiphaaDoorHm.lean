/- Layer 16: what a name reaches, by names; the reference's search. No walk but the append. -/
import Derived.Test.YthifmcnemeiphaaDoorHl
import Derived.Deep.AppendLies
namespace Go.Proofs.YthifmcnemeiphaaDoor
open Go.ChangeShapes Go.WideShapes Go.ChangeAt Go.RowKit Go.PlainAid Go.Maps
set_option linter.unusedSimpArgs false
set_option linter.unusedVariables false

inductive Nr (L : List CI) (s : ByteArray) : ByteArray → Prop
  | one {t : ByteArray} : t ∈ nx L s → Nr L s t
  | more {t u : ByteArray} : Nr L s t → u ∈ nx L t → Nr L s u
structure BF (L : List CI) (s : ByteArray) (O Fr : List ByteArray) (i : Nat) : Prop where
  nod : O.Nodup
  osub : ∀ t ∈ O, Nr L s t
  fsub : ∀ t ∈ Fr, Nr L s t
  st : ∀ t ∈ nx L s, t ∈ Fr
  cl : ∀ t ∈ O, ∀ u ∈ nx L t, u ∈ Fr
  pre : ∀ j (hj : j < i) (hl : j < Fr.length), Fr[j] ∈ O
theorem BF.start {L : List CI} {s : ByteArray} : BF L s [] (nx L s) 0 :=
  ⟨List.nodup_nil, (fun _ h => by cases h), (fun _ h => .one h), (fun _ h => h), (fun _ h => by cases h), fun _ h => absurd h (Nat.not_lt_zero _)⟩
theorem BF.skip {L : List CI} {s : ByteArray} {O Fr : List ByteArray} {i : Nat} (h : BF L s O Fr i) (hi : i < Fr.length) (hm : Fr[i] ∈ O) : BF L s O Fr (i + 1) := by
  refine ⟨h.nod, h.osub, h.fsub, h.st, h.cl, fun j hj hl => ?_⟩
  rcases Nat.lt_or_ge j i with h' | h'
  · exact h.pre j h' hl
  · obtain rfl : j = i := by omega
    exact hm
theorem BF.new {L : List CI} {s : ByteArray} {O Fr : List ByteArray} {i : Nat} (h : BF L s O Fr i) (hi : i < Fr.length) (hm : Fr[i] ∉ O) : BF L s (O ++ [Fr[i]]) (Fr ++ nx L Fr[i]) (i + 1) := by
  have hr := h.fsub _ (List.getElem_mem hi)
  refine ⟨?_, fun t ht => ?_, fun t ht => ?_, fun t ht => List.mem_append_left _ (h.st t ht), fun t ht u hu => ?_, fun j hj hl => ?_⟩
  · rw [List.nodup_append]
    refine ⟨h.nod, List.nodup_cons.2 ⟨by simp, List.nodup_nil⟩, fun a ha b hb e => ?_⟩
    rw [List.mem_singleton.1 hb] at e
    exact hm (e ▸ ha)
  · rcases List.mem_append.1 ht with ht | ht
    · exact h.osub t ht
    · rw [List.mem_singleton.1 ht]; exact hr
  · rcases List.mem_append.1 ht with ht | ht
    · exact h.fsub t ht
    · exact .more hr ht
  · rcases List.mem_append.1 ht with ht | ht
    · exact List.mem_append_left _ (h.cl t ht u hu)
    · rw [List.mem_singleton.1 ht] at hu; exact List.mem_append_right _ hu
  · rcases Nat.lt_or_ge j i with h' | h'
    · have hjF : j < Fr.length := by omega
      rw [List.getElem_append_left hjF]
      exact List.mem_append_left _ (h.pre j h' hjF)
    · obtain rfl : j = i := by omega
      rw [List.getElem_append_left hi]
      exact List.mem_append_right _ (List.mem_singleton.2 rfl)
theorem BF.done {L : List CI} {s : ByteArray} {O Fr : List ByteArray} {i : Nat} (h : BF L s O Fr i) (hi : i = Fr.length) : ∀ t, t ∈ O ↔ Nr L s t := by
  have hfo : ∀ t ∈ Fr, t ∈ O := fun t ht => by
    obtain ⟨j, hj, rfl⟩ := List.getElem_of_mem ht
    exact h.pre j (by omega) hj
  intro t
  refine ⟨h.osub t, fun hr => ?_⟩
  induction hr with
  | one hm => exact hfo _ (h.st _ hm)
  | more _ hm ih => exact hfo _ (h.cl _ ih _ hm)
theorem nodup_len {α : Type} [DecidableEq α] : ∀ (O U : List α), O.Nodup → (∀ t ∈ O, t ∈ U) → O.length ≤ U.length
  | [], U, _, _ => Nat.zero_le _
  | t :: O, U, hn, hs => by
    obtain ⟨h1, h2⟩ := List.nodup_cons.1 hn
    have hm := hs t List.mem_cons_self
    have := nodup_len O (U.erase t) h2 (fun u hu => by
      have hne : u ≠ t := fun e => h1 (e ▸ hu)
      exact (List.mem_erase_of_ne hne).2 (hs u (List.mem_cons_of_mem _ hu)))
    rw [List.length_erase_of_mem hm] at this
    have hp := List.length_pos_of_mem hm
    simp only [List.length_cons]
    omega
def names (L : List CI) : List ByteArray := L.flatMap nxt
theorem nx_names {L : List CI} {s t : ByteArray} (h : t ∈ nx L s) : t ∈ names L := by
  unfold nx at h
  split at h
  · rename_i hf
    have hl := (fI_of hf).2
    rw [lkC_yes hl] at h
    exact List.mem_flatMap.2 ⟨_, List.getElem_mem hl, h⟩
  · cases h
theorem Nr.names {L : List CI} {s t : ByteArray} (h : Nr L s t) : t ∈ names L := by
  cases h with
  | one h => exact nx_names h
  | more _ h => exact nx_names h
/-- the sizes that the laws allow -/
def Small (L : List CI) : Prop := L.length ≤ 60 ∧ ∀ x ∈ L, x.fs.length ≤ 20
theorem nxt_len {x : CI} (h : x.fs.length ≤ 20) : (nxt x).length ≤ 21 := by
  unfold nxt
  rw [List.length_append]
  split <;> simp <;> omega
theorem nx_len {L : List CI} (h : Small L) (s : ByteArray) : (nx L s).length ≤ 21 := by
  unfold nx
  split
  · rename_i hf
    have hl := (fI_of hf).2
    rw [lkC_yes hl]
    exact nxt_len (h.2 _ (List.getElem_mem hl))
  · exact Nat.zero_le _
theorem flat_len (L : List CI) (h : ∀ x ∈ L, x.fs.length ≤ 20) : (names L).length ≤ L.length * 21 := by
  induction L with
  | nil => exact Nat.zero_le _
  | cons x L ih =>
    have h1 := nxt_len (h x List.mem_cons_self)
    have h2 := ih (fun y hy => h y (List.mem_cons_of_mem _ hy))
    unfold names at h2 ⊢
    rw [List.flatMap_cons, List.length_append, List.length_cons]
    omega
theorem names_len {L : List CI} (h : Small L) : (names L).length ≤ 1260 := by
  have := flat_len L h.2
  have := h.1
  omega
theorem BF.len {L : List CI} {s : ByteArray} {O Fr : List ByteArray} {i : Nat} (h : BF L s O Fr i) (hs : Small L) : O.length ≤ 1260 :=
  Nat.le_trans (nodup_len O (names L) h.nod (fun t ht => (h.osub t ht).names)) (names_len hs)
/-- a wider bound: the second form's -/
def Mid (L : List CI) : Prop := L.length ≤ 60 ∧ (names L).length ≤ 2000000
theorem Small.mid {L : List CI} (h : Small L) : Mid L := ⟨h.1, Nat.le_trans (names_len h) (by omega)⟩
theorem nxt_names {L : List CI} {x : CI} (hx : x ∈ L) : (nxt x).length ≤ (names L).length := by
  induction L with
  | nil => cases hx
  | cons y L ih =>
    unfold names at ih ⊢
    rw [List.flatMap_cons, List.length_append]
    rcases List.mem_cons.1 hx with rfl | h
    · omega
    · have := ih h; omega
theorem Mid.fs {L : List CI} (h : Mid L) : ∀ x ∈ L, x.fs.length ≤ 2000000 := fun x hx => by
  have h1 := nxt_names hx
  have h2 := h.2
  have h3 : x.fs.length ≤ (nxt x).length := by unfold nxt; rw [List.length_append]; omega
  omega
theorem Mid.nx {L : List CI} (h : Mid L) (s : ByteArray) : (nx L s).length ≤ 2000000 := by
  unfold Go.Proofs.YthifmcnemeiphaaDoor.nx
  split
  · rename_i hf
    have hl := (fI_of hf).2
    rw [lkC_yes hl]
    exact Nat.le_trans (nxt_names (List.getElem_mem hl)) h.2
  · exact Nat.zero_le _
theorem BF.lenM {L : List CI} {s : ByteArray} {O Fr : List ByteArray} {i : Nat} (h : BF L s O Fr i) (hs : Mid L) : O.length ≤ 2000000 :=
  Nat.le_trans (nodup_len O (names L) h.nod (fun t ht => (h.osub t ht).names)) hs.2
/-- by names and by places -/
theorem nr_place {L : List CI} {s t : ByteArray} (hs : fB L s = true) (h : Nr L s t) (ht : fB L t = true) : Rc L (fI L s) (fI L t) := by
  have key : ∀ {a b : ByteArray}, fB L a = true → fB L b = true → b ∈ nx L a → Ed L (fI L a) (fI L b) := by
    intro a b ha hb hm
    obtain ⟨e1, l1⟩ := fI_of ha
    obtain ⟨e2, l2⟩ := fI_of hb
    unfold nx at hm
    rw [if_pos ha, lkC_yes l1] at hm
    rw [e1, e2]
    exact ⟨l1, b, hm, rfl, l2⟩
  induction h with
  | one hm => exact .one (key hs ht hm)
  | more _ hm ih =>
    rename_i u v _
    have hu : fB L u = true := by
      cases hf : fB L u with
      | true => rfl
      | false => unfold nx at hm; rw [hf] at hm; simp at hm
    exact .more (ih hu) (key hu ht hm)
theorem place_nr {L : List CI} {s : ByteArray} {j : Nat} (hs : fB L s = true) (h : Rc L (fI L s) j) (t : ByteArray) (ht : fB L t = true) (hj : fI L t = j) : Nr L s t := by
  have key : ∀ {a : ByteArray} {j : Nat}, fB L a = true → Ed L (fI L a) j → ∀ t, fB L t = true → fI L t = j → t ∈ nx L a := by
    intro a j ha he t ht hj
    obtain ⟨e1, l1⟩ := fI_of ha
    obtain ⟨e2, l2⟩ := fI_of ht
    obtain ⟨hi, u, hu, h1, h2⟩ := he
    have hut : u = t := by
      have a1 := fnd_nm (L := L) (s := u) (by omega)
      have a2 := fnd_nm l2
      have e3 : fnd L u = fnd L t := by omega
      exact a1.symm.trans ((by simp only [e3] : (L[fnd L u]'(by omega)).nm = L[fnd L t].nm).trans a2)
    unfold nx
    rw [if_pos ha, lkC_yes l1]
    subst hut
    simpa [e1] using hu
  generalize hk : fI L s = k at h
  induction h generalizing t with
  | one he => exact .one (key hs (hk ▸ he) t ht hj)
  | more hr he ih =>
    rename_i a b
    have hl : a < L.length := hr.lt
    have hfa : ∃ u, fB L u = true ∧ fI L u = a := by
      cases hr with
      | one he => obtain ⟨_, u, _, h1, h2⟩ := he; exact ⟨u, fB_of (by omega), by rw [(fI_of (fB_of (by omega))).1, h1]⟩
      | more _ he => obtain ⟨_, u, _, h1, h2⟩ := he; exact ⟨u, fB_of (by omega), by rw [(fI_of (fB_of (by omega))).1, h1]⟩
    obtain ⟨u, hu1, hu2⟩ := hfa
    exact .more (ih u hu1 hu2) (key hu1 (hu2 ▸ he) t ht hj)
end Go.Proofs.YthifmcnemeiphaaDoor
