/- Layer 16: superclass chains, pure. -/
import Derived.Test.YthifmcnemeiphaaDoorIf
namespace Go.Proofs.YthifmcnemeiphaaDoor
open Go.ChangeShapes Go.WideShapes Go.ChangeAt Go.RowKit Go.PlainAid Go.Maps
set_option linter.unusedSimpArgs false
set_option linter.unusedVariables false

theorem root_tl : rootS.toList = rootL := by decide +kernel
theorem chain_found {L : List CI} : ∀ (k : Nat) (a : ByteArray), ∀ s ∈ chain L k a, fB L s = true
  | 0, _, _, h => by cases h
  | k + 1, a, s, h => by
    unfold chain at h
    split at h
    · rename_i hf
      rcases List.mem_cons.1 h with rfl | h
      · exact hf
      · exact chain_found k _ s h
    · cases h
theorem chain_above {L : List CI} (hv : VH L) : ∀ (k : Nat) (a : ByteArray), fB L a = true → ∀ s ∈ chain L k (lkC L a).su, Rc L (fI L a) (fI L s)
  | 0, _, _, _, h => by cases h
  | k + 1, a, ha, s, h => by
    unfold chain at h
    split at h
    · rename_i hf
      have hed := hv.up ha hf
      rcases List.mem_cons.1 h with rfl | h
      · exact .one hed
      · exact Rc.trans (.one hed) (chain_above hv k _ hf s h)
    · cases h
theorem chain_nodup {L : List CI} (hv : VH L) : ∀ (k : Nat) (a : ByteArray), ((chain L k a).map (fI L)).Nodup
  | 0, _ => List.nodup_nil
  | k + 1, a => by
    unfold chain
    split
    · rename_i hf
      rw [List.map_cons, List.nodup_cons]
      refine ⟨?_, chain_nodup hv k _⟩
      intro hm
      obtain ⟨s, hs, he⟩ := List.mem_map.1 hm
      have hr := chain_above hv k a hf s hs
      rw [he] at hr
      exact hv.acyc hf hr
    · exact List.nodup_nil
theorem chain_le {L : List CI} (hv : VH L) (k : Nat) (a : ByteArray) : (chain L k a).length ≤ L.length := by
  have h1 := nodup_len ((chain L k a).map (fI L)) (List.range L.length) (chain_nodup hv k a) (fun i hi => by
    obtain ⟨s, hs, rfl⟩ := List.mem_map.1 hi
    exact List.mem_range.2 (fI_lt rfl (chain_found k a s hs)))
  rw [List.length_map, List.length_range] at h1
  exact h1
theorem sup_le {L : List CI} (hv : VH L) (a : ByteArray) : (supL L a).length ≤ L.length := chain_le hv _ a
/-- the next one in a chain -/
theorem chain_next {L : List CI} : ∀ (k : Nat) (a : ByteArray) (j : Nat) (h : j + 1 < (chain L k a).length), (chain L k a)[j + 1] = (lkC L ((chain L k a)[j]'(by omega))).su
  | 0, _, _, h => by simp [chain] at h
  | k + 1, a, j, h => by
    cases hf : fB L a with
    | false => rw [chain_no hf] at h; simp at h
    | true =>
      have e := chain_yes (k := k) hf
      have key : ∀ (l : List ByteArray) (hl : l = a :: chain L k (lkC L a).su) (h : j + 1 < l.length), l[j + 1] = (lkC L (l[j]'(by omega))).su := by
        rintro l rfl h
        cases j with
        | zero =>
          simp only [List.getElem_cons_succ, List.getElem_cons_zero]
          cases k with
          | zero => simp [chain] at h
          | succ k =>
            cases hs : fB L (lkC L a).su with
            | false => rw [chain_no hs] at h; simp at h
            | true => simp only [chain_yes hs]; rfl
        | succ j =>
          simp only [List.getElem_cons_succ]
          exact chain_next k _ j (by simpa using h)
      exact key _ e h
/-- a chain that is not cut ends where nothing is above -/
theorem chain_end {L : List CI} : ∀ (k : Nat) (a : ByteArray), fB L a = true → (chain L k a).length < k → ∃ s, (chain L k a).getLast? = some s ∧ fB L s = true ∧ fB L (lkC L s).su = false
  | 0, _, _, h => by omega
  | k + 1, a, hf, h => by
    rw [chain_yes hf] at h ⊢
    cases hs : fB L (lkC L a).su with
    | false =>
      rw [chain_no hs]
      exact ⟨a, rfl, hf, hs⟩
    | true =>
      obtain ⟨s, h1, h2, h3⟩ := chain_end k _ hs (by simpa using h)
      refine ⟨s, ?_, h2, h3⟩
      rw [List.getLast?_cons, h1]; rfl
theorem VH.top {L : List CI} (hv : VH L) {s : ByteArray} (hf : fB L s = true) (hs : fB L (lkC L s).su = false) : s = rootS := by
  obtain ⟨x, h1, h2, h3⟩ := nm_place hf
  have hx := hv.all h1
  rw [h3] at hs
  have he : x.su.toList.isEmpty = true := by
    cases hh : x.su.toList.isEmpty with
    | true => rfl
    | false => have := (hx.2.2.2.2.1 hh).1; rw [hs] at this; cases this
  have := hx.2.2.1
  rw [he, h2] at this
  exact toList_iff.1 ((beq_iff_eq.1 this.symm).trans root_tl.symm)
/-- what the chain of a class of the hierarchy looks like -/
theorem sup_shape {L : List CI} (hv : VH L) {a : ByteArray} (ha : fB L a = true) : ∃ P, supL L a = a :: P ∧ (supL L a).getLast? = some rootS := by
  refine ⟨_, chain_yes ha, ?_⟩
  obtain ⟨s, h1, h2, h3⟩ := chain_end (L.length + 1) a ha (by have := chain_le hv (L.length + 1) a; omega)
  rw [hv.top h2 h3] at h1
  exact h1
theorem sup_is {L : List CI} (hv : VH L) {a s : ByteArray} (hs : s ∈ supL L a) : fB L a = true ∧ isV L a s = true := by
  cases ha : fB L a with
  | false => unfold supL at hs; rw [chain_no ha] at hs; cases hs
  | true =>
    refine ⟨rfl, ?_⟩
    unfold supL at hs
    rw [chain_yes ha] at hs
    rw [isV_iff]
    rcases List.mem_cons.1 hs with rfl | hs
    · exact Or.inl rfl
    · exact Or.inr ⟨ha, Or.inr ⟨chain_found _ _ s hs, chain_above hv _ a ha s hs⟩⟩
/-- the first common one is the same either way -/
theorem first_or {L : List CI} (hv : VH L) : ∀ (k : Nat) (a : ByteArray) (x y : ByteArray), x ∈ chain L k a → y ∈ chain L k a → (∀ P1 P2, chain L k a = P1 ++ x :: P2 → y ∉ P1) → x = y ∨ Rc L (fI L x) (fI L y)
  | 0, _, _, _, h, _, _ => by cases h
  | k + 1, a, x, y, hx, hy, hf => by
    cases ha : fB L a with
    | false => rw [chain_no ha] at hx; cases hx
    | true =>
      rw [chain_yes ha] at hx hy hf
      by_cases hxa : x = a
      · subst hxa
        rcases List.mem_cons.1 hy with rfl | hy
        · exact Or.inl rfl
        · exact Or.inr (chain_above hv k _ ha y hy)
      · rcases List.mem_cons.1 hx with e | hx
        · exact absurd e hxa
        · by_cases hya : y = a
          · subst hya
            exfalso
            obtain ⟨P1, P2, e⟩ := List.append_of_mem hx
            exact hf (y :: P1) P2 (by rw [e]; rfl) List.mem_cons_self
          · rcases List.mem_cons.1 hy with e | hy
            · exact absurd e hya
            · refine first_or hv k _ x y hx hy (fun P1 P2 e hm => ?_)
              exact hf (a :: P1) P2 (by rw [e]; rfl) (List.mem_cons_of_mem _ hm)
theorem csF_spec {P Q : List ByteArray} {s : ByteArray} (h : s ∈ P ∧ s ∈ Q) : ∃ P1 P2, P = P1 ++ csF P Q :: P2 ∧ csF P Q ∈ Q ∧ ∀ t ∈ P1, t ∉ Q := by
  unfold csF
  cases hf : P.find? (fun s => hasL Q s) with
  | none =>
    rw [List.find?_eq_none] at hf
    exact absurd (hasL_iff.2 h.2) (hf s h.1)
  | some x =>
    rw [List.find?_eq_some_iff_append] at hf
    obtain ⟨h1, P1, P2, h2, h3⟩ := hf
    refine ⟨P1, P2, h2, hasL_iff.1 h1, fun t ht hq => ?_⟩
    have := h3 t ht
    rw [hasL_iff.2 hq] at this
    cases this
theorem csF_comm {L : List CI} (hv : VH L) {a b : ByteArray} (ha : fB L a = true) (hb : fB L b = true) : csF (supL L a) (supL L b) = csF (supL L b) (supL L a) := by
  obtain ⟨_, _, la⟩ := sup_shape hv ha
  obtain ⟨_, _, lb⟩ := sup_shape hv hb
  have ra := List.mem_of_getLast? la
  have rb := List.mem_of_getLast? lb
  obtain ⟨P1, P2, e1, q1, n1⟩ := csF_spec ⟨ra, rb⟩
  obtain ⟨Q1, Q2, e2, q2, n2⟩ := csF_spec ⟨rb, ra⟩
  generalize csF (supL L a) (supL L b) = x at e1 q1 n1 e2 q2 n2 ⊢
  generalize csF (supL L b) (supL L a) = y at e1 q1 n1 e2 q2 n2 ⊢
  have hxP : x ∈ supL L a := by rw [e1]; exact List.mem_append_right _ List.mem_cons_self
  have hyQ : y ∈ supL L b := by rw [e2]; exact List.mem_append_right _ List.mem_cons_self
  have split_eq : ∀ (l P1 P2 R1 R2 : List ByteArray) (z : ByteArray), l = P1 ++ z :: P2 → (z ∉ P1) → l = R1 ++ z :: R2 → (z ∉ R1) → R1 = P1 := by
    intro l P1
    induction P1 generalizing l with
    | nil =>
      intro P2 R1 R2 z h1 _ h2 hn
      cases R1 with
      | nil => rfl
      | cons r R1 =>
        rw [h1] at h2
        injection h2 with h2
        exact absurd (by rw [h2]; exact List.mem_cons_self) hn
    | cons p P1 ih =>
      intro P2 R1 R2 z h1 hp h2 hn
      cases R1 with
      | nil =>
        rw [h1] at h2
        injection h2 with h2
        exact absurd (by rw [h2]; exact List.mem_cons_self) hp
      | cons r R1 =>
        rw [h1] at h2
        injection h2 with h3 h2
        rw [h3, ih _ P2 R1 R2 z rfl (fun h => hp (List.mem_cons_of_mem _ h)) h2 (fun h => hn (List.mem_cons_of_mem _ h))]
  have nd : ∀ (c : ByteArray) (R1 R2 : List ByteArray) (z : ByteArray), supL L c = R1 ++ z :: R2 → z ∉ R1 := by
    intro c R1 R2 z h hm
    have := chain_nodup hv (L.length + 1) c
    change ((supL L c).map (fI L)).Nodup at this
    rw [h, List.map_append, List.nodup_append] at this
    exact this.2.2 (fI L z) (List.mem_map_of_mem hm) (fI L z) (by rw [List.map_cons]; exact List.mem_cons_self) rfl
  have c1 := first_or hv _ a x y hxP q2 (fun R1 R2 e hm => by
    have := split_eq _ P1 P2 R1 R2 x e1 (nd a P1 P2 x e1) e (nd a R1 R2 x e)
    rw [this] at hm
    exact n1 y hm hyQ)
  have c2 := first_or hv _ b y x hyQ q1 (fun R1 R2 e hm => by
    have := split_eq _ Q1 Q2 R1 R2 y e2 (nd b Q1 Q2 y e2) e (nd b R1 R2 y e)
    rw [this] at hm
    exact n2 x hm hxP)
  rcases c1 with h | h
  · exact h
  · rcases c2 with h2 | h2
    · exact h2.symm
    · exact absurd (h.trans h2) (hv.acyc (chain_found _ _ x hxP))
theorem csV_comm {L : List CI} (hv : VH L) {a b : ByteArray} (hne : (a.toList == b.toList) = false) : csV L a b = csV L b a := by
  have hne2 : (b.toList == a.toList) = false := by
    rw [beq_eq_false_iff_ne] at hne ⊢
    exact fun h => hne h.symm
  unfold csV
  rw [hne, hne2, if_neg (show ¬ (false = true) by decide), if_neg (show ¬ (false = true) by decide)]
  by_cases hc : fB L a = false ∨ fB L b = false ∨ (lkC L a).isI = true ∨ (lkC L b).isI = true
  · rw [if_pos hc, if_pos (by rcases hc with h | h | h | h; exact Or.inr (Or.inl h); exact Or.inl h; exact Or.inr (Or.inr (Or.inr h)); exact Or.inr (Or.inr (Or.inl h)))]
  · rw [if_neg hc, if_neg (fun h => hc (by rcases h with h | h | h | h; exact Or.inr (Or.inl h); exact Or.inl h; exact Or.inr (Or.inr (Or.inr h)); exact Or.inr (Or.inr (Or.inl h))))]
    have ha : fB L a = true := by cases h : fB L a with | true => rfl | false => exact absurd (Or.inl h) hc
    have hb : fB L b = true := by cases h : fB L b with | true => rfl | false => exact absurd (Or.inr (Or.inl h)) hc
    exact csF_comm hv ha hb
theorem csV_above {L : List CI} (hv : VH L) {a b : ByteArray} (ha : fB L a = true) (hb : fB L b = true) : isV L a (csV L a b) = true ∧ isV L b (csV L a b) = true := by
  have root : ∀ s, fB L s = true → isV L s rootS = true := fun s hs => isV_iff.2 (Or.inr ⟨hs, Or.inl (by rw [root_tl]; exact beq_self_eq_true _)⟩)
  unfold csV
  cases he : (a.toList == b.toList) with
  | true =>
    rw [if_pos rfl]
    have : a = b := toList_iff.1 (beq_iff_eq.1 he)
    subst this
    exact ⟨isV_refl _ _, isV_refl _ _⟩
  | false =>
    rw [if_neg (show ¬ (false = true) by decide)]
    split
    · exact ⟨root a ha, root b hb⟩
    · obtain ⟨_, _, la⟩ := sup_shape hv ha
      obtain ⟨_, _, lb⟩ := sup_shape hv hb
      obtain ⟨P1, P2, e1, q1, _⟩ := csF_spec ⟨List.mem_of_getLast? la, List.mem_of_getLast? lb⟩
      refine ⟨(sup_is hv ?_).2, (sup_is hv q1).2⟩
      have : ∀ (l : List ByteArray) (z : ByteArray), l = P1 ++ z :: P2 → z ∈ l := by
        rintro l z rfl; exact List.mem_append_right _ List.mem_cons_self
      exact this _ _ e1
theorem csV_size {L : List CI} {A : Option Addr} {w : World} (h : CIs w w.heap.size A L) {a b : ByteArray} (ha : a.size ≤ 9223372036854775807) : (csV L a b).size ≤ 9223372036854775807 := by
  unfold csV
  split
  · exact ha
  · split
    · decide
    · unfold csF
      cases hf : (supL L a).find? (fun s => hasL (supL L b) s) with
      | none => decide
      | some x =>
        have := List.mem_of_find?_eq_some hf
        exact chain_size h _ a ha x this
end Go.Proofs.YthifmcnemeiphaaDoor
