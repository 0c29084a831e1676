/- Layer 16: insertion into a sorted row of strings, pure. -/
import Derived.Test.YthifmcnemeiphaaDoorIl
namespace Go.Proofs.YthifmcnemeiphaaDoor
open Go.ChangeShapes Go.WideShapes Go.ChangeAt Go.RowKit Go.PlainAid Go.Maps
set_option linter.unusedSimpArgs false
set_option linter.unusedVariables false

/-- the place of the first string that isn't before s -/
def qI (R : List ByteArray) (s : ByteArray) : Nat := R.findIdx fun t => !Op.bytesLess t.toList s.toList
theorem qI_le (R : List ByteArray) (s : ByteArray) : qI R s ≤ R.length := List.findIdx_le_length
theorem qI_lt {R : List ByteArray} {s : ByteArray} {k : Nat} (hk : k < qI R s) : ∃ h : k < R.length, Op.bytesLess R[k].toList s.toList = true := by
  have hl := Nat.lt_of_lt_of_le hk (qI_le R s)
  refine ⟨hl, ?_⟩
  have := List.not_of_lt_findIdx (p := fun t : ByteArray => !Op.bytesLess t.toList s.toList) hk
  simpa using this
theorem qI_at {R : List ByteArray} {s : ByteArray} (h : qI R s < R.length) : Op.bytesLess R[qI R s].toList s.toList = false := by
  have := List.findIdx_getElem (p := fun t : ByteArray => !Op.bytesLess t.toList s.toList) (w := h)
  exact (Bool.not_eq_true' _) ▸ this
def inS (R : List ByteArray) (s : ByteArray) : List ByteArray := if R[qI R s]? = some s then R else R.take (qI R s) ++ [s] ++ R.drop (qI R s)
def rsL (L : List ByteArray) : List ByteArray := L.foldl inS []
theorem rsL_step {L : List ByteArray} {i : Nat} {s : ByteArray} (h : L[i]? = some s) : rsL (L.take (i + 1)) = inS (rsL (L.take i)) s := by
  rw [show L.take (i + 1) = L.take i ++ [s] by rw [List.take_add_one, h]; rfl]
  unfold rsL
  rw [List.foldl_append]; rfl
def sltB (x y : ByteArray) : Prop := Op.bytesLess x.toList y.toList = true
theorem slt_iff {x y : ByteArray} : sltB x y ↔ x.data.toList < y.data.toList := by
  unfold sltB
  rw [Proofs.bytesLess_eq, decide_eq_true_iff, Lib.toList_data, Lib.toList_data]
theorem slt_trans {x y z : ByteArray} (h : sltB x y) (h2 : sltB y z) : sltB x z := by
  rw [slt_iff] at *
  exact List.lt_trans h h2
theorem slt_tri {x y : ByteArray} (h : ¬ sltB x y) (hne : x ≠ y) : sltB y x := by
  rw [slt_iff] at *
  exact Classical.byContradiction fun h5 => hne (by
    have := List.le_antisymm (List.not_lt.1 h) (List.not_lt.1 h5)
    rw [← bs_data x, ← bs_data y, this])
theorem slt_irr (x : ByteArray) : ¬ sltB x x := by
  rw [slt_iff]
  exact List.lt_irrefl _
theorem inS_mem {R : List ByteArray} {s t : ByteArray} : t ∈ inS R s ↔ t ∈ R ∨ t = s := by
  unfold inS
  split
  · rename_i h
    constructor
    · exact Or.inl
    · rintro (h1 | rfl)
      · exact h1
      · exact List.mem_of_getElem? h
  · rw [List.mem_append, List.mem_append, List.mem_singleton]
    have : t ∈ R ↔ t ∈ R.take (qI R s) ∨ t ∈ R.drop (qI R s) := by
      rw [← List.mem_append, List.take_append_drop]
    rw [this]
    constructor
    · rintro ((h1 | h1) | h1)
      · exact Or.inl (Or.inl h1)
      · exact Or.inr h1
      · exact Or.inl (Or.inr h1)
    · rintro ((h1 | h1) | h1)
      · exact Or.inl (Or.inl h1)
      · exact Or.inr h1
      · exact Or.inl (Or.inr h1)
theorem inS_sorted {R : List ByteArray} {s : ByteArray} (h : R.Pairwise sltB) : (inS R s).Pairwise sltB := by
  unfold inS
  split
  · exact h
  · rename_i hne
    have hb : ∀ t ∈ R.take (qI R s), sltB t s := by
      intro t ht
      obtain ⟨k, hk, rfl⟩ := List.getElem_of_mem ht
      rw [List.length_take] at hk
      obtain ⟨h1, h2⟩ := qI_lt (R := R) (s := s) (k := k) (by omega)
      rw [List.getElem_take]
      exact h2
    have ha : ∀ t ∈ R.drop (qI R s), sltB s t := by
      intro t ht
      obtain ⟨k, hk, rfl⟩ := List.getElem_of_mem ht
      rw [List.length_drop] at hk
      have hq : qI R s < R.length := by omega
      have h0 : sltB s R[qI R s] := by
        refine slt_tri ?_ (fun e => hne (by rw [List.getElem?_eq_getElem hq, e]))
        unfold sltB
        rw [qI_at hq]
        exact Bool.false_ne_true
      rw [List.getElem_drop]
      cases k with
      | zero => exact h0
      | succ k => exact slt_trans h0 (List.pairwise_iff_getElem.1 h _ _ _ _ (by omega))
    rw [List.pairwise_append, List.pairwise_append]
    refine ⟨⟨h.sublist (List.take_sublist _ _), List.pairwise_singleton _ _, fun x hx y hy => ?_⟩, h.sublist (List.drop_sublist _ _), fun x hx y hy => ?_⟩
    · rw [List.mem_singleton.1 hy]; exact hb x hx
    · rcases List.mem_append.1 hx with hx | hx
      · exact slt_trans (hb x hx) (ha y hy)
      · rw [List.mem_singleton.1 hx]; exact ha y hy
theorem fold_inS : ∀ (L R : List ByteArray), R.Pairwise sltB → (L.foldl inS R).Pairwise sltB ∧ ∀ t, t ∈ L.foldl inS R ↔ t ∈ R ∨ t ∈ L
  | [], R, h => ⟨h, fun t => by simp⟩
  | s :: L, R, h => by
    obtain ⟨h1, h2⟩ := fold_inS L (inS R s) (inS_sorted h)
    refine ⟨h1, fun t => ?_⟩
    rw [List.foldl_cons, h2, inS_mem, List.mem_cons, or_assoc]
theorem rsL_spec (L : List ByteArray) : (rsL L).Pairwise sltB ∧ ∀ t, t ∈ rsL L ↔ t ∈ L := by
  obtain ⟨h1, h2⟩ := fold_inS L [] List.Pairwise.nil
  exact ⟨h1, fun t => by unfold rsL; rw [h2]; simp⟩
theorem sorted_one {R S : List ByteArray} (h : R.Pairwise sltB) (h2 : S.Pairwise sltB) (hm : ∀ t, t ∈ R ↔ t ∈ S) : R = S := by
  have nd : ∀ {T : List ByteArray}, T.Pairwise sltB → T.Nodup := fun h => List.nodup_iff_pairwise_ne.2 (h.imp (fun {x y} hxy (e : x = y) => slt_irr y (by rw [e] at hxy; exact hxy)))
  exact List.Perm.eq_of_pairwise (fun a b _ _ h1 h2 => absurd (slt_trans h1 h2) (slt_irr a)) h h2 ((List.perm_ext_iff_of_nodup (nd h) (nd h2)).2 hm)
theorem ifL_sorted {L : List CI} (hv : VH L) (a : ByteArray) : (ifL L a).Pairwise sltB := by
  have hs : ∀ S : List ByteArray, (∀ j (hj : j + 1 < S.length), sltB (S[j]'(by omega)) S[j + 1]) → S.Pairwise sltB := by
    intro S
    induction S with
    | nil => intro _; exact List.Pairwise.nil
    | cons x S ih =>
      intro h
      have hp := ih (fun j hj => h (j + 1) (by simpa using hj))
      refine List.pairwise_cons.2 ⟨fun y hy => ?_, hp⟩
      cases S with
      | nil => cases hy
      | cons z S =>
        have h0 : sltB x z := h 0 (by simp)
        rcases List.mem_cons.1 hy with rfl | hy
        · exact h0
        · exact slt_trans h0 ((List.pairwise_cons.1 hp).1 y hy)
  exact hs _ (fun j hj => ifL_strict hv a j hj)
/-- the reference's order of the interfaces is the package's -/
theorem rsL_ifs {L : List CI} (hv : VH L) (a : ByteArray) {S : List ByteArray} (hS : ∀ t, t ∈ S ↔ t ∈ ifL L a) : rsL S = ifL L a :=
  sorted_one (rsL_spec S).1 (ifL_sorted hv a) (fun t => ((rsL_spec S).2 t).trans (hS t))
end Go.Proofs.YthifmcnemeiphaaDoor
