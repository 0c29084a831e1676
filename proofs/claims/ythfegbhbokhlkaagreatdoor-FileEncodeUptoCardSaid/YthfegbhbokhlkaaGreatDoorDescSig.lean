/- Layer 4: what a signature's descriptor says; rows of types in memory. No walk. -/
import Derived.Test.YthfegbhbokhlkaaGreatDoorDescPcc
import Derived.Deep.AppendLies
namespace Go.Proofs.YthfegbhbokhlkaaGreatDoor
open Go.ChangeShapes Go.WideShapes Go.ChangeAt Go.RowKit Go.PlainAid
set_option linter.unusedSimpArgs false
set_option linter.unusedVariables false

abbrev Ty := Int × Int × ByteArray
def tyCells (p : Ty) : List Value := [.int .i64 p.1, .int .u8 p.2.1, .string p.2.2]
def rowCells (ps : List Ty) : List Value := ps.flatMap tyCells
theorem rowCells_len (ps : List Ty) : (rowCells ps).length = ps.length * 3 := by
  induction ps with
  | nil => rfl
  | cons p ps ih => unfold rowCells at ih ⊢; rw [List.flatMap_cons, List.length_append, ih, List.length_cons]; simp [tyCells]; omega
theorem rowCells_snoc (ps : List Ty) (p : Ty) : rowCells (ps ++ [p]) = rowCells ps ++ tyCells p := by unfold rowCells; simp
theorem rowCells_at : ∀ (ps : List Ty) (i : Nat) (p : Ty), ps[i]? = some p → (rowCells ps)[i * 3]? = some (.int .i64 p.1) ∧ (rowCells ps)[i * 3 + 1]? = some (.int .u8 p.2.1) ∧ (rowCells ps)[i * 3 + 2]? = some (.string p.2.2)
  | [], i, p, h => by simp at h
  | q :: ps, 0, p, h => by
    simp at h; subst h
    exact ⟨rfl, rfl, rfl⟩
  | q :: ps, i + 1, p, h => by
    have ih := rowCells_at ps i p (by simpa using h)
    have e : rowCells (q :: ps) = tyCells q ++ rowCells ps := by unfold rowCells; rw [List.flatMap_cons]
    rw [e]
    have l3 : (tyCells q).length = 3 := rfl
    refine ⟨?_, ?_, ?_⟩
    · rw [List.getElem?_append_right (by omega), l3, show (i + 1) * 3 - 3 = i * 3 by omega]; exact ih.1
    · rw [List.getElem?_append_right (by omega), l3, show (i + 1) * 3 + 1 - 3 = i * 3 + 1 by omega]; exact ih.2.1
    · rw [List.getElem?_append_right (by omega), l3, show (i + 1) * 3 + 2 - 3 = i * 3 + 2 by omega]; exact ih.2.2

/-- the types of a slice, at their places: below block B -/
def Tys (w : World) (B : Nat) (A : Option Addr) (ps : List Ty) : Prop :=
  ps = [] ∨ ∃ g o, A = some ⟨g, o, none⟩ ∧ g < B ∧ ∀ i p, ps[i]? = some p → w.cell? ⟨g, o + i * 3, none⟩ = some (.int .i64 p.1) ∧ w.cell? ⟨g, o + i * 3 + 1, none⟩ = some (.int .u8 p.2.1) ∧ w.cell? ⟨g, o + i * 3 + 2, none⟩ = some (.string p.2.2)
theorem Tys.below {w w' : World} {B : Nat} {A : Option Addr} {ps : List Ty} (h : Tys w B A ps) (hb : Below B w w') : Tys w' B A ps := by
  rcases h with h | ⟨g, o, hA, hg, hc⟩
  · exact Or.inl h
  · refine Or.inr ⟨g, o, hA, hg, fun i p hi => ?_⟩
    obtain ⟨a, b, c⟩ := hc i p hi
    exact ⟨(hb.cell (p := ⟨g, _, none⟩) hg).trans a, (hb.cell (p := ⟨g, _, none⟩) hg).trans b, (hb.cell (p := ⟨g, _, none⟩) hg).trans c⟩
theorem Tys.more {w : World} {B B' : Nat} {A : Option Addr} {ps : List Ty} (h : Tys w B A ps) (hB : B ≤ B') : Tys w B' A ps := by
  rcases h with h | ⟨g, o, hA, hg, hc⟩
  · exact Or.inl h
  · exact Or.inr ⟨g, o, hA, by omega, hc⟩
theorem Tys.nil (w : World) (B : Nat) (A : Option Addr) : Tys w B A [] := Or.inl rfl
theorem Tys.of_own {w : World} {base e n c : Nat} {A : Option Addr} {ps : List Ty} (h : w.ownsRow base e 3 (.slice A n c) n (rowCells ps)) (hn : ps.length = n) : Tys w w.heap.size A ps := by
  cases ps with
  | nil => exact Or.inl rfl
  | cons p ps =>
    obtain ⟨g, cap, hv, _, hlt⟩ := h.form (by rw [← hn, List.length_cons]; omega)
    have hA : A = some ⟨g, 0, none⟩ := by injection hv
    subst hA
    have hcap : c = cap := by injection hv
    subst hcap
    refine Or.inr ⟨g, 0, rfl, hlt, fun i q hi => ?_⟩
    obtain ⟨a, b, d⟩ := rowCells_at _ i q hi
    have hil : i < (p :: ps).length := by
      rcases Nat.lt_or_ge i (p :: ps).length with h | h
      · exact h
      · rw [List.getElem?_eq_none h] at hi; cases hi
    refine ⟨?_, ?_, ?_⟩
    · rw [h.cellAt _ (by omega), Nat.zero_add]; exact a
    · rw [h.cellAt _ (by omega), Nat.zero_add]; exact b
    · rw [h.cellAt _ (by omega), Nat.zero_add]; exact d
theorem owns_below {w w' : World} {base : Nat} {e size n : Nat} {v : Value} {xs : List Value} (h : w.ownsRow base e size v n xs) (hb : Below w.heap.size w w') : w'.ownsRow base e size v n xs := by
  refine ⟨h.1, ?_⟩
  rcases h.2 with h2 | ⟨g, cap, cur, hv, hg, hh, r⟩
  · exact Or.inl h2
  · refine Or.inr ⟨g, cap, cur, hv, hg, ?_, r⟩
    rw [hb.block g (by
      rcases Nat.lt_or_ge g w.heap.size with hlt | hge
      · exact hlt
      · rw [Array.getElem?_eq_none hge] at hh; cases hh)]
    exact hh

/-! ### the parameters -/
def stepOk (l : List UInt8) : Bool := decide (0 < preN l) && !decide (preB l = 86)
def tyOf (l : List UInt8) : Ty := (preD l, preB l, preS l)
def sigP : Nat → List UInt8 → Option (List Ty × List UInt8)
  | 0, _ => none
  | f + 1, [] => some ([], [])
  | f + 1, c :: r => if c = 41 then some ([], c :: r) else if stepOk (c :: r) = true then (sigP f ((c :: r).drop (preN (c :: r)).toNat)).map (fun x => (tyOf (c :: r) :: x.1, x.2)) else none
/-- the reading begun at the first byte, seen from a later place: ps have been read -/
def Begun (l1 : List UInt8) (ps : List Ty) (f : Nat) (l : List UInt8) : Prop := sigP l1.length.succ l1 = (sigP f l).map (fun x => (ps ++ x.1, x.2))
theorem begun_start (l1 : List UInt8) : Begun l1 [] l1.length.succ l1 := by unfold Begun; cases sigP l1.length.succ l1 <;> rfl
theorem begun_step {l1 : List UInt8} {ps : List Ty} {f : Nat} {l : List UInt8} (h : Begun l1 ps (f + 1) l) (hl : l ≠ []) (h41 : l.getD 0 0 ≠ 41) (hs : stepOk l = true) : Begun l1 (ps ++ [tyOf l]) f (l.drop (preN l).toNat) := by
  unfold Begun at h ⊢
  rw [h]
  cases l with
  | nil => exact absurd rfl hl
  | cons c r =>
    have h41' : ¬ c = 41 := by simpa using h41
    simp only [sigP, if_neg h41', if_pos hs]
    cases sigP f ((c :: r).drop (preN (c :: r)).toNat) with
    | none => rfl
    | some x => simp
theorem begun_bad {l1 : List UInt8} {ps : List Ty} {f : Nat} {l : List UInt8} (h : Begun l1 ps (f + 1) l) (hl : l ≠ []) (h41 : l.getD 0 0 ≠ 41) (hs : stepOk l = false) : sigP l1.length.succ l1 = none := by
  unfold Begun at h
  rw [h]
  cases l with
  | nil => exact absurd rfl hl
  | cons c r =>
    have h41' : ¬ c = 41 := by simpa using h41
    simp only [sigP, if_neg h41', hs]; rfl
theorem begun_end {l1 : List UInt8} {ps : List Ty} {f : Nat} (h : Begun l1 ps (f + 1) []) : sigP l1.length.succ l1 = some (ps, []) := by
  unfold Begun at h; rw [h]; simp [sigP]
theorem begun_close {l1 : List UInt8} {ps : List Ty} {f : Nat} {l : List UInt8} (h : Begun l1 ps (f + 1) l) (hl : l ≠ []) (h41 : l.getD 0 0 = 41) : sigP l1.length.succ l1 = some (ps, l) := by
  unfold Begun at h; rw [h]
  cases l with
  | nil => exact absurd rfl hl
  | cons c r =>
    have h41' : c = 41 := by simpa using h41
    simp [sigP, h41']

/-! ### the whole signature: parameters, result, error -/
def sgOf (l : List UInt8) : List Ty × Ty × Int :=
  if l.getD 0 0 = 40 then
    match sigP (l.drop 1).length.succ (l.drop 1) with
    | none => ([], (0, 0, ⟨#[]⟩), 13)
    | some (ps, q) =>
      if q = [] then ([], (0, 0, ⟨#[]⟩), 13)
      else if 0 < preN (q.drop 1) ∧ preN (q.drop 1) = (q.drop 1).length then if 16 < ps.length then ([], (0, 0, ⟨#[]⟩), 5) else (ps, tyOf (q.drop 1), 0)
      else ([], (0, 0, ⟨#[]⟩), 13)
  else ([], (0, 0, ⟨#[]⟩), 13)
theorem sg_open {l : List UInt8} (h : ¬ l.getD 0 0 = 40) : sgOf l = ([], (0, 0, ⟨#[]⟩), 13) := by unfold sgOf; rw [if_neg h]
theorem sg_bad {l : List UInt8} (h : l.getD 0 0 = 40) (hp : sigP (l.drop 1).length.succ (l.drop 1) = none) : sgOf l = ([], (0, 0, ⟨#[]⟩), 13) := by unfold sgOf; rw [if_pos h, hp]
theorem sg_end {l : List UInt8} {ps : List Ty} (h : l.getD 0 0 = 40) (hp : sigP (l.drop 1).length.succ (l.drop 1) = some (ps, [])) : sgOf l = ([], (0, 0, ⟨#[]⟩), 13) := by unfold sgOf; rw [if_pos h, hp]; rfl
theorem sg_res {l q : List UInt8} {ps : List Ty} (h : l.getD 0 0 = 40) (hp : sigP (l.drop 1).length.succ (l.drop 1) = some (ps, q)) (hq : q ≠ []) (hr : ¬ (0 < preN (q.drop 1) ∧ preN (q.drop 1) = (q.drop 1).length)) : sgOf l = ([], (0, 0, ⟨#[]⟩), 13) := by
  unfold sgOf; rw [if_pos h, hp]; simp only; rw [if_neg hq, if_neg hr]
theorem sg_many {l q : List UInt8} {ps : List Ty} (h : l.getD 0 0 = 40) (hp : sigP (l.drop 1).length.succ (l.drop 1) = some (ps, q)) (hq : q ≠ []) (hr : 0 < preN (q.drop 1) ∧ preN (q.drop 1) = (q.drop 1).length) (hm : 16 < ps.length) : sgOf l = ([], (0, 0, ⟨#[]⟩), 5) := by
  unfold sgOf; rw [if_pos h, hp]; simp only; rw [if_neg hq, if_pos hr, if_pos hm]
theorem sg_ok {l q : List UInt8} {ps : List Ty} (h : l.getD 0 0 = 40) (hp : sigP (l.drop 1).length.succ (l.drop 1) = some (ps, q)) (hq : q ≠ []) (hr : 0 < preN (q.drop 1) ∧ preN (q.drop 1) = (q.drop 1).length) (hm : ¬ 16 < ps.length) : sgOf l = (ps, tyOf (q.drop 1), 0) := by
  unfold sgOf; rw [if_pos h, hp]; simp only; rw [if_neg hq, if_pos hr, if_neg hm]

/-- what ParseSignature hands back -/
def SigRet (w : World) (x : List Ty × Ty × Int) (e : Ending) (w' : World) : Prop :=
  ∃ A c, e = .returned (.tuple #[.agg #[.slice A x.1.length c, .int .i64 x.2.1.1, .int .u8 x.2.1.2.1, .string x.2.1.2.2], .int .i64 x.2.2]) ∧ Tys w' w'.heap.size A x.1 ∧ x.1.length ≤ c ∧ Below w.heap.size w w'

end Go.Proofs.YthfegbhbokhlkaaGreatDoor
