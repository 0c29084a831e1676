import Derived.Test.YthfegbhbokhlkaaGreatDoorPcM
import Derived.Deep.AppendLies
import Derived.BigQuiet
import Derived.Deep.QuietTactic
import Derived.Laws.ResultCell

/- Ga -/
/- Layer 11: what Decode reads, pure. -/
namespace Go.Proofs.YthfegbhbokhlkaaGreatDoor
open Go.ChangeShapes Go.WideShapes Go.ChangeAt Go.RowKit Go.PlainAid
set_option linter.unusedSimpArgs false
set_option linter.unusedVariables false

/-- a list read element by element: the elements, the place behind them, the error -/
def lk {α : Type} (C : Int → α) (N E : Int → Int) (p : Int) : Nat → List α × Int × Int
  | 0 => ([], p, 0)
  | k + 1 => if (lk C N E p k).2.2 = 0 then ((lk C N E p k).1 ++ [C (lk C N E p k).2.1], N (lk C N E p k).2.1, E (lk C N E p k).2.1) else lk C N E p k
def lkL {α : Type} (C : Int → α) (N E : Int → Int) (p : Int) (k : Nat) : List α := (lk C N E p k).1
def lkN {α : Type} (C : Int → α) (N E : Int → Int) (p : Int) (k : Nat) : Int := (lk C N E p k).2.1
def lkE {α : Type} (C : Int → α) (N E : Int → Int) (p : Int) (k : Nat) : Int := (lk C N E p k).2.2
theorem lk_ok {α : Type} {C : Int → α} {N E : Int → Int} {p : Int} {k : Nat} (h : lkE C N E p k = 0) :
    lkL C N E p (k + 1) = lkL C N E p k ++ [C (lkN C N E p k)] ∧ lkN C N E p (k + 1) = N (lkN C N E p k) ∧ lkE C N E p (k + 1) = E (lkN C N E p k) := by
  unfold lkE at h
  unfold lkL lkN lkE
  rw [lk, if_pos h]
  exact ⟨rfl, rfl, rfl⟩
theorem lk_no {α : Type} {C : Int → α} {N E : Int → Int} {p : Int} {k : Nat} (h : ¬ lkE C N E p k = 0) : lkE C N E p (k + 1) = lkE C N E p k := by
  unfold lkE at h
  unfold lkE
  rw [lk, if_neg h]
theorem lk_stay {α : Type} {C : Int → α} {N E : Int → Int} {p : Int} {k : Nat} (h : ¬ lkE C N E p k = 0) : ∀ n, k ≤ n → lkE C N E p n = lkE C N E p k
  | 0, hn => by obtain rfl : k = 0 := by omega
                rfl
  | n + 1, hn => by
    rcases (by omega : k = n + 1 ∨ k ≤ n) with rfl | h1
    · rfl
    · have := lk_stay h n h1
      rw [lk_no (by rw [this]; exact h), this]
theorem lk_len {α : Type} {C : Int → α} {N E : Int → Int} {p : Int} : ∀ k, lkE C N E p k = 0 → (lkL C N E p k).length = k
  | 0, _ => rfl
  | k + 1, h => by
    by_cases h1 : lkE C N E p k = 0
    · rw [(lk_ok h1).1, List.length_append, lk_len k h1]; rfl
    · rw [lk_no h1] at h; exact absurd h h1
theorem lk_pos {α : Type} {C : Int → α} {N E : Int → Int} {p m : Int} (hp : 0 ≤ p ∧ p ≤ m) (hs : ∀ q, 0 ≤ q → q ≤ m → E q = 0 → q ≤ N q ∧ N q ≤ m) : ∀ k, lkE C N E p k = 0 → p ≤ lkN C N E p k ∧ lkN C N E p k ≤ m
  | 0, _ => ⟨Int.le_refl _, hp.2⟩
  | k + 1, h => by
    by_cases h1 : lkE C N E p k = 0
    · have ih := lk_pos hp hs k h1
      have h2 := (lk_ok h1).2
      rw [h2.2] at h
      have := hs _ (by omega) ih.2 h
      rw [h2.1]; omega
    · rw [lk_no h1] at h; exact absurd h h1

/-- an attribute -/
structure Atr where
  n : Int
  s : ByteArray
/-- a member's value -/
structure Mv where
  f : Int
  n : Int
  d : Int
  l : List Atr
/-- a class file's value -/
structure Fv where
  p : List Cn
  f : Int
  t : Int
  s : Int
  i : List Int
  m : List Mv
  g : List Mv
  a : List Atr
/-- a number of two bytes -/
def nuE (s : ByteArray) (q : Int) : Int := unsE s q 2
def nuC (s : ByteArray) (q : Int) : Int := unsV s q 2
def nuN (q : Int) : Int := q + 2
/-- an attribute at q -/
def taE (s : ByteArray) (q : Int) : Int :=
  if unsE s q 2 = 0 then (if unsE s (q + 2) 4 = 0 then (if 65535 < unsV s (q + 2) 4 then 8 else if (s.size : Int) - (q + 6) < unsV s (q + 2) 4 then 3 else 0) else 3) else 3
def taC (s : ByteArray) (q : Int) : Atr := ⟨unsV s q 2, s.extract (q + 6).toNat (q + 6 + unsV s (q + 2) 4).toNat⟩
def taN (s : ByteArray) (q : Int) : Int := q + 6 + unsV s (q + 2) 4
/-- a count of at most `most` at q -/
def cuE (s : ByteArray) (q most : Int) : Int := if unsE s q 2 = 0 then (if most < unsV s q 2 then 5 else 0) else 3
/-- a list of attributes at q -/
def asE (s : ByteArray) (q : Int) : Int := if cuE s q 16 = 0 then lkE (taC s) (taN s) (taE s) (q + 2) (unsV s q 2).toNat else cuE s q 16
def asL (s : ByteArray) (q : Int) : List Atr := lkL (taC s) (taN s) (taE s) (q + 2) (unsV s q 2).toNat
def asN (s : ByteArray) (q : Int) : Int := lkN (taC s) (taN s) (taE s) (q + 2) (unsV s q 2).toNat
/-- a member at q -/
def tmE (s : ByteArray) (q : Int) : Int := if unsE s q 2 = 0 ∧ unsE s (q + 2) 2 = 0 ∧ unsE s (q + 4) 2 = 0 then asE s (q + 6) else 3
def tmC (s : ByteArray) (q : Int) : Mv := ⟨unsV s q 2, unsV s (q + 2) 2, unsV s (q + 4) 2, asL s (q + 6)⟩
def tmN (s : ByteArray) (q : Int) : Int := asN s (q + 6)
/-- a list of members at q -/
def msE (s : ByteArray) (q : Int) : Int := if cuE s q 64 = 0 then lkE (tmC s) (tmN s) (tmE s) (q + 2) (unsV s q 2).toNat else cuE s q 64
def msL (s : ByteArray) (q : Int) : List Mv := lkL (tmC s) (tmN s) (tmE s) (q + 2) (unsV s q 2).toNat
def msN (s : ByteArray) (q : Int) : Int := lkN (tmC s) (tmN s) (tmE s) (q + 2) (unsV s q 2).toNat
/-- the interfaces at q -/
def isE (s : ByteArray) (q : Int) : Int := if cuE s q 8 = 0 then lkE (nuC s) nuN (nuE s) (q + 2) (unsV s q 2).toNat else cuE s q 8
def isL (s : ByteArray) (q : Int) : List Int := lkL (nuC s) nuN (nuE s) (q + 2) (unsV s q 2).toNat
def isN (s : ByteArray) (q : Int) : Int := lkN (nuC s) nuN (nuE s) (q + 2) (unsV s q 2).toNat
/-- all that stands behind the pool, from q on -/
def bdE (s : ByteArray) (q : Int) : Int :=
  if unsE s q 2 = 0 ∧ unsE s (q + 2) 2 = 0 ∧ unsE s (q + 4) 2 = 0 then
    if isE s (q + 6) = 0 then
      if msE s (isN s (q + 6)) = 0 then
        if msE s (msN s (isN s (q + 6))) = 0 then
          if asE s (msN s (msN s (isN s (q + 6)))) = 0 then
            (if asN s (msN s (msN s (isN s (q + 6)))) < s.size then 10 else 0)
          else asE s (msN s (msN s (isN s (q + 6))))
        else msE s (msN s (isN s (q + 6)))
      else msE s (isN s (q + 6))
    else isE s (q + 6)
  else 3
def hdB : ByteArray := ⟨#[65, 82, 77, 65, 0, 1]⟩
def fdE (s : ByteArray) : Int :=
  if 1048576 < s.size then 8 else if Lib.hasPrefix s.data.toList hdB.data.toList = true then (if deE s 6 = 0 then bdE s (deN s 6) else deE s 6) else 4
def fdV (s : ByteArray) : Fv :=
  ⟨deL s 6, unsV s (deN s 6) 2, unsV s (deN s 6 + 2) 2, unsV s (deN s 6 + 4) 2, isL s (deN s 6 + 6), msL s (isN s (deN s 6 + 6)), msL s (msN s (isN s (deN s 6 + 6))), asL s (msN s (msN s (isN s (deN s 6 + 6))))⟩

theorem un4_bd (s : ByteArray) (p : Int) : 0 ≤ unsV s p 4 ∧ unsV s p 4 ≤ 4294967295 := by
  unfold unsV
  split
  · have h : ∀ f : Nat → Int, (∀ i, 0 ≤ f i ∧ f i ≤ 255) → 0 ≤ rdU f 4 ∧ rdU f 4 ≤ 4294967295 := by
      intro f hf
      have h0 := hf 0
      have h1 := hf 1
      have h2 := hf 2
      have h3 := hf 3
      simp only [rdU]
      unfold wrap64
      omega
    exact h _ (fromB_bd s _)
  · omega
theorem nu_e {s : ByteArray} {q : Int} (hq : 0 ≤ q ∧ q ≤ s.size) : unsE s q 2 = 0 ∨ unsE s q 2 = 3 := un_e hq ok2
theorem nu_ok {s : ByteArray} {q : Int} (h0 : 0 ≤ q) (h0' : q ≤ s.size) (h : nuE s q = 0) : q ≤ nuN q ∧ nuN q ≤ s.size := by
  have := un_0 ok2 h
  unfold nuN; omega
theorem ta_ok {s : ByteArray} {q : Int} (h0 : 0 ≤ q) (h0' : q ≤ s.size) (h : taE s q = 0) : q ≤ taN s q ∧ taN s q ≤ s.size := by
  unfold taE at h
  unfold taN
  split at h
  · split at h
    · rename_i h1
      have := un_0 ok4 h1
      have := un4_bd s (q + 2)
      split at h
      · cases h
      · split at h
        · cases h
        · omega
    · cases h
  · cases h
theorem cu_0 {s : ByteArray} {q m : Int} (h : cuE s q m = 0) : unsE s q 2 = 0 ∧ unsV s q 2 ≤ m ∧ 0 ≤ q ∧ q + 2 ≤ s.size := by
  unfold cuE at h
  split at h
  · rename_i h1
    have := un_0 ok2 h1
    split at h
    · cases h
    · exact ⟨h1, by omega, this.1, this.2⟩
  · cases h
theorem as_ok {s : ByteArray} {q : Int} (h0 : 0 ≤ q) (h0' : q ≤ s.size) (h : asE s q = 0) : q ≤ asN s q ∧ asN s q ≤ s.size := by
  unfold asE at h
  split at h
  · rename_i h1
    have := cu_0 h1
    have := lk_pos (m := s.size) (N := taN s) (by omega) (fun q a b c => ta_ok a b c) _ h
    unfold asN
    omega
  · rename_i h1; exact absurd h h1
theorem tm_ok {s : ByteArray} {q : Int} (h0 : 0 ≤ q) (h0' : q ≤ s.size) (h : tmE s q = 0) : q ≤ tmN s q ∧ tmN s q ≤ s.size := by
  unfold tmE at h
  split at h
  · rename_i h1
    have := un_0 ok2 h1.2.2
    have := as_ok (by omega) (by omega) h
    unfold tmN
    omega
  · cases h
theorem ms_ok {s : ByteArray} {q : Int} (h0 : 0 ≤ q) (h0' : q ≤ s.size) (h : msE s q = 0) : q ≤ msN s q ∧ msN s q ≤ s.size := by
  unfold msE at h
  split at h
  · rename_i h1
    have := cu_0 h1
    have := lk_pos (m := s.size) (N := tmN s) (by omega) (fun q a b c => tm_ok a b c) _ h
    unfold msN
    omega
  · rename_i h1; exact absurd h h1
theorem is_ok {s : ByteArray} {q : Int} (h0 : 0 ≤ q) (h0' : q ≤ s.size) (h : isE s q = 0) : q ≤ isN s q ∧ isN s q ≤ s.size := by
  unfold isE at h
  split at h
  · rename_i h1
    have := cu_0 h1
    have := lk_pos (m := s.size) (by omega) (fun q a b c => nu_ok a b c) _ h
    unfold isN
    omega
  · rename_i h1; exact absurd h h1
theorem as_len {s : ByteArray} {q : Int} (h : asE s q = 0) : (asL s q).length = (unsV s q 2).toNat ∧ (asL s q).length ≤ 16 := by
  unfold asE at h
  split at h
  · rename_i h1
    have := cu_0 h1
    have := lk_len _ h
    unfold asL
    omega
  · rename_i h1; exact absurd h h1
theorem ms_len {s : ByteArray} {q : Int} (h : msE s q = 0) : (msL s q).length = (unsV s q 2).toNat ∧ (msL s q).length ≤ 64 := by
  unfold msE at h
  split at h
  · rename_i h1
    have := cu_0 h1
    have := lk_len _ h
    unfold msL
    omega
  · rename_i h1; exact absurd h h1
theorem is_len {s : ByteArray} {q : Int} (h : isE s q = 0) : (isL s q).length = (unsV s q 2).toNat ∧ (isL s q).length ≤ 8 := by
  unfold isE at h
  split at h
  · rename_i h1
    have := cu_0 h1
    have := lk_len _ h
    unfold isL
    omega
  · rename_i h1; exact absurd h h1

end Go.Proofs.YthfegbhbokhlkaaGreatDoor

/- Gb -/
/- Layer 11: rows in memory: numbers, attributes, members. (Written by gen/gb.py.) -/
namespace Go.Proofs.YthfegbhbokhlkaaGreatDoor
open Go.ChangeShapes Go.WideShapes Go.ChangeAt Go.RowKit Go.PlainAid
set_option linter.unusedSimpArgs false
set_option linter.unusedVariables false

def fl {α : Type} (F : α → List Value) (L : List α) : List Value := L.flatMap F
theorem fl_cons {α : Type} (F : α → List Value) (q : α) (ps : List α) : fl F (q :: ps) = F q ++ fl F ps := by unfold fl; rw [List.flatMap_cons]
theorem fl_len {α : Type} {F : α → List Value} {z : Nat} (hz : ∀ x, (F x).length = z) (ps : List α) : (fl F ps).length = ps.length * z := by
  induction ps with
  | nil => rw [show fl F [] = [] from rfl]; simp
  | cons p ps ih => rw [fl_cons, List.length_append, ih, List.length_cons, hz, Nat.add_mul, Nat.one_mul, Nat.add_comm]
theorem fl_app {α : Type} (F : α → List Value) (ps qs : List α) : fl F (ps ++ qs) = fl F ps ++ fl F qs := by unfold fl; simp
theorem fl_one {α : Type} (F : α → List Value) (p : α) : fl F [p] = F p := by simp [fl]
theorem fl_cell {α : Type} {F : α → List Value} (h : ∀ x, ∀ u ∈ F x, u.oneCell' = true) (ps : List α) : ∀ u ∈ fl F ps, u.oneCell' = true := by
  intro u hu
  unfold fl at hu
  obtain ⟨p, _, hp⟩ := List.mem_flatMap.1 hu
  exact h p u hp
theorem fl_at {α : Type} {F : α → List Value} {z : Nat} (hz : ∀ x, (F x).length = z) : ∀ (ps : List α) (k j : Nat) (p : α), j < z → ps[k]? = some p → (fl F ps)[k * z + j]? = (F p)[j]?
  | [], k, j, p, _, h => by simp at h
  | q :: ps, 0, j, p, hj, h => by
    simp at h; subst h
    rw [fl_cons, Nat.zero_mul, Nat.zero_add, List.getElem?_append_left (by rw [hz]; exact hj)]
  | q :: ps, k + 1, j, p, hj, h => by
    have ih := fl_at hz ps k j p hj (by simpa using h)
    have l4 : (F q).length = z := hz q
    have e : (k + 1) * z + j = z + (k * z + j) := by rw [Nat.add_mul, Nat.one_mul]; omega
    rw [fl_cons, e, List.getElem?_append_right (by omega), l4, Nat.add_sub_cancel_left]
    exact ih
/-- a row lies at A -/
def RowAt {α : Type} (F : α → List Value) (z : Nat) (w : World) (A : Option Addr) (L : List α) : Prop :=
  L = [] ∨ ∃ g o, A = some ⟨g, o, none⟩ ∧ g < w.heap.size ∧ ∀ (k : Nat) (x : α), L[k]? = some x → ∀ (j : Nat) (v : Value), (F x)[j]? = some v → w.cell? ⟨g, o + k * z + j, none⟩ = some v
theorem RowAt.nil {α : Type} (F : α → List Value) (z : Nat) (w : World) (A : Option Addr) : RowAt F z w A [] := Or.inl rfl
theorem RowAt.up {α : Type} {F : α → List Value} {z : Nat} {w w' : World} {A : Option Addr} {L : List α} (h : RowAt F z w A L) (hb : Below w.heap.size w w') : RowAt F z w' A L := by
  rcases h with h | ⟨g, o, hA, hg, hc⟩
  · exact Or.inl h
  · exact Or.inr ⟨g, o, hA, Nat.lt_of_lt_of_le hg hb.size, fun k x hk j v hv => (hb.cell (p := ⟨g, _, none⟩) hg).trans (hc k x hk j v hv)⟩
theorem RowAt.of_own {α : Type} {F : α → List Value} {z : Nat} (hz : ∀ x, (F x).length = z) (h0 : 0 < z) {w : World} {base e n c : Nat} {A : Option Addr} {L : List α} (h : w.ownsRow base e z (.slice A n c) n (fl F L)) : RowAt F z w A L ∧ L.length = n := by
  have hn : L.length = n := by have h1 := h.1; rw [fl_len hz] at h1; exact Nat.eq_of_mul_eq_mul_right h0 h1
  refine ⟨?_, hn⟩
  rcases Nat.eq_zero_or_pos n with h0 | h0
  · exact Or.inl (List.eq_nil_of_length_eq_zero (by omega))
  · obtain ⟨g, cap, hv, _, hlt⟩ := h.form h0
    have hA : A = some ⟨g, 0, none⟩ := by injection hv
    subst hA
    have hcap : c = cap := by injection hv
    subst hcap
    refine Or.inr ⟨g, 0, rfl, hlt, fun k x hk j v hv => ?_⟩
    have hkl : k < L.length := by
      rcases Nat.lt_or_ge k L.length with h | h
      · exact h
      · rw [List.getElem?_eq_none h] at hk; cases hk
    have hj : j < z := by
      rcases Nat.lt_or_ge j (F x).length with h | h
      · rwa [hz] at h
      · rw [List.getElem?_eq_none h] at hv; cases hv
    have hkz : k * z + z ≤ n * z := by
      have := Nat.mul_le_mul_right z (show k + 1 ≤ n by omega)
      rwa [Nat.add_mul, Nat.one_mul] at this
    rw [Nat.zero_add, h.cellAt _ (by omega), fl_at hz L k j x hj hk, hv]
theorem RowAt.get {α : Type} {F : α → List Value} {z : Nat} {w : World} {A : Option Addr} {L : List α} (h : RowAt F z w A L) {k : Nat} {x : α} (hk : L[k]? = some x) : ∃ g o, A = some ⟨g, o, none⟩ ∧ g < w.heap.size ∧ ∀ (j : Nat) (v : Value), (F x)[j]? = some v → w.cell? ⟨g, o + k * z + j, none⟩ = some v := by
  rcases h with h | ⟨g, o, hA, hg, hc⟩
  · rw [h] at hk; cases hk
  · exact ⟨g, o, hA, hg, hc k x hk⟩
/-- a row of a call's own -/
structure OwnR {α : Type} (F : α → List Value) (z : Nat) (e : TypeId) (w : World) (base : Nat) (A : Option Addr) (n c : Nat) (L : List α) : Prop where
  len : L.length = n
  le : n ≤ c
  nz : A = none → c = 0
  own : w.ownsRow base e z (.slice A n c) n (fl F L)
theorem own_formG {w : World} {base e size n : Nat} {v : Value} {xs : List Value} (h : w.ownsRow base e size v n xs) : ∃ A c, v = .slice A n c ∧ n ≤ c ∧ c ≤ maxLen ∧ (A = none → c = 0) := by
  rcases h.2 with ⟨rfl, h0⟩ | ⟨g, cap, cur, rfl, _, _, h1, h2, _⟩
  · exact ⟨none, 0, by rw [h0], by omega, Nat.zero_le _, fun _ => rfl⟩
  · exact ⟨_, cap, rfl, h1, h2, fun h => by cases h⟩
theorem OwnR.nil {α : Type} (F : α → List Value) (z : Nat) (e : TypeId) (w : World) (base : Nat) : OwnR F z e w base none 0 0 [] := ⟨rfl, Nat.le_refl _, fun _ => rfl, World.ownsRow_nil _ _ _ _⟩
theorem OwnR.below {α : Type} {F : α → List Value} {z : Nat} {e : TypeId} {w w' : World} {base : Nat} {A : Option Addr} {n c : Nat} {L : List α} (h : OwnR F z e w base A n c L) (hb : Below w.heap.size w w') : OwnR F z e w' base A n c L := ⟨h.len, h.le, h.nz, owns_below h.own hb⟩
theorem OwnR.more {α : Type} {F : α → List Value} {z : Nat} {e : TypeId} {w : World} {base base' : Nat} {A : Option Addr} {n c : Nat} {L : List α} (h : OwnR F z e w base A n c L) (hb : base' ≤ base) : OwnR F z e w base' A n c L :=
  ⟨h.len, h.le, h.nz, h.own.1, h.own.2.imp id fun ⟨g, cap, cur, h1, h2, h3⟩ => ⟨g, cap, cur, h1, Nat.le_trans hb h2, h3⟩⟩
theorem OwnR.row {α : Type} {F : α → List Value} {z : Nat} {e : TypeId} {w : World} {base : Nat} {A : Option Addr} {n c : Nat} {L : List α} (h : OwnR F z e w base A n c L) (hz : ∀ x, (F x).length = z) (h0 : 0 < z) : RowAt F z w A L := (RowAt.of_own hz h0 h.own).1

/-- blocks other than b are as they were -/
structure Off (b : Nat) (w w' : World) : Prop where
  os : w'.os = w.os
  tape : w'.tape = w.tape
  output : w'.output = w.output
  size : w.heap.size ≤ w'.heap.size
  block : ∀ k, k < w.heap.size → k ≠ b → w'.heap[k]? = w.heap[k]?
theorem Off.refl (b : Nat) (w : World) : Off b w w := ⟨rfl, rfl, rfl, Nat.le_refl _, fun _ _ _ => rfl⟩
theorem Off.trans {b : Nat} {w w1 w2 : World} (h : Off b w w1) (k : Off b w1 w2) : Off b w w2 :=
  ⟨k.os.trans h.os, k.tape.trans h.tape, k.output.trans h.output, Nat.le_trans h.size k.size, fun i hi hb => (k.block i (Nat.lt_of_lt_of_le hi h.size) hb).trans (h.block i hi hb)⟩
theorem Off.of {b : Nat} {w w1 : World} (h : Below w.heap.size w w1) : Off b w w1 := ⟨h.os, h.tape, h.output, h.size, fun k hk _ => h.block k hk⟩
theorem Off.al {b : Nat} {w w1 : World} (h : Off b w w1) (o : Obj) : Off b w (w1.alloc o) := h.trans (Off.of (below_al (Below.refl _ _) o))
theorem Off.st {b : Nat} {w w1 : World} (h : Off b w w1) {p : Addr} (hp : p.block = b ∨ w.heap.size ≤ p.block) (u : Value) : Off b w (w1.setCell p u) := by
  have hsz : (w1.setCell p u).heap.size = w1.heap.size := by simp [World.setCell]
  refine ⟨h.os, h.tape, h.output, by rw [hsz]; exact h.size, fun k hk hb => ?_⟩
  rw [Below.heap_setCell _ _ _ _ (by rcases hp with h | h <;> omega)]
  exact h.block k hk hb
theorem Off.put {b : Nat} {w w1 : World} (h : Off b w w1) (i : Nat) (u : Value) : Off b w (w1.setCell ⟨b, i, none⟩ u) := h.st (Or.inl rfl) u
theorem Off.below {b : Nat} {w w1 : World} (h : Off b w w1) {B : Nat} (hB : B ≤ w.heap.size) (hb : B ≤ b) : Below B w w1 := ⟨h.os, h.tape, h.output, h.size, fun k hk => h.block k (by omega) (by omega)⟩
/-- from a world in which b did not exist yet -/
theorem Off.on {b : Nat} {w W w1 : World} (h : Below w.heap.size w W) (hb : w.heap.size ≤ b) (k : Off b W w1) : Below w.heap.size w w1 := h.trans (k.below h.size hb)
theorem Off.step {b : Nat} {w W w1 : World} (h : Off b w W) (k : Below w.heap.size W w1) : Off b w w1 := ⟨k.os.trans h.os, k.tape.trans h.tape, k.output.trans h.output, Nat.le_trans h.size k.size, fun i hi hb => (k.block i hi).trans (h.block i hi hb)⟩
theorem Off.dr {b : Nat} {w W : World} (h : Off b w W) (q : Nat) : Off b w (W.drewN q) := ⟨h.os, h.tape, h.output, h.size, h.block⟩
theorem Off.keep {b k : Nat} {w w1 : World} {o : Obj} (h : Off b w w1) (hk : w.heap[k]? = some o) (hb : k ≠ b) : w1.heap[k]? = some o := (h.block k (lt_heap hk) hb).trans hk
theorem RowAt.off {α : Type} {F : α → List Value} {z : Nat} {w w' : World} {A : Option Addr} {L : List α} {b : Nat} (h : RowAt F z w A L) (hb : Off b w w') (hA : ∀ g o, A = some ⟨g, o, none⟩ → g ≠ b) : RowAt F z w' A L := by
  rcases h with h | ⟨g, o, hA', hg, hc⟩
  · exact Or.inl h
  · refine Or.inr ⟨g, o, hA', Nat.lt_of_lt_of_le hg hb.size, fun k x hk j v hv => ?_⟩
    have := hc k x hk j v hv
    rw [← this]
    have := hb.block g hg (hA g o hA')
    simp [World.cell?, this]
theorem own_off {w w' : World} {base e size n b : Nat} {v : Value} {xs : List Value} (h : w.ownsRow base e size v n xs) (hb : Off b w w') (hv : v.ownBlock ≠ some b) : w'.ownsRow base e size v n xs := by
  refine ⟨h.1, ?_⟩
  rcases h.2 with h2 | ⟨g, cap, cur, rfl, hg, hh, rest⟩
  · exact Or.inl h2
  · exact Or.inr ⟨g, cap, cur, rfl, hg, hb.keep hh (fun e => hv (by rw [e]; rfl)), rest⟩
theorem own_ne {w : World} {base e size n b : Nat} {v : Value} {xs : List Value} (h : w.ownsRow base e size v n xs) (hb : b < base) : v.ownBlock ≠ some b := by
  intro hv
  have := (h.lt b hv).1
  omega
theorem OwnR.off {α : Type} {F : α → List Value} {z : Nat} {e : TypeId} {w w' : World} {base : Nat} {A : Option Addr} {n c b : Nat} {L : List α} (h : OwnR F z e w base A n c L) (hb : Off b w w') (hb' : b < base) : OwnR F z e w' base A n c L := ⟨h.len, h.le, h.nz, own_off h.own hb (own_ne h.own hb')⟩

theorem OwnR.off2 {α : Type} {F : α → List Value} {z : Nat} {e : TypeId} {w w' : World} {base : Nat} {A : Option Addr} {n c b : Nat} {L : List α} (h : OwnR F z e w base A n c L) (hb : Off b w w') (hb' : (Value.slice A n c).ownBlock ≠ some b) : OwnR F z e w' base A n c L := ⟨h.len, h.le, h.nz, own_off h.own hb hb'⟩

def aF (a : Atr) : List Value := [.int .i64 a.n, .string a.s]
def iF (n : Int) : List Value := [.int .i64 n]
/-- a member in memory -/
structure Mb where
  f : Int
  n : Int
  d : Int
  A : Option Addr
  k : Nat
  c : Nat
  l : List Atr
def Mb.v (m : Mb) : Mv := ⟨m.f, m.n, m.d, m.l⟩
def mF (m : Mb) : List Value := [.int .i64 m.f, .int .i64 m.n, .int .i64 m.d, .slice m.A m.k m.c]
structure Mb.ok (w : World) (m : Mb) : Prop where
  len : m.l.length = m.k
  row : RowAt aF 2 w m.A m.l
theorem Mb.ok.up {w w' : World} {m : Mb} (h : m.ok w) (hb : Below w.heap.size w w') : m.ok w' := ⟨h.len, h.row.up hb⟩
theorem aF_len (a : Atr) : (aF a).length = 2 := rfl
theorem iF_len (n : Int) : (iF n).length = 1 := rfl
theorem mF_len (m : Mb) : (mF m).length = 4 := rfl
theorem aF_one (x : Atr) : ∀ u ∈ aF x, u.oneCell' = true := by
  intro u hu
  simp [aF] at hu
  rcases hu with rfl | rfl <;> rfl
theorem iF_one (x : Int) : ∀ u ∈ iF x, u.oneCell' = true := by
  intro u hu
  simp [iF] at hu
  subst hu; rfl
theorem mF_one (x : Mb) : ∀ u ∈ mF x, u.oneCell' = true := by
  intro u hu
  simp [mF] at hu
  rcases hu with rfl | rfl | rfl | rfl <;> rfl
theorem info_aF : (Tryz.prog.info? 93).map (fun i => (i.zero, i.size, i.bytes)) = some (some (.agg #[.int .i64 0, .string ⟨#[]⟩]), 2, 24) := by kernel_rfl
theorem append_aF {w : World} {ops : Array Oper} {rest : List Oper} {o : Oper} {a : Act} {Q : Exit → Act → World → Prop} (hg : o.guard = none) (s x : Operand)
    (hop : o.op = Op.call { callee := Callee.builtin Builtin.append, args := #[s, x], argTypes := #[25, 25] })
    {base n c B : Nat} {A : Option Addr} {L : List Atr} {i : Atr} (hs : a.eval s = .slice A n c) (hO : OwnR aF 2 93 w base A n c L) (hx : a.eval x = .slice (some ⟨B, 0, none⟩) 1 1)
    (hi : ∀ j u, (aF i)[j]? = some u → w.cell? ⟨B, j, none⟩ = some u) (hb : n ≤ 100000) (hbase : base ≤ w.heap.size)
    (h : ∀ A' c' w', OwnR aF 2 93 w' base A' (n + 1) c' (L ++ [i]) → Below base w w' → w.grownBy w' (Value.slice A n c).ownBlock → wpList Tryz.prog ops Q rest (a.put o.dst (.slice A' (n + 1) c')) w') : wpList Tryz.prog ops Q (o :: rest) a w := by
  obtain ⟨i0, hi0, hz0, hz1, hz2⟩ := info_parts info_aF
  refine _root_.Go.wpList_append_own (w := w) hg s x 25 hop base 93 i0 _ 2 24 Tryz.underlying25 hi0 hz0 hz1 hz2 rfl (by decide) (.slice A n c) n (fl aF L) hs hO.own ⟨B, 0, none⟩ 1 1 (aF i) hx rfl (fun j u hu => by
    rcases Nat.eq_zero_or_pos j with rfl | hj
    · simpa [Addr.add] using hi 0 u hu
    · have : j ≠ 0 := by omega
      simpa [Addr.add, this] using hi j u hu) (by rw [← fl_one aF]; exact fl_cell aF_one _) (by unfold maxLen; omega) (by omega) hbase ?_
  intro v' w' h1 h2 _
  rw [← fl_one aF, ← fl_app] at h1
  obtain ⟨A', c', rfl, hle, _, hnz⟩ := own_formG h1
  refine h A' c' w' ⟨by rw [List.length_append, hO.len]; rfl, hle, hnz, h1⟩ (grown_below h2 (fun k hk => (hO.own.lt k hk).1) hbase) h2
theorem info_iF : (Tryz.prog.info? 3).map (fun i => (i.zero, i.size, i.bytes)) = some (some (.int .i64 0), 1, 8) := by kernel_rfl
theorem append_iF {w : World} {ops : Array Oper} {rest : List Oper} {o : Oper} {a : Act} {Q : Exit → Act → World → Prop} (hg : o.guard = none) (s x : Operand)
    (hop : o.op = Op.call { callee := Callee.builtin Builtin.append, args := #[s, x], argTypes := #[23, 23] })
    {base n c B : Nat} {A : Option Addr} {L : List Int} {i : Int} (hs : a.eval s = .slice A n c) (hO : OwnR iF 1 3 w base A n c L) (hx : a.eval x = .slice (some ⟨B, 0, none⟩) 1 1)
    (hi : ∀ j u, (iF i)[j]? = some u → w.cell? ⟨B, j, none⟩ = some u) (hb : n ≤ 100000) (hbase : base ≤ w.heap.size)
    (h : ∀ A' c' w', OwnR iF 1 3 w' base A' (n + 1) c' (L ++ [i]) → Below base w w' → w.grownBy w' (Value.slice A n c).ownBlock → wpList Tryz.prog ops Q rest (a.put o.dst (.slice A' (n + 1) c')) w') : wpList Tryz.prog ops Q (o :: rest) a w := by
  obtain ⟨i0, hi0, hz0, hz1, hz2⟩ := info_parts info_iF
  refine _root_.Go.wpList_append_own (w := w) hg s x 23 hop base 3 i0 _ 1 8 Tryz.underlying23 hi0 hz0 hz1 hz2 rfl (by decide) (.slice A n c) n (fl iF L) hs hO.own ⟨B, 0, none⟩ 1 1 (iF i) hx rfl (fun j u hu => by
    rcases Nat.eq_zero_or_pos j with rfl | hj
    · simpa [Addr.add] using hi 0 u hu
    · have : j ≠ 0 := by omega
      simpa [Addr.add, this] using hi j u hu) (by rw [← fl_one iF]; exact fl_cell iF_one _) (by unfold maxLen; omega) (by omega) hbase ?_
  intro v' w' h1 h2 _
  rw [← fl_one iF, ← fl_app] at h1
  obtain ⟨A', c', rfl, hle, _, hnz⟩ := own_formG h1
  refine h A' c' w' ⟨by rw [List.length_append, hO.len]; rfl, hle, hnz, h1⟩ (grown_below h2 (fun k hk => (hO.own.lt k hk).1) hbase) h2
theorem info_mF : (Tryz.prog.info? 39).map (fun i => (i.zero, i.size, i.bytes)) = some (some (.agg #[.int .i64 0, .int .i64 0, .int .i64 0, .slice none 0 0]), 4, 48) := by kernel_rfl
theorem append_mF {w : World} {ops : Array Oper} {rest : List Oper} {o : Oper} {a : Act} {Q : Exit → Act → World → Prop} (hg : o.guard = none) (s x : Operand)
    (hop : o.op = Op.call { callee := Callee.builtin Builtin.append, args := #[s, x], argTypes := #[24, 24] })
    {base n c B : Nat} {A : Option Addr} {L : List Mb} {i : Mb} (hs : a.eval s = .slice A n c) (hO : OwnR mF 4 39 w base A n c L) (hx : a.eval x = .slice (some ⟨B, 0, none⟩) 1 1)
    (hi : ∀ j u, (mF i)[j]? = some u → w.cell? ⟨B, j, none⟩ = some u) (hb : n ≤ 100000) (hbase : base ≤ w.heap.size)
    (h : ∀ A' c' w', OwnR mF 4 39 w' base A' (n + 1) c' (L ++ [i]) → Below base w w' → w.grownBy w' (Value.slice A n c).ownBlock → wpList Tryz.prog ops Q rest (a.put o.dst (.slice A' (n + 1) c')) w') : wpList Tryz.prog ops Q (o :: rest) a w := by
  obtain ⟨i0, hi0, hz0, hz1, hz2⟩ := info_parts info_mF
  refine _root_.Go.wpList_append_own (w := w) hg s x 24 hop base 39 i0 _ 4 48 Tryz.underlying24 hi0 hz0 hz1 hz2 rfl (by decide) (.slice A n c) n (fl mF L) hs hO.own ⟨B, 0, none⟩ 1 1 (mF i) hx rfl (fun j u hu => by
    rcases Nat.eq_zero_or_pos j with rfl | hj
    · simpa [Addr.add] using hi 0 u hu
    · have : j ≠ 0 := by omega
      simpa [Addr.add, this] using hi j u hu) (by rw [← fl_one mF]; exact fl_cell mF_one _) (by unfold maxLen; omega) (by omega) hbase ?_
  intro v' w' h1 h2 _
  rw [← fl_one mF, ← fl_app] at h1
  obtain ⟨A', c', rfl, hle, _, hnz⟩ := own_formG h1
  refine h A' c' w' ⟨by rw [List.length_append, hO.len]; rfl, hle, hnz, h1⟩ (grown_below h2 (fun k hk => (hO.own.lt k hk).1) hbase) h2

end Go.Proofs.YthfegbhbokhlkaaGreatDoor

/- Gc -/
/- Layer 11: the package's reader: fail, number, length. -/
namespace Go.Proofs.YthfegbhbokhlkaaGreatDoor
open Go.ChangeShapes Go.WideShapes Go.ChangeAt Go.RowKit Go.PlainAid
set_option linter.unusedSimpArgs false
set_option linter.unusedVariables false

def RdB (w : World) (b : Nat) (s : ByteArray) (p e : Int) : Prop := w.heap[b]? = some (.cells #[.string s, .int .i64 p, .int .i64 e] 66)
theorem RdB.at1 {w : World} {b : Nat} {s : ByteArray} {p e : Int} (h : RdB w b s p e) (x : Int) : RdB (w.setCell ⟨b, 1, none⟩ (.int .i64 x)) b s x e := heap_setCell_same w b 1 _ _ _ h
theorem RdB.at2 {w : World} {b : Nat} {s : ByteArray} {p e : Int} (h : RdB w b s p e) (x : Int) : RdB (w.setCell ⟨b, 2, none⟩ (.int .i64 x)) b s p x := heap_setCell_same w b 2 _ _ _ h
theorem RdB.below {w w' : World} {b : Nat} {s : ByteArray} {p e : Int} (h : RdB w b s p e) (hb : Below w.heap.size w w') : RdB w' b s p e := (hb.block b (lt_heap h)).trans h
theorem RdB.cells {w : World} {b : Nat} {s : ByteArray} {p e : Int} (h : RdB w b s p e) : w.cell? ⟨b, 0, none⟩ = some (.string s) ∧ w.cell? ⟨b, 1, none⟩ = some (.int .i64 p) ∧ w.cell? ⟨b, 2, none⟩ = some (.int .i64 e) ∧ w.frozen? ⟨b, 1, none⟩ = false ∧ w.frozen? ⟨b, 2, none⟩ = false ∧ b < w.heap.size := by
  have h' := h
  unfold RdB at h
  exact ⟨by simp [World.cell?, h], by simp [World.cell?, h], by simp [World.cell?, h], by simp [World.frozen?, h], by simp [World.frozen?, h], lt_heap h'⟩
/-- a step of the reader: nothing behind an error; E the step's error, N its end -/
structure Rdn (s : ByteArray) (e E N p' e' : Int) : Prop where
  rng : 0 ≤ p' ∧ p' ≤ s.size
  keep : ¬ e = 0 → e' = e
  err : e = 0 → e' = E
  pos : e' = 0 → p' = N

def NumRet (w : World) (b : Nat) (s : ByteArray) (p e z : Int) (r : Ending) (w' : World) : Prop :=
  ∃ v p' e', r = .returned (.int .i64 v) ∧ v = (if e = 0 then unsV s p z else 0) ∧ RdB w' b s p' e' ∧ Off b w w' ∧ Rdn s e (unsE s p z) (p + z) p' e'
def LenRet (w : World) (b : Nat) (s : ByteArray) (p e m : Int) (r : Ending) (w' : World) : Prop :=
  ∃ v p' e', r = .returned (.int .i64 v) ∧ v = (if e' = 0 then unsV s p 2 else 0) ∧ RdB w' b s p' e' ∧ Off b w w' ∧ Rdn s e (cuE s p m) (p + 2) p' e'
theorem fail_any (b : Nat) (s : ByteArray) (p e x : Int) (w : World) (h : RdB w b s p e) : Calls Tryz.prog 34 #[.pointer (some ⟨b, 0, none⟩), .int .i64 x] w fun r w' => r = .returned (.tuple #[]) ∧ RdB w' b s p (if e = 0 then x else e) ∧ Off b w w' := by
  obtain ⟨c0, c1, c2, q1, q2, hlt⟩ := h.cells
  have H := Lib.hid h
  clear h
  by_cases he : e = 0
  · subst he
    go_enter Tryz.func34, Tryz.ntmps34
    go_wp2
    go_end0
    exact ⟨rfl, H.out.at2 x, (Off.refl _ _).put _ _⟩
  · go_enter Tryz.func34, Tryz.ntmps34
    go_wp2
    go_end0
    exact ⟨rfl, (by first | exact H.out | (rw [if_neg he]; exact H.out)), Off.refl _ _⟩
set_option maxRecDepth 100000 in
set_option maxHeartbeats 1000000 in
theorem number_any (b : Nat) (s : ByteArray) (p e z : Int) (hz : okSize z) (hs : s.size ≤ 2000000) (hp : 0 ≤ p ∧ p ≤ s.size) (w : World) (h : RdB w b s p e) :
    Calls Tryz.prog 30 #[.pointer (some ⟨b, 0, none⟩), .int .i64 z] w (NumRet w b s p e z) := by
  obtain ⟨c0, c1, c2, q1, q2, hlt⟩ := h.cells
  have H := Lib.hid h
  have HP := Lib.hid hp
  have hz' : 1 ≤ z ∧ z ≤ 8 := by unfold okSize at hz; omega
  obtain ⟨hp0, hp1⟩ := hp
  clear h
  by_cases he : e = 0
  · subst he
    have HU := Lib.hid (fun W => (uns_any s p z (by omega) W).mono fun e w' ⟨h1, h2⟩ => (⟨h1, h2.symm⟩ : e = _ ∧ w' = W))
    have HD := fun q => (show RdB (w.drewN q) b s p 0 from H.out)
    have HO := fun q => Off.of (b := b) (below_dr (Below.refl w.heap.size w) q)
    rcases un_e HP.out hz with h | h
    · have hu := un_0 hz h
      go_enter Tryz.func30, Tryz.ntmps30
      go_wp2
      go_quiet ((go_at_call 53; exact Calls.quiet_of_same (HU.out _)))
      go_wp2
      go_ret
      exact ⟨_, p + z, 0, rfl, rfl, (HD _).at1 _, (HO _).put _ _, ⟨by omega, fun h => absurd rfl h, fun _ => h.symm, fun _ => rfl⟩⟩
    · have g : unsV s p z = 0 := by unfold unsV; rw [if_neg (by omega)]
      go_enter Tryz.func30, Tryz.ntmps30
      go_wp2
      go_quiet ((go_at_call 53; exact Calls.quiet_of_same (HU.out _)))
      go_wp2_with (go_at_call 34; refine (fail_any b s p 0 _ _ (HD _)).mono ?_; rintro e w1 ⟨rfl, hr, ho⟩)
      go_ret
      exact ⟨0, p, 3, rfl, by rw [if_pos rfl, g], by simpa using hr, (HO _).trans ho, ⟨HP.out, fun h => absurd rfl h, fun _ => h.symm, fun h => by cases h⟩⟩
  · go_enter Tryz.func30, Tryz.ntmps30
    go_wp2
    go_ret
    exact ⟨0, p, e, rfl, by rw [if_neg he], H.out, Off.refl _ _, ⟨HP.out, fun _ => rfl, fun h => absurd h he, fun h => absurd h he⟩⟩
set_option maxRecDepth 100000 in
set_option maxHeartbeats 1000000 in
theorem length_any (b : Nat) (s : ByteArray) (p e m : Int) (hm : 0 ≤ m ∧ m ≤ 1000) (hs : s.size ≤ 2000000) (hp : 0 ≤ p ∧ p ≤ s.size) (w : World) (h : RdB w b s p e) :
    Calls Tryz.prog 31 #[.pointer (some ⟨b, 0, none⟩), .int .i64 m] w (LenRet w b s p e m) := by
  obtain ⟨hm0, hm1⟩ := hm
  have hu := uns2_bd s p
  have hv : e = 0 → unsE s p 2 = 0 ∨ unsE s p 2 = 3 ∧ unsV s p 2 = 0 := fun _ => by
    rcases nu_e hp with h | h
    · exact Or.inl h
    · exact Or.inr ⟨h, by unfold unsV; rw [if_neg (by omega)]⟩
  have HN := Lib.hid (fun w h => number_any b s p e 2 ok2 hs hp w h)
  have HV := Lib.hid hv
  have H := Lib.hid h
  have hxb : 0 ≤ (if e = 0 then unsV s p 2 else 0) ∧ (if e = 0 then unsV s p 2 else 0) ≤ 65535 := by split <;> omega
  obtain ⟨x, hx⟩ : ∃ x, (if e = 0 then unsV s p 2 else 0) = x := ⟨_, rfl⟩
  rw [hx] at hxb
  have HX := Lib.hid hx
  clear h hv hx
  by_cases hxm : m < x
  · go_enter Tryz.func31, Tryz.ntmps31
    go_wp2_with (first | (go_at_call 30; refine (HN.out _ H.out).mono ?_; rintro r w1 ⟨v, p1, e1, rfl, hv, hr1, ho1, hn1⟩; obtain rfl : v = x := hv.trans HX.out; have H1 := Lib.hid hr1; clear hr1 hv) | (go_at_call 34; refine (fail_any b s p1 e1 _ _ H1.out).mono ?_; rintro r w2 ⟨rfl, hr2, ho2⟩))
    go_ret
    have hx := HX.out
    have he : e = 0 := by
      by_cases he : e = 0
      · exact he
      · rw [if_neg he] at hx; omega
    rw [if_pos he] at hx
    have h0 : unsE s p 2 = 0 := by rcases HV.out he with h | h <;> omega
    have h1 : e1 = 0 := (hn1.err he).trans h0
    have hc : cuE s p m = 5 := by unfold cuE; rw [if_pos h0, if_pos (by omega)]
    rw [if_pos h1] at hr2
    exact ⟨0, p1, 5, rfl, by rw [if_neg (by decide)], hr2, ho1.trans ho2, ⟨hn1.rng, fun h => absurd he h, fun _ => hc.symm, fun h => by cases h⟩⟩
  · go_enter Tryz.func31, Tryz.ntmps31
    go_wp2_with (first | (go_at_call 30; refine (HN.out _ H.out).mono ?_; rintro r w1 ⟨v, p1, e1, rfl, hv, hr1, ho1, hn1⟩; obtain rfl : v = x := hv.trans HX.out; have H1 := Lib.hid hr1; clear hr1 hv))
    go_ret
    have hx := HX.out
    refine ⟨_, p1, e1, rfl, ?_, H1.out, ho1, ⟨hn1.rng, hn1.keep, fun he => ?_, hn1.pos⟩⟩
    · rw [← hx]
      by_cases he : e = 0
      · rw [if_pos he]
        rcases HV.out he with h | h
        · rw [if_pos ((hn1.err he).trans h)]
        · rw [if_neg (by have := hn1.err he; omega)]; exact h.2
      · rw [if_neg he, if_neg (by have := hn1.keep he; omega)]
    · rw [if_pos he] at hx
      unfold cuE
      rcases HV.out he with h | h
      · rw [if_pos h, if_neg (by omega)]; exact (hn1.err he).trans h
      · rw [if_neg (by omega)]; have := hn1.err he; omega

end Go.Proofs.YthfegbhbokhlkaaGreatDoor

/- Gd -/
/- Layer 11: the package's reader: attributes. -/
namespace Go.Proofs.YthfegbhbokhlkaaGreatDoor
open Go.ChangeShapes Go.WideShapes Go.ChangeAt Go.RowKit Go.PlainAid
set_option linter.unusedSimpArgs false
set_option linter.unusedVariables false

def AsRet (w : World) (b : Nat) (s : ByteArray) (p e : Int) (r : Ending) (w' : World) : Prop :=
  ∃ A n c L p' e', r = .returned (.slice A n c) ∧ OwnR aF 2 93 w' w.heap.size A n c L ∧ RdB w' b s p' e' ∧ Off b w w' ∧ Rdn s e (asE s p) (asN s p) p' e' ∧ (e' = 0 → L = asL s p)
/-- between two rounds -/
structure AsI (w wr : World) (b : Nat) (s : ByteArray) (q : Int) (e1 : Int) (m k : Nat) (A : Option Addr) (c : Nat) (L : List Atr) (pk ek : Int) : Prop where
  le : k ≤ m
  own : OwnR aF 2 93 wr w.heap.size A k c L
  rd : RdB wr b s pk ek
  off : Off b w wr
  rng : 0 ≤ pk ∧ pk ≤ s.size
  err : e1 = 0 → ek = lkE (taC s) (taN s) (taE s) q k
  bad : ¬ e1 = 0 → ek = e1 ∧ m = 0
  val : e1 = 0 → ek = 0 → pk = lkN (taC s) (taN s) (taE s) q k ∧ L = lkL (taC s) (taN s) (taE s) q k
theorem AsI.done {w wr : World} {b : Nat} {s : ByteArray} {p e p1 e1 : Int} {m k : Nat} {A : Option Addr} {c : Nat} {L : List Atr} {pk ek : Int} (I : AsI w wr b s (p + 2) e1 m k A c L pk ek) (h : k = m ∨ ¬ ek = 0) (hn : Rdn s e (cuE s p 16) (p + 2) p1 e1) (hm : (m : Int) = if e1 = 0 then unsV s p 2 else 0) :
    AsRet w b s p e (.returned (.slice A k c)) wr := by
  refine ⟨A, k, c, L, pk, ek, rfl, I.own, I.rd, I.off, ?_, ?_⟩
  all_goals
    by_cases h1 : e1 = 0
    · have he : e = 0 := by
        by_cases he : e = 0
        · exact he
        · have := hn.keep he; omega
      have hc : cuE s p 16 = 0 := (hn.err he).symm.trans h1
      rw [if_pos h1] at hm
      have hmt : (unsV s p 2).toNat = m := by omega
      have hE : ek = lkE (taC s) (taN s) (taE s) (p + 2) m := by
        rw [I.err h1]
        rcases h with h | h
        · rw [h]
        · rw [I.err h1] at h
          exact (lk_stay h m I.le).symm
      have hA : asE s p = ek := by unfold asE; rw [if_pos hc, hmt, hE]
      have hk : ek = 0 → k = m := fun h0 => h.resolve_right (fun h => h h0)
      first
        | exact ⟨I.rng, fun h => absurd he h, fun _ => hA.symm, fun h0 => by rw [(I.val h1 h0).1, hk h0]; unfold asN; rw [hmt]⟩
        | exact fun h0 => by rw [(I.val h1 h0).2, hk h0]; unfold asL; rw [hmt]
    · have hb := I.bad h1
      first
        | exact ⟨I.rng, fun he => hb.1.trans (hn.keep he), fun he => by rw [hb.1, hn.err he]; unfold asE; rw [if_neg (by rw [← hn.err he]; exact h1)], fun h0 => absurd (hb.1.symm.trans h0) h1⟩
        | exact fun h0 => absurd (hb.1.symm.trans h0) h1
theorem newA {w : World} (x : Atr) : ∀ j u, (aF x)[j]? = some u → (w.alloc (.cells #[.int .i64 x.n, .string x.s] 93)).cell? ⟨w.heap.size, j, none⟩ = some u := by
  intro j u hu
  have h := World.alloc_heap_new w (.cells #[.int .i64 x.n, .string x.s] 93)
  generalize w.alloc (.cells #[.int .i64 x.n, .string x.s] 93) = W at h ⊢
  rcases j with _ | _ | j
  · simp [aF] at hu; subst hu; simp [World.cell?, h]
  · simp [aF] at hu; subst hu; simp [World.cell?, h]
  · simp [aF] at hu
theorem two_cellsA {W : World} {B : Nat} {x y : Value} {t : TypeId} (h : W.heap[B]? = some (.cells #[x, y] t)) : W.cell? ⟨B, 0, none⟩ = some x ∧ W.cell? ⟨B, 1, none⟩ = some y ∧ W.frozen? ⟨B, 1, none⟩ = false ∧ B < W.heap.size :=
  ⟨by simp [World.cell?, h], by simp [World.cell?, h], by simp [World.frozen?, h], lt_heap h⟩
/-- one round's end -/
theorem AsI.step {w wr w' : World} {b : Nat} {s : ByteArray} {q : Int} {e1 : Int} {m k : Nat} {A A' : Option Addr} {c c' : Nat} {L : List Atr} {pk p' e' : Int} {x : Atr} (I : AsI w wr b s q e1 m k A c L pk 0) (hlt : k < m)
    (hO : OwnR aF 2 93 w' w.heap.size A' (k + 1) c' (L ++ [x])) (hR : RdB w' b s p' e') (hF : Off b w w') (hr : 0 ≤ p' ∧ p' ≤ s.size) (hE : e' = taE s pk) (hV : e' = 0 → p' = taN s pk ∧ x = taC s pk) : AsI w w' b s q e1 m (k + 1) A' c' (L ++ [x]) p' e' := by
  have h1 : e1 = 0 := by
    by_cases h : e1 = 0
    · exact h
    · have := (I.bad h).2; omega
  have hk := (I.err h1).symm
  obtain ⟨v1, v2⟩ := I.val h1 rfl
  obtain ⟨l1, l2, l3⟩ := lk_ok hk
  refine ⟨by omega, hO, hR, hF, hr, fun _ => by rw [l3, ← v1]; exact hE, fun h => absurd h1 h, fun _ h0 => ⟨by rw [l2, ← v1]; exact (hV h0).1, by rw [l1, ← v1, ← v2, (hV h0).2]⟩⟩

set_option maxRecDepth 100000 in
set_option maxHeartbeats 4000000 in
theorem attributes_any (b : Nat) (s : ByteArray) (p e : Int) (hs : s.size ≤ 2000000) (hp : 0 ≤ p ∧ p ≤ s.size) (w : World) (h : RdB w b s p e) :
    Calls Tryz.prog 33 #[.pointer (some ⟨b, 0, none⟩)] w (AsRet w b s p e) := by
  have hu := uns2_bd s p
  have H := Lib.hid h
  have HL := Lib.hid (fun w h => length_any b s p e 16 (by omega) hs hp w h)
  have hbw := lt_heap h
  clear h
  go_enter Tryz.func33, Tryz.ntmps33
  go_wp2_with (go_at_call 31; refine (HL.out _ H.out).mono ?_; rintro r w1 ⟨v, p1, e1, rfl, hv, hr1, ho1, hn1⟩; have HV := Lib.hid hv; have hvb : 0 ≤ v ∧ v ≤ 65535 := (by rw [hv]; split <;> omega); have H1 := Lib.hid hr1; clear hr1 hv)
  obtain ⟨m, rfl⟩ : ∃ m : Nat, v = (m : Int) := ⟨v.toNat, by omega⟩
  have hst : AsI w w1 b s (p + 2) e1 m 0 none 0 [] p1 e1 := by
    refine ⟨Nat.zero_le _, OwnR.nil _ _ _ _ _, H1.out, ho1, hn1.rng, fun h => h, fun h => ⟨rfl, ?_⟩, fun _ h0 => ⟨hn1.pos h0, rfl⟩⟩
    have := HV.out
    rw [if_neg h] at this
    omega
  have HST := Lib.hid hst
  have HN := Lib.hid hn1
  clear hst hn1 ho1
  go_loopw [3, 4] (fun l n wr => ∃ (k : Nat) (A : Option Addr) (c : Nat) (L : List Atr) (pk ek : Int), n = .int .i64 ((m : Int) - k) ∧ l = .slice A k c ∧ AsI w wr b s (p + 2) e1 m k A c L pk ek) (fun _ n _ => (intOf n).toNat)
  case atStart => exact ⟨0, none, 0, [], p1, e1, by simp, rfl, HST.out⟩
  case round =>
    obtain ⟨k, A, c, L, pk, ek, rfl, rfl, I⟩ := hrel
    have hle := I.le
    have II := Lib.hid I
    obtain ⟨c0, c1, c2, q1, q2, hlt'⟩ := I.rd.cells
    clear I
    by_cases hkm : k < m
    · by_cases hek : ek = 0
      · subst hek
        have hg : (0 : Int) < (m : Int) - k := by omega
        have hsz0 := II.out.off.size
        have HGR := Lib.hid (fun (B : Nat) (hB : _ ≤ B) (hv : (Value.slice A k c).ownBlock = some B) => Nat.not_lt.2 hB (II.out.own.own.lt B hv).2)
        go_upto_region 6 with (go_at_call 30; refine (number_any b s pk 0 2 ok2 hs II.out.rng _ II.out.rd).mono ?_; rintro r w2 ⟨v1, p2, e2, rfl, hv1, hr2, ho2, hn2⟩; have HV1 := Lib.hid hv1; have HR2 := Lib.hid hr2; have HN2 := Lib.hid hn2; have hsz1 := ho2.size; have HO2 := Lib.hid ho2; clear hv1 hr2 hn2 ho2)
        have kc := World.alloc_heap_new w2 (.cells #[.int .i64 v1, .string ⟨#[]⟩] 93)
        have R := HR2.out.below (below_al (Below.refl _ w2) (.cells #[.int .i64 v1, .string ⟨#[]⟩] 93))
        have hF := (II.out.off.trans HO2.out).al (.cells #[.int .i64 v1, .string ⟨#[]⟩] 93)
        have hO := (II.out.own.off HO2.out hbw).below (below_al (Below.refl _ w2) (.cells #[.int .i64 v1, .string ⟨#[]⟩] 93))
        generalize w2.alloc (.cells #[.int .i64 v1, .string ⟨#[]⟩] 93) = W2 at kc R hF hO ⊢
        have hBb : b < w2.heap.size := by omega
        have hBw : w.heap.size ≤ w2.heap.size := by omega
        have hBr := HGR.out w2.heap.size hsz1
        generalize w2.heap.size = B at kc hBb hBw hBr ⊢
        have HF := Lib.hid hF
        have HO := Lib.hid hO
        have HR := Lib.hid R
        clear R hF hO
        go_upto_region 7 with (go_at_call 30; refine (number_any b s p2 e2 4 ok4 hs HN2.out.rng _ HR.out).mono ?_; rintro r w3 ⟨v2, p3, e3, rfl, hv2, hr3, ho3, hn3⟩; replace kc := ho3.keep kc (by omega); have HV2 := Lib.hid hv2; replace HR := Lib.hid hr3; have HN3 := Lib.hid hn3; replace HO := Lib.hid (HO.out.off ho3 hbw); replace HF := Lib.hid (HF.out.trans ho3); clear hv2 hr3 hn3 ho3)
        have hvb : 0 ≤ v2 ∧ v2 ≤ 4294967295 := by have h9 := un4_bd s p2; rw [HV2.out]; split <;> omega
        obtain ⟨hv0, hv1⟩ := hvb
        have hp3 := HN3.out.rng
        obtain ⟨hp30, hp31⟩ := hp3
        obtain ⟨k0, k1, kf, hlt⟩ := two_cellsA kc
        obtain ⟨c0, c1, c2, q1, q2, hlt'⟩ := HR.out.cells
        have KC := Lib.hid kc
        clear kc
        have hr9 : 0 ≤ p3 ∧ p3 ≤ s.size := ⟨hp30, hp31⟩
        by_cases h5 : 65535 < v2
        · have e20 : e2 = 0 := by
            by_cases h : e2 = 0
            · exact h
            · have := HV2.out; rw [if_neg h] at this; omega
          have e30 : e3 = 0 := by
            rcases un_e HN2.out.rng ok4 with h | h
            · exact (HN3.out.err e20).trans h
            · have := HV2.out; rw [if_pos e20] at this; unfold unsV at this; rw [if_neg (by omega)] at this; omega
          have hT : (8 : Int) = taE s pk := by
            have a1 := HN2.out.err rfl
            have a2 := HN2.out.pos e20
            have a3 := HN3.out.err e20
            have a4 := HV2.out
            rw [if_pos e20, a2] at a4
            rw [a2] at a3
            unfold taE
            rw [if_pos (by omega), if_pos (by omega), if_pos (by omega)]
          subst e30
          have HT := Lib.hid hT
          clear hT e20
          go_upto_region 9 with (go_at_call 34; refine (fail_any b s p3 0 _ _ HR.out).mono ?_; rintro r w4 ⟨rfl, hr4, ho4⟩; replace HR := Lib.hid hr4; replace HO := Lib.hid (HO.out.off ho4 hbw); replace HF := Lib.hid (HF.out.trans ho4); have KC' := Lib.hid (ho4.keep KC.out (by omega)); clear hr4 ho4)
          replace HR := Lib.hid (show RdB w4 b s p3 8 from by simpa using HR.out)
          replace KC := KC'
          clear KC' k0 k1 kf hlt c0 c1 c2 q1 q2 hlt'
          have kc := KC.out
          obtain ⟨k0, k1, kf, hlt⟩ := two_cellsA kc
          clear kc
          obtain ⟨c0, c1, c2, q1, q2, hlt'⟩ := HR.out.cells
          by_cases h6 : (s.size : Int) - p3 < v2
          · go_quiet (fail)
            replace HR := Lib.hid (show RdB (w4.drewN nq) b s p3 8 from HR.out)
            replace HO := Lib.hid (HO.out.below (below_dr (Below.refl _ _) nq))
            replace HF := Lib.hid (HF.out.dr nq)
            replace KC := Lib.hid (show (w4.drewN nq).heap[B]? = _ from KC.out)
            go_upto_region 11 with (go_at_call 34; refine (fail_any b s p3 8 _ _ HR.out).mono ?_; rintro r w5 ⟨rfl, hr4, ho4⟩; replace HR := Lib.hid hr4; replace HO := Lib.hid (HO.out.off ho4 hbw); replace HF := Lib.hid (HF.out.trans ho4); have KC' := Lib.hid (ho4.keep KC.out (by omega)); clear hr4 ho4)
            replace HR := Lib.hid (show RdB w5 b s p3 8 from by simpa using HR.out)
            replace KC := KC'
            clear KC' k0 k1 kf hlt c0 c1 c2 q1 q2 hlt'
            have kc := KC.out
            obtain ⟨k0, k1, kf, hlt⟩ := two_cellsA kc
            clear kc
            obtain ⟨c0, c1, c2, q1, q2, hlt'⟩ := HR.out.cells
            go_wp2_with (at_builtin; refine append_aF (by rfl) _ _ (by rfl) (by rfl) (HO.out.below (below_al (Below.refl _ _) _)) (by rfl) (newA ⟨v1, ⟨#[]⟩⟩) (by omega) (by have := HF.out.size; simp; omega) ?_; intro A2 c2' w9 hO9 hb9 hg9)
            go_roundw
            case rel => exact ⟨k + 1, A2, c2', _, p3, 8, by congr 1; omega, rfl, AsI.step II.out hkm hO9 ((hb9.block b hbw).trans (laid_old HR.out)) ((HF.out.al _).step hb9) (hr9) (HT.out) (fun h0 => absurd h0 (by decide))⟩
            case measure => simp [intOf]; omega
          · go_quiet (fail)
            replace HR := Lib.hid (show RdB (w4.drewN nq) b s p3 8 from HR.out)
            replace HO := Lib.hid (HO.out.below (below_dr (Below.refl _ _) nq))
            replace HF := Lib.hid (HF.out.dr nq)
            go_wp2_with (at_builtin; refine append_aF (by rfl) _ _ (by rfl) (by rfl) (HO.out.below (below_al (Below.refl _ _) _)) (by rfl) (newA ⟨v1, ⟨#[]⟩⟩) (by omega) (by have := HF.out.size; simp; omega) ?_; intro A2 c2' w9 hO9 hb9 hg9)
            go_roundw
            case rel => exact ⟨k + 1, A2, c2', _, p3, 8, by congr 1; omega, rfl, AsI.step II.out hkm hO9 ((hb9.block b hbw).trans (laid_old HR.out)) ((HF.out.al _).step hb9) (hr9) (HT.out) (fun h0 => absurd h0 (by decide))⟩
            case measure => simp [intOf]; omega
        · by_cases h6 : (s.size : Int) - p3 < v2
          · have hT : (if e3 = 0 then (3 : Int) else e3) = taE s pk ∧ ¬ taE s pk = 0 := by
              have a1 := HN2.out.err rfl
              rcases nu_e II.out.rng with h | h
              · have e20 : e2 = 0 := a1.trans h
                have a2 := HN2.out.pos e20
                have a3 := HN3.out.err e20
                have a4 := HV2.out
                rw [if_pos e20, a2] at a4
                rw [a2] at a3
                rcases un_e (s := s) (p := pk + 2) (by have := HN2.out.rng; omega) ok4 with h' | h'
                · have e30 : e3 = 0 := a3.trans h'
                  have a5 := HN3.out.pos e30
                  have hx : taE s pk = 3 := by
                    unfold taE
                    rw [if_pos h, if_pos h', if_neg (by omega), if_pos (by omega)]
                  rw [hx, if_pos e30]; exact ⟨rfl, by decide⟩
                · have hx : taE s pk = 3 := by
                    unfold taE
                    rw [if_pos h, if_neg (by omega)]
                  rw [hx, if_neg (by omega)]; exact ⟨a3.trans h', by decide⟩
              · have hx : taE s pk = 3 := by
                  unfold taE
                  rw [if_neg (by omega)]
                have hk := HN3.out.keep (by omega)
                rw [hx, if_neg (by omega)]; exact ⟨by omega, by decide⟩
            have HT := Lib.hid hT
            clear hT
            go_upto_region 9 with fail
            go_quiet (fail)
            replace HR := Lib.hid (show RdB (w3.drewN nq) b s p3 e3 from HR.out)
            replace HO := Lib.hid (HO.out.below (below_dr (Below.refl _ _) nq))
            replace HF := Lib.hid (HF.out.dr nq)
            replace KC := Lib.hid (show (w3.drewN nq).heap[B]? = _ from KC.out)
            go_upto_region 11 with (go_at_call 34; refine (fail_any b s p3 e3 _ _ HR.out).mono ?_; rintro r w5 ⟨rfl, hr4, ho4⟩; replace HR := Lib.hid hr4; replace HO := Lib.hid (HO.out.off ho4 hbw); replace HF := Lib.hid (HF.out.trans ho4); have KC' := Lib.hid (ho4.keep KC.out (by omega)); clear hr4 ho4)
            obtain ⟨e5, he5⟩ : ∃ e5, (if e3 = 0 then (3 : Int) else e3) = e5 := ⟨_, rfl⟩
            rw [he5] at HR HT
            have h7 : ¬ e5 = 0 := by rw [HT.out.1]; exact HT.out.2
            replace KC := KC'
            clear KC' k0 k1 kf hlt c0 c1 c2 q1 q2 hlt'
            have kc := KC.out
            obtain ⟨k0, k1, kf, hlt⟩ := two_cellsA kc
            clear kc
            obtain ⟨c0, c1, c2, q1, q2, hlt'⟩ := HR.out.cells
            go_wp2_with (at_builtin; refine append_aF (by rfl) _ _ (by rfl) (by rfl) (HO.out.below (below_al (Below.refl _ _) _)) (by rfl) (newA ⟨v1, ⟨#[]⟩⟩) (by omega) (by have := HF.out.size; simp; omega) ?_; intro A2 c2' w9 hO9 hb9 hg9)
            go_roundw
            case rel => exact ⟨k + 1, A2, c2', _, p3, e5, by congr 1; omega, rfl, AsI.step II.out hkm hO9 ((hb9.block b hbw).trans (laid_old HR.out)) ((HF.out.al _).step hb9) (hr9) (HT.out.1) (fun h0 => absurd h0 h7)⟩
            case measure => simp [intOf]; omega
          · by_cases h7 : e3 = 0
            · have hT : taE s pk = 0 ∧ v1 = unsV s pk 2 ∧ p3 = pk + 6 ∧ v2 = unsV s (pk + 2) 4 := by
                have e20 : e2 = 0 := by
                  by_cases h : e2 = 0
                  · exact h
                  · have := HN3.out.keep h; omega
                have a1 := HN2.out.err rfl
                have a2 := HN2.out.pos e20
                have a3 := HN3.out.err e20
                have a4 := HV2.out
                have a5 := HN3.out.pos h7
                have a6 := HV1.out
                simp only [if_true] at a6
                rw [if_pos e20, a2] at a4
                rw [a2] at a3
                refine ⟨?_, a6, by omega, a4⟩
                unfold taE
                rw [if_pos (by omega), if_pos (by omega), if_neg (by omega), if_neg (by omega)]
              subst h7
              have HT := Lib.hid hT
              clear hT
              go_upto_region 9 with fail
              go_quiet (fail)
              go_wp2
              go_region
              go_upto_region 14 with fail
              have e1 : (w3.drewN (nq + 1)).heap[B]? = _ := KC.out
              have e2 := heap_setCell_same (w3.drewN (nq + 1)) B 1 _ _ (.string (s.extract p3.toNat (p3 + v2).toNat)) e1
              have o1 : Off B w3 ((w3.drewN (nq + 1)).setCell ⟨B, 1, none⟩ (.string (s.extract p3.toNat (p3 + v2).toNat))) := ((Off.refl B w3).dr _).put _ _
              have r1 : RdB ((w3.drewN (nq + 1)).setCell ⟨B, 1, none⟩ (.string (s.extract p3.toNat (p3 + v2).toNat))) b s p3 0 := o1.keep HR.out (by omega)
              replace HO := Lib.hid (HO.out.off2 o1 hBr)
              replace HF := Lib.hid ((HF.out.dr (nq + 1)).st (p := ⟨B, 1, none⟩) (Or.inr hBw) (.string (s.extract p3.toNat (p3 + v2).toNat)))
              clear o1 e1
              have hlt2 : b < ((w3.drewN (nq + 1)).setCell ⟨B, 1, none⟩ (.string (s.extract p3.toNat (p3 + v2).toNat))).heap.size := lt_heap r1
              generalize (w3.drewN (nq + 1)).setCell ⟨B, 1, none⟩ (.string (s.extract p3.toNat (p3 + v2).toNat)) = W6 at e2 r1 HO HF hlt2 ⊢
              have o2 : Off b W6 (W6.setCell ⟨b, 1, none⟩ (.int .i64 (p3 + v2))) := (Off.refl b W6).put _ _
              have e3 := o2.keep e2 (by omega)
              replace HR := Lib.hid (r1.at1 (p3 + v2))
              replace HO := Lib.hid (HO.out.off o2 hbw)
              replace HF := Lib.hid (HF.out.trans o2)
              clear e2 r1 o2
              generalize W6.setCell ⟨b, 1, none⟩ (.int .i64 (p3 + v2)) = W7 at e3 HR HO HF ⊢
              replace KC := Lib.hid e3
              clear e3 k0 k1 kf hlt c0 c1 c2 q1 q2 hlt'
              have kc := KC.out
              obtain ⟨k0, k1, kf, hlt⟩ := two_cellsA kc
              clear kc
              have hV : p3 + v2 = taN s pk ∧ (⟨v1, s.extract p3.toNat (p3 + v2).toNat⟩ : Atr) = taC s pk := by
                obtain ⟨_, t1, t2, t3⟩ := HT.out
                unfold taN taC
                rw [t1, t2, t3]
                exact ⟨rfl, rfl⟩
              have HVV := Lib.hid hV
              clear hV
              go_wp2_with (at_builtin; refine append_aF (by rfl) _ _ (by rfl) (by rfl) (HO.out.below (below_al (Below.refl _ _) _)) (by rfl) (newA ⟨v1, s.extract p3.toNat (p3 + v2).toNat⟩) (by omega) (by have := HF.out.size; simp; omega) ?_; intro A2 c2' w9 hO9 hb9 hg9)
              go_roundw
              case rel => exact ⟨k + 1, A2, c2', _, p3 + v2, 0, by congr 1; omega, rfl, AsI.step II.out hkm hO9 ((hb9.block b hbw).trans (laid_old HR.out)) ((HF.out.al _).step hb9) (by omega) (HT.out.1.symm) (fun _ => HVV.out)⟩
              case measure => simp [intOf]; omega
            · have hT : e3 = taE s pk := by
                have a1 := HN2.out.err rfl
                rcases nu_e II.out.rng with h | h
                · have e20 : e2 = 0 := a1.trans h
                  have a2 := HN2.out.pos e20
                  have a3 := HN3.out.err e20
                  rw [a2] at a3
                  rcases un_e (s := s) (p := pk + 2) (by have := HN2.out.rng; omega) ok4 with h' | h'
                  · exact absurd (a3.trans h') h7
                  · have hx : taE s pk = 3 := by
                      unfold taE
                      rw [if_pos h, if_neg (by omega)]
                    rw [hx]; exact a3.trans h'
                · have hx : taE s pk = 3 := by
                    unfold taE
                    rw [if_neg (by omega)]
                  have hk := HN3.out.keep (by omega)
                  rw [hx]; omega
              have HT := Lib.hid hT
              clear hT
              go_upto_region 9 with fail
              go_quiet (fail)
              replace HR := Lib.hid (show RdB (w3.drewN nq) b s p3 e3 from HR.out)
              replace HO := Lib.hid (HO.out.below (below_dr (Below.refl _ _) nq))
              replace HF := Lib.hid (HF.out.dr nq)
              go_wp2_with (at_builtin; refine append_aF (by rfl) _ _ (by rfl) (by rfl) (HO.out.below (below_al (Below.refl _ _) _)) (by rfl) (newA ⟨v1, ⟨#[]⟩⟩) (by omega) (by have := HF.out.size; simp; omega) ?_; intro A2 c2' w9 hO9 hb9 hg9)
              go_roundw
              case rel => exact ⟨k + 1, A2, c2', _, p3, e3, by congr 1; omega, rfl, AsI.step II.out hkm hO9 ((hb9.block b hbw).trans (laid_old HR.out)) ((HF.out.al _).step hb9) (hr9) (HT.out) (fun h0 => absurd h0 h7)⟩
              case measure => simp [intOf]; omega
      · have hg : (0 : Int) < (m : Int) - k := by omega
        go_wp2
        go_ret
        exact AsI.done II.out (Or.inr hek) HN.out HV.out
    · obtain rfl : k = m := by omega
      have hg : ¬ (0 : Int) < (k : Int) - k := by omega
      go_wp2
      go_ret
      exact AsI.done II.out (Or.inl rfl) HN.out HV.out

end Go.Proofs.YthfegbhbokhlkaaGreatDoor

/- Ge -/
/- Layer 11: the package's reader: members. -/
namespace Go.Proofs.YthfegbhbokhlkaaGreatDoor
open Go.ChangeShapes Go.WideShapes Go.ChangeAt Go.RowKit Go.PlainAid
set_option linter.unusedSimpArgs false
set_option linter.unusedVariables false

theorem own_types {w : World} {B1 e1 z1 n1 B2 e2 z2 n2 : Nat} {v1 v2 : Value} {xs1 xs2 : List Value} (h1 : w.ownsRow B1 e1 z1 v1 n1 xs1) (h2 : w.ownsRow B2 e2 z2 v2 n2 xs2) (he : e1 ≠ e2) : v1.ownBlock = none ∨ v1.ownBlock ≠ v2.ownBlock := by
  rcases h1.2 with ⟨rfl, _⟩ | ⟨g, cap, cur, rfl, _, hg, _⟩
  · exact Or.inl rfl
  · right
    rcases h2.2 with ⟨rfl, _⟩ | ⟨g2, cap2, cur2, rfl, _, hg2, _⟩
    · intro h; cases h
    · intro h
      have : g = g2 := Option.some.inj h
      subst this
      rw [hg] at hg2
      have := Option.some.inj hg2
      injection this with _ h3 _
      exact he h3
theorem OwnR.grown {α β : Type} {F : α → List Value} {G : β → List Value} {z z2 : Nat} {e e2 : TypeId} {w w' : World} {base base2 : Nat} {A A2 : Option Addr} {n c n2 c2 : Nat} {L : List α} {M : List β} (h : OwnR F z e w base A n c L) (k : OwnR G z2 e2 w base2 A2 n2 c2 M) (he : e ≠ e2) (hg : w.grownBy w' (Value.slice A2 n2 c2).ownBlock) : OwnR F z e w' base A n c L :=
  ⟨h.len, h.le, h.nz, h.own.kept hg (own_types h.own k.own he)⟩
theorem neAM : 93 ≠ 39 := by decide
theorem newM {w : World} (x : Mb) : ∀ j u, (mF x)[j]? = some u → (w.alloc (.cells #[.int .i64 x.f, .int .i64 x.n, .int .i64 x.d, .slice x.A x.k x.c] 39)).cell? ⟨w.heap.size, j, none⟩ = some u := by
  intro j u hu
  have h := World.alloc_heap_new w (.cells #[.int .i64 x.f, .int .i64 x.n, .int .i64 x.d, .slice x.A x.k x.c] 39)
  generalize w.alloc (.cells #[.int .i64 x.f, .int .i64 x.n, .int .i64 x.d, .slice x.A x.k x.c] 39) = W at h ⊢
  rcases j with _ | _ | _ | _ | j
  · simp [mF] at hu; subst hu; simp [World.cell?, h]
  · simp [mF] at hu; subst hu; simp [World.cell?, h]
  · simp [mF] at hu; subst hu; simp [World.cell?, h]
  · simp [mF] at hu; subst hu; simp [World.cell?, h]
  · simp [mF] at hu
/-- three numbers one after another -/
theorem three_nums {s : ByteArray} {p p1 e1 p2 e2 p3 e3 v1 v2 v3 : Int} (h0 : 0 ≤ p ∧ p ≤ s.size) (n1 : Rdn s 0 (unsE s p 2) (p + 2) p1 e1) (n2 : Rdn s e1 (unsE s p1 2) (p1 + 2) p2 e2) (n3 : Rdn s e2 (unsE s p2 2) (p2 + 2) p3 e3)
    (hv1 : v1 = unsV s p 2) (hv2 : v2 = if e1 = 0 then unsV s p1 2 else 0) (hv3 : v3 = if e2 = 0 then unsV s p2 2 else 0) :
    (e3 = 0 ∧ (unsE s p 2 = 0 ∧ unsE s (p + 2) 2 = 0 ∧ unsE s (p + 4) 2 = 0) ∧ p3 = p + 6 ∧ v1 = unsV s p 2 ∧ v2 = unsV s (p + 2) 2 ∧ v3 = unsV s (p + 4) 2) ∨ (e3 = 3 ∧ ¬ (unsE s p 2 = 0 ∧ unsE s (p + 2) 2 = 0 ∧ unsE s (p + 4) 2 = 0)) := by
  have a1 := n1.err rfl
  rcases nu_e h0 with h | h
  · have e10 : e1 = 0 := a1.trans h
    have a2 := n2.err e10
    have q1 := n1.pos e10
    rw [q1] at a2
    rw [if_pos e10, q1] at hv2
    rcases nu_e (s := s) (q := p + 2) (by have := n1.rng; omega) with h' | h'
    · have e20 : e2 = 0 := a2.trans h'
      have a3 := n3.err e20
      have q2 := n2.pos e20
      rw [q1] at q2
      have q2' : p2 = p + 4 := by omega
      rw [q2'] at a3
      rw [if_pos e20, q2'] at hv3
      rcases nu_e (s := s) (q := p + 4) (by have := n2.rng; omega) with h'' | h''
      · exact Or.inl ⟨a3.trans h'', ⟨h, h', h''⟩, by have := n3.pos (a3.trans h''); omega, hv1, hv2, hv3⟩
      · exact Or.inr ⟨a3.trans h'', by rw [h'']; rintro ⟨_, _, h⟩; cases h⟩
    · have h3 := n3.keep (by omega)
      exact Or.inr ⟨by omega, by rw [h']; rintro ⟨_, h, _⟩; cases h⟩
  · have h2 := n2.keep (by omega)
    have h3 := n3.keep (by omega)
    exact Or.inr ⟨by omega, by rw [h]; rintro ⟨h, _, _⟩; cases h⟩

def MsRet (w : World) (b : Nat) (s : ByteArray) (p e : Int) (r : Ending) (w' : World) : Prop :=
  ∃ A n c L p' e', r = .returned (.slice A n c) ∧ OwnR mF 4 39 w' w.heap.size A n c L ∧ (∀ x ∈ L, OwnR aF 2 93 w' w.heap.size x.A x.k x.c x.l) ∧ RdB w' b s p' e' ∧ Off b w w' ∧ Rdn s e (msE s p) (msN s p) p' e' ∧ (e' = 0 → L.map Mb.v = msL s p)
/-- between two rounds -/
structure MsI (w wr : World) (b : Nat) (s : ByteArray) (q : Int) (e1 : Int) (m k : Nat) (A : Option Addr) (c : Nat) (L : List Mb) (pk ek : Int) : Prop where
  le : k ≤ m
  own : OwnR mF 4 39 wr w.heap.size A k c L
  atr : ∀ x ∈ L, OwnR aF 2 93 wr w.heap.size x.A x.k x.c x.l
  rd : RdB wr b s pk ek
  off : Off b w wr
  rng : 0 ≤ pk ∧ pk ≤ s.size
  err : e1 = 0 → ek = lkE (tmC s) (tmN s) (tmE s) q k
  bad : ¬ e1 = 0 → ek = e1 ∧ m = 0
  val : e1 = 0 → ek = 0 → pk = lkN (tmC s) (tmN s) (tmE s) q k ∧ L.map Mb.v = lkL (tmC s) (tmN s) (tmE s) q k
theorem MsI.done {w wr : World} {b : Nat} {s : ByteArray} {p e p1 e1 : Int} {m k : Nat} {A : Option Addr} {c : Nat} {L : List Mb} {pk ek : Int} (I : MsI w wr b s (p + 2) e1 m k A c L pk ek) (h : k = m ∨ ¬ ek = 0) (hn : Rdn s e (cuE s p 64) (p + 2) p1 e1) (hm : (m : Int) = if e1 = 0 then unsV s p 2 else 0) :
    MsRet w b s p e (.returned (.slice A k c)) wr := by
  refine ⟨A, k, c, L, pk, ek, rfl, I.own, I.atr, I.rd, I.off, ?_, ?_⟩
  all_goals
    by_cases h1 : e1 = 0
    · have he : e = 0 := by
        by_cases he : e = 0
        · exact he
        · have := hn.keep he; omega
      have hc : cuE s p 64 = 0 := (hn.err he).symm.trans h1
      rw [if_pos h1] at hm
      have hmt : (unsV s p 2).toNat = m := by omega
      have hE : ek = lkE (tmC s) (tmN s) (tmE s) (p + 2) m := by
        rw [I.err h1]
        rcases h with h | h
        · rw [h]
        · rw [I.err h1] at h
          exact (lk_stay h m I.le).symm
      have hA : msE s p = ek := by unfold msE; rw [if_pos hc, hmt, hE]
      have hk : ek = 0 → k = m := fun h0 => h.resolve_right (fun h => h h0)
      first
        | exact ⟨I.rng, fun h => absurd he h, fun _ => hA.symm, fun h0 => by rw [(I.val h1 h0).1, hk h0]; unfold msN; rw [hmt]⟩
        | exact fun h0 => by rw [(I.val h1 h0).2, hk h0]; unfold msL; rw [hmt]
    · have hb := I.bad h1
      first
        | exact ⟨I.rng, fun he => hb.1.trans (hn.keep he), fun he => by rw [hb.1, hn.err he]; unfold msE; rw [if_neg (by rw [← hn.err he]; exact h1)], fun h0 => absurd (hb.1.symm.trans h0) h1⟩
        | exact fun h0 => absurd (hb.1.symm.trans h0) h1
theorem MsI.step {w wr w' : World} {b : Nat} {s : ByteArray} {q : Int} {e1 : Int} {m k : Nat} {A A' : Option Addr} {c c' : Nat} {L : List Mb} {pk p' e' : Int} {x : Mb} (I : MsI w wr b s q e1 m k A c L pk 0) (hlt : k < m)
    (hO : OwnR mF 4 39 w' w.heap.size A' (k + 1) c' (L ++ [x])) (hX : ∀ y ∈ L ++ [x], OwnR aF 2 93 w' w.heap.size y.A y.k y.c y.l) (hR : RdB w' b s p' e') (hF : Off b w w') (hr : 0 ≤ p' ∧ p' ≤ s.size) (hE : e' = tmE s pk) (hV : e' = 0 → p' = tmN s pk ∧ x.v = tmC s pk) : MsI w w' b s q e1 m (k + 1) A' c' (L ++ [x]) p' e' := by
  have h1 : e1 = 0 := by
    by_cases h : e1 = 0
    · exact h
    · have := (I.bad h).2; omega
  have hk := (I.err h1).symm
  obtain ⟨v1, v2⟩ := I.val h1 rfl
  obtain ⟨l1, l2, l3⟩ := lk_ok hk
  refine ⟨by omega, hO, hX, hR, hF, hr, fun _ => by rw [l3, ← v1]; exact hE, fun h => absurd h1 h, fun _ h0 => ⟨by rw [l2, ← v1]; exact (hV h0).1, by rw [l1, ← v1, ← v2, ← (hV h0).2, List.map_append]; rfl⟩⟩

set_option maxRecDepth 100000 in
set_option maxHeartbeats 4000000 in
theorem members_any (b : Nat) (s : ByteArray) (p e : Int) (hs : s.size ≤ 2000000) (hp : 0 ≤ p ∧ p ≤ s.size) (w : World) (h : RdB w b s p e) :
    Calls Tryz.prog 32 #[.pointer (some ⟨b, 0, none⟩)] w (MsRet w b s p e) := by
  have hu := uns2_bd s p
  have H := Lib.hid h
  have HL := Lib.hid (fun w h => length_any b s p e 64 (by omega) hs hp w h)
  have hbw := lt_heap h
  clear h
  go_enter Tryz.func32, Tryz.ntmps32
  go_wp2_with (go_at_call 31; refine (HL.out _ H.out).mono ?_; rintro r w1 ⟨v, p1, e1, rfl, hv, hr1, ho1, hn1⟩; have HV := Lib.hid hv; have hvb : 0 ≤ v ∧ v ≤ 65535 := (by rw [hv]; split <;> omega); have H1 := Lib.hid hr1; clear hr1 hv)
  obtain ⟨m, rfl⟩ : ∃ m : Nat, v = (m : Int) := ⟨v.toNat, by omega⟩
  have hst : MsI w w1 b s (p + 2) e1 m 0 none 0 [] p1 e1 := by
    refine ⟨Nat.zero_le _, OwnR.nil _ _ _ _ _, fun x hx => (by cases hx), H1.out, ho1, hn1.rng, fun h => h, fun h => ⟨rfl, ?_⟩, fun _ h0 => ⟨hn1.pos h0, rfl⟩⟩
    have := HV.out
    rw [if_neg h] at this
    omega
  have HST := Lib.hid hst
  have HN := Lib.hid hn1
  clear hst hn1 ho1
  go_loopw [3, 4] (fun l n wr => ∃ (k : Nat) (A : Option Addr) (c : Nat) (L : List Mb) (pk ek : Int), n = .int .i64 ((m : Int) - k) ∧ l = .slice A k c ∧ MsI w wr b s (p + 2) e1 m k A c L pk ek) (fun _ n _ => (intOf n).toNat)
  case atStart => exact ⟨0, none, 0, [], p1, e1, by simp, rfl, HST.out⟩
  case round =>
    obtain ⟨k, A, c, L, pk, ek, rfl, rfl, I⟩ := hrel
    have hle := I.le
    have II := Lib.hid I
    obtain ⟨c0, c1, c2, q1, q2, hlt'⟩ := I.rd.cells
    clear I
    by_cases hkm : k < m
    · by_cases hek : ek = 0
      · subst hek
        have hg : (0 : Int) < (m : Int) - k := by omega
        have HR0 := Lib.hid II.out.rd
        have HF0 := Lib.hid II.out.off
        have hsz0 := II.out.off.size
        go_wp2_with (first
          | (go_at_call 33; refine (attributes_any b s p3 e3 hs HN3.out.rng _ HR3.out).mono ?_; rintro r w5 ⟨A4, n4, c4, L4, p4, e4, rfl, hO4, hr4, ho4, hn4, hl4⟩; have HN4 := Lib.hid hn4; have HR4 := Lib.hid hr4; have HL4 := Lib.hid hl4; have HO4 := Lib.hid hO4; have HF4 := Lib.hid (HF3.out.trans ho4); have HOF4 := Lib.hid ho4; have hsz4 := ho4.size; clear hr4 hn4 ho4 hO4 hl4)
          | (go_at_call 30; refine (number_any b s p2 e2 2 ok2 hs HN2.out.rng _ HR2.out).mono ?_; rintro r w4 ⟨v3, p3, e3, rfl, hv3, hr3, ho3, hn3⟩; have HV3 := Lib.hid hv3; have HN3 := Lib.hid hn3; have HR3 := Lib.hid hr3; have HF3 := Lib.hid (HF2.out.trans ho3); have HG3 := Lib.hid (HG2.out.trans ho3); have hsz3 := ho3.size; clear hv3 hr3 hn3 ho3)
          | (go_at_call 30; refine (number_any b s p1' e1' 2 ok2 hs HN1.out.rng _ HR1.out).mono ?_; rintro r w3 ⟨v2, p2, e2, rfl, hv2, hr2, ho2, hn2⟩; have HV2 := Lib.hid hv2; have HN2 := Lib.hid hn2; have HR2 := Lib.hid hr2; have HF2 := Lib.hid (HF1.out.trans ho2); have HG2 := Lib.hid (HG1.out.trans ho2); have hsz2 := ho2.size; clear hv2 hr2 hn2 ho2)
          | (go_at_call 30; refine (number_any b s pk 0 2 ok2 hs II.out.rng _ HR0.out).mono ?_; rintro r w2 ⟨v1, p1', e1', rfl, hv1, hr1, ho1, hn1⟩; have HV1 := Lib.hid hv1; have HN1 := Lib.hid hn1; have HR1 := Lib.hid hr1; have HF1 := Lib.hid (HF0.out.trans ho1); have HG1 := Lib.hid ho1; have hsz1 := ho1.size; clear hv1 hr1 hn1 ho1)
          | (at_builtin; refine append_mF (by rfl) _ _ (by rfl) (by rfl) (((II.out.own.off HG3.out hbw).off HOF4.out hbw).below (below_al (Below.refl _ _) _)) (by rfl) (newM ⟨v1, v2, v3, A4, n4, c4, L4⟩) (by omega) (by have := HF4.out.size; simp; omega) ?_; intro A2 c2' w9 hO9 hb9 hg9))
        have HT := three_nums II.out.rng HN1.out HN2.out HN3.out (by simpa using HV1.out) HV2.out HV3.out
        have hT : e4 = tmE s pk ∧ (e4 = 0 → p4 = tmN s pk ∧ (⟨v1, v2, v3, A4, n4, c4, L4⟩ : Mb).v = tmC s pk) := by
          unfold tmE tmN tmC Mb.v
          rcases HT with ⟨h3, hc, hp3, h4, h5, h6⟩ | ⟨h3, hc⟩
          · have a4 := HN4.out.err h3
            have q4 := HN4.out.pos
            rw [hp3] at a4 q4
            rw [if_pos hc]
            refine ⟨a4, fun h0 => ⟨q4 h0, ?_⟩⟩
            have := HL4.out h0
            rw [hp3] at this
            rw [h4, h5, h6, this]
          · have a4 := HN4.out.keep (by omega)
            rw [if_neg hc]
            exact ⟨by omega, fun h0 => absurd h0 (by omega)⟩
        have hX : ∀ y ∈ L ++ [(⟨v1, v2, v3, A4, n4, c4, L4⟩ : Mb)], OwnR aF 2 93 w9 w.heap.size y.A y.k y.c y.l := by
          intro y hy
          have kk := ((II.out.own.off HG3.out hbw).off HOF4.out hbw).below (below_al (Below.refl _ w5) (.cells #[.int .i64 v1, .int .i64 v2, .int .i64 v3, .slice A4 n4 c4] 39))
          rcases List.mem_append.1 hy with h | h
          · exact (((II.out.atr y h).off HG3.out hbw).off HOF4.out hbw |>.below (below_al (Below.refl _ w5) _)).grown kk neAM hg9
          · obtain rfl := List.mem_singleton.1 h
            exact ((HO4.out.more (by omega)).below (below_al (Below.refl _ w5) _)).grown kk neAM hg9
        have HTT := Lib.hid hT
        have HX := Lib.hid hX
        clear hT hX HT
        go_roundw
        case rel => exact ⟨k + 1, A2, c2', _, p4, e4, by congr 1; omega, rfl, MsI.step II.out hkm hO9 HX.out ((hb9.block b hbw).trans (laid_old HR4.out)) ((HF4.out.al _).step hb9) HN4.out.rng HTT.out.1 HTT.out.2⟩
        case measure => simp [intOf]; omega
      · have hg : (0 : Int) < (m : Int) - k := by omega
        go_wp2
        go_ret
        exact MsI.done II.out (Or.inr hek) HN.out HV.out
    · obtain rfl : k = m := by omega
      have hg : ¬ (0 : Int) < (k : Int) - k := by omega
      go_wp2
      go_ret
      exact MsI.done II.out (Or.inl rfl) HN.out HV.out

end Go.Proofs.YthfegbhbokhlkaaGreatDoor

/- Gf -/
/- Layer 11: class files in memory; what Decode hands back. (gen/gf.py) -/
namespace Go.Proofs.YthfegbhbokhlkaaGreatDoor
open Go.ChangeShapes Go.WideShapes Go.ChangeAt Go.RowKit Go.PlainAid
set_option linter.unusedSimpArgs false
set_option linter.unusedVariables false

/-- a class file in memory -/
structure Fi where
  p : List Cn
  pA : Option Addr
  pn : Nat
  pc : Nat
  f : Int
  t : Int
  s : Int
  i : List Int
  iA : Option Addr
  ij : Nat
  ic : Nat
  m : List Mb
  mA : Option Addr
  mj : Nat
  mc : Nat
  g : List Mb
  gA : Option Addr
  gj : Nat
  gc : Nat
  a : List Atr
  aA : Option Addr
  aj : Nat
  ac : Nat
def Fi.v (F : Fi) : Fv := ⟨F.p, F.f, F.t, F.s, F.i, F.m.map Mb.v, F.g.map Mb.v, F.a⟩
def Fi.val (F : Fi) : Value := .agg #[.slice F.pA F.pn F.pc, .int .i64 F.f, .int .i64 F.t, .int .i64 F.s, .slice F.iA F.ij F.ic, .slice F.mA F.mj F.mc, .slice F.gA F.gj F.gc, .slice F.aA F.aj F.ac]
structure Fi.ok (w : World) (F : Fi) : Prop where
  pl : F.p.length = F.pn
  pp : Pool w w.heap.size F.pA F.p
  il : F.i.length = F.ij
  ip : RowAt iF 1 w F.iA F.i
  ml : F.m.length = F.mj
  mp : RowAt mF 4 w F.mA F.m
  mo : ∀ x ∈ F.m, x.ok w
  gl : F.g.length = F.gj
  gp : RowAt mF 4 w F.gA F.g
  go : ∀ x ∈ F.g, x.ok w
  al : F.a.length = F.aj
  ap : RowAt aF 2 w F.aA F.a
theorem Fi.ok.up {w w' : World} {F : Fi} (h : F.ok w) (hb : Below w.heap.size w w') : F.ok w' :=
  ⟨h.pl, h.pp.up hb, h.il, h.ip.up hb, h.ml, h.mp.up hb, fun x hx => (h.mo x hx).up hb, h.gl, h.gp.up hb, fun x hx => (h.go x hx).up hb, h.al, h.ap.up hb⟩
def zFv : Fv := ⟨[], 0, 0, 0, [], [], [], []⟩
def zFi : Fi := ⟨[], none, 0, 0, 0, 0, 0, [], none, 0, 0, [], none, 0, 0, [], none, 0, 0, [], none, 0, 0⟩
theorem zFi_ok (w : World) : zFi.ok w := ⟨rfl, Pool.nil _ _ _, rfl, RowAt.nil _ _ _ _, rfl, RowAt.nil _ _ _ _, fun x hx => (by cases hx), rfl, RowAt.nil _ _ _ _, fun x hx => (by cases hx), rfl, RowAt.nil _ _ _ _⟩
theorem OwnR.mb {w : World} {base : Nat} {x : Mb} (h : OwnR aF 2 93 w base x.A x.k x.c x.l) : x.ok w := ⟨h.len, h.row aF_len (by decide)⟩

/-- what Decode reads -/
def fdR (s : ByteArray) : Fv := if fdE s = 0 then fdV s else zFv
def FdRet (w : World) (s : ByteArray) (r : Ending) (w' : World) : Prop :=
  ∃ F : Fi, r = .returned (.tuple #[F.val, .int .i64 (fdE s)]) ∧ F.v = fdR s ∧ F.ok w' ∧ Below w.heap.size w w'
theorem FdRet.no {w w' : World} {s : ByteArray} {e : Int} (hE : fdE s = e) (he : ¬ e = 0) (hb : Below w.heap.size w w') : FdRet w s (.returned (.tuple #[.agg #[.slice none 0 0, .int .i64 0, .int .i64 0, .int .i64 0, .slice none 0 0, .slice none 0 0, .slice none 0 0, .slice none 0 0], .int .i64 e])) w' :=
  ⟨zFi, by rw [hE]; rfl, by unfold fdR; rw [if_neg (by rw [hE]; exact he)]; rfl, zFi_ok _, hb⟩

theorem file_size : (Tryz.prog.info? 27).map (·.size) = some 8 := by kernel_rfl
theorem file_under : ∃ fs, Tryz.prog.underlying 27 = some (.struct fs) := ⟨_, Tryz.underlying27⟩
theorem fd_ret {fn : Func} (hf : fn.results = #[.cell 2 27, .tmp 3]) {a : Act} {w : World} {B : Nat} {x0 x1 x2 x3 x4 x5 x6 x7 : Value} (ht : a.tmps.getD 2 undef = .pointer (some ⟨B, 0, none⟩)) (hg : w.heap[B]? = some (.cells #[x0, x1, x2, x3, x4, x5, x6, x7] 27)) :
    (results fn a.tmps).run Tryz.prog w = .ok (.tuple #[.agg #[x0, x1, x2, x3, x4, x5, x6, x7], a.tmps.getD 3 undef]) w := by
  rw [results_cell_tmp hf, ht]
  obtain ⟨fs, hu⟩ := file_under
  have hl := run_loadVar_row (P := Tryz.prog) w B 27 27 #[x0, x1, x2, x3, x4, x5, x6, x7] (0, 0) _ hg hu rfl file_size
  simp [asAddr, Result.andThen, hl]
theorem set_eightF {w : World} {B : Nat} {t : TypeId} {x0 x1 x2 x3 x4 x5 x6 x7 a b c d e f g h : Value} (hh : w.heap[B]? = some (.cells #[x0, x1, x2, x3, x4, x5, x6, x7] t)) :
    ((((((((w.setCell ⟨B, 0, none⟩ a).setCell ⟨B, 1, none⟩ b).setCell ⟨B, 2, none⟩ c).setCell ⟨B, 3, none⟩ d).setCell ⟨B, 4, none⟩ e).setCell ⟨B, 5, none⟩ f).setCell ⟨B, 6, none⟩ g).setCell ⟨B, 7, none⟩ h).heap[B]? = some (.cells #[a, b, c, d, e, f, g, h] t) := by
  have h0 : (w.setCell ⟨B, 0, none⟩ a).heap[B]? = some (.cells #[a, x1, x2, x3, x4, x5, x6, x7] t) := heap_setCell_same w B 0 _ _ a hh
  generalize w.setCell ⟨B, 0, none⟩ a = w0 at h0 ⊢
  have h1 : (w0.setCell ⟨B, 1, none⟩ b).heap[B]? = some (.cells #[a, b, x2, x3, x4, x5, x6, x7] t) := heap_setCell_same w0 B 1 _ _ b h0
  generalize w0.setCell ⟨B, 1, none⟩ b = w1 at h1 ⊢
  have h2 : (w1.setCell ⟨B, 2, none⟩ c).heap[B]? = some (.cells #[a, b, c, x3, x4, x5, x6, x7] t) := heap_setCell_same w1 B 2 _ _ c h1
  generalize w1.setCell ⟨B, 2, none⟩ c = w2 at h2 ⊢
  have h3 : (w2.setCell ⟨B, 3, none⟩ d).heap[B]? = some (.cells #[a, b, c, d, x4, x5, x6, x7] t) := heap_setCell_same w2 B 3 _ _ d h2
  generalize w2.setCell ⟨B, 3, none⟩ d = w3 at h3 ⊢
  have h4 : (w3.setCell ⟨B, 4, none⟩ e).heap[B]? = some (.cells #[a, b, c, d, e, x5, x6, x7] t) := heap_setCell_same w3 B 4 _ _ e h3
  generalize w3.setCell ⟨B, 4, none⟩ e = w4 at h4 ⊢
  have h5 : (w4.setCell ⟨B, 5, none⟩ f).heap[B]? = some (.cells #[a, b, c, d, e, f, x6, x7] t) := heap_setCell_same w4 B 5 _ _ f h4
  generalize w4.setCell ⟨B, 5, none⟩ f = w5 at h5 ⊢
  have h6 : (w5.setCell ⟨B, 6, none⟩ g).heap[B]? = some (.cells #[a, b, c, d, e, f, g, x7] t) := heap_setCell_same w5 B 6 _ _ g h5
  generalize w5.setCell ⟨B, 6, none⟩ g = w6 at h6 ⊢
  exact heap_setCell_same w6 B 7 _ _ h h6
theorem eight_below {w W : World} {B : Nat} {a b c d e f g h : Value} (hb : Below w.heap.size w W) (hB : w.heap.size ≤ B) : Below w.heap.size w ((((((((W.setCell ⟨B, 0, none⟩ a).setCell ⟨B, 1, none⟩ b).setCell ⟨B, 2, none⟩ c).setCell ⟨B, 3, none⟩ d).setCell ⟨B, 4, none⟩ e).setCell ⟨B, 5, none⟩ f).setCell ⟨B, 6, none⟩ g).setCell ⟨B, 7, none⟩ h) := by
  iterate 8 refine below_st ?_ (by exact hB) _
  exact hb
theorem eight_cellsF {W : World} {B : Nat} {a b c d e f g h : Value} {t : TypeId} (hh : W.heap[B]? = some (.cells #[a, b, c, d, e, f, g, h] t)) :
    (W.cell? ⟨B, 0, none⟩ = some a ∧ W.cell? ⟨B, 1, none⟩ = some b ∧ W.cell? ⟨B, 2, none⟩ = some c ∧ W.cell? ⟨B, 3, none⟩ = some d ∧ W.cell? ⟨B, 4, none⟩ = some e ∧ W.cell? ⟨B, 5, none⟩ = some f ∧ W.cell? ⟨B, 6, none⟩ = some g ∧ W.cell? ⟨B, 7, none⟩ = some h) ∧ (∀ j, W.frozen? ⟨B, j, none⟩ = false) ∧ B < W.heap.size := by
  refine ⟨⟨?_, ?_, ?_, ?_, ?_, ?_, ?_, ?_⟩, fun j => ?_, lt_heap hh⟩ <;> simp [World.cell?, World.frozen?, hh]
theorem frozF11 {W : World} {B : Nat} {cs : Array Value} {t : TypeId} (h : W.heap[B]? = some (.cells cs t)) (j : Nat) : W.frozen? ⟨B, j, none⟩ = false := by simp [World.frozen?, h]

theorem pool_not {w : World} {B R : Nat} {A : Option Addr} {L : List Cn} (h : Pool w B A L) (hR : w.heap[R]? = some (.cells #[.slice none 0 0, .int .i64 0, .int .i64 0, .int .i64 0, .slice none 0 0, .slice none 0 0, .slice none 0 0, .slice none 0 0] 27)) : L = [] ∨ ∀ g o, A = some ⟨g, o, none⟩ → g ≠ R := by
  rcases h with h | ⟨g, o, hA, hg, hc⟩
  · exact Or.inl h
  · rcases L with _ | ⟨x, L⟩
    · exact Or.inl rfl
    · right
      intro g' o' hA' e
      rw [hA] at hA'
      have e1 : g = g' := by injection hA' with h1; injection h1
      have hgR : g = R := e1.trans e
      subst hgR
      have h1 := (hc 0 x rfl).2.1
      simp only [World.cell?, hR] at h1
      generalize o + 0 * 5 + 1 = j at h1
      rcases j with _ | _ | _ | _ | _ | _ | _ | _ | j <;> simp at h1
theorem Pool.off {w w' : World} {B R : Nat} {A : Option Addr} {L : List Cn} (h : Pool w B A L) (hB : B ≤ w.heap.size) (ho : Off R w w') (hn : L = [] ∨ ∀ g o, A = some ⟨g, o, none⟩ → g ≠ R) : Pool w' B A L := by
  rcases h with h | ⟨g, o, hA, hg, hc⟩
  · exact Or.inl h
  · rcases hn with hn | hn
    · exact Or.inl hn
    · have hk := ho.block g (by omega) (hn g o hA)
      refine Or.inr ⟨g, o, hA, hg, fun i x hi => ?_⟩
      have e : ∀ j, w'.cell? ⟨g, j, none⟩ = w.cell? ⟨g, j, none⟩ := fun j => by simp [World.cell?, hk]
      obtain ⟨a0, a1, a2, a3, a4⟩ := hc i x hi
      exact ⟨(e _).trans a0, (e _).trans a1, (e _).trans a2, (e _).trans a3, (e _).trans a4⟩
theorem fin_ok {w2 W W' : World} {R : Nat} {P : List Cn} {pA iA mA gA aA : Option Addr} {pn pc ij ic mj mc gj gc aj ac b1 b2 b3 b4 b5 b6 : Nat} {f t s : Int} {I : List Int} {M G : List Mb} {A : List Atr} (hl : P.length = pn) (hp : Pool w2 w2.heap.size pA P) (hb : Below w2.heap.size w2 W)
    (hz : W.heap[R]? = some (.cells #[.slice none 0 0, .int .i64 0, .int .i64 0, .int .i64 0, .slice none 0 0, .slice none 0 0, .slice none 0 0, .slice none 0 0] 27)) (ho : Off R W W')
    (hi : OwnR iF 1 3 W b1 iA ij ic I) (h1 : R < b1) (hm : OwnR mF 4 39 W b2 mA mj mc M) (h2 : R < b2) (ha : ∀ x ∈ M, OwnR aF 2 93 W b3 x.A x.k x.c x.l) (h3 : R < b3)
    (hg : OwnR mF 4 39 W b4 gA gj gc G) (h4 : R < b4) (hga : ∀ x ∈ G, OwnR aF 2 93 W b5 x.A x.k x.c x.l) (h5 : R < b5) (haa : OwnR aF 2 93 W b6 aA aj ac A) (h6 : R < b6) :
    Fi.ok W' ⟨P, pA, pn, pc, f, t, s, I, iA, ij, ic, M, mA, mj, mc, G, gA, gj, gc, A, aA, aj, ac⟩ := by
  have hpW := hp.below hb
  have hpO := (hpW.off hb.size ho (pool_not hpW hz)).more (Nat.le_trans hb.size ho.size)
  have hi' := hi.off ho h1
  have hm' := hm.off ho h2
  have hg' := hg.off ho h4
  have ha' := haa.off ho h6
  exact ⟨hl, hpO, hi'.len, hi'.row iF_len (by decide), hm'.len, hm'.row mF_len (by decide), fun x hx => ((ha x hx).off ho h3).mb, hg'.len, hg'.row mF_len (by decide), fun x hx => ((hga x hx).off ho h5).mb, ha'.len, ha'.row aF_len (by decide)⟩
theorem eight_off {W : World} {B : Nat} {a b c d e f g h : Value} : Off B W ((((((((W.setCell ⟨B, 0, none⟩ a).setCell ⟨B, 1, none⟩ b).setCell ⟨B, 2, none⟩ c).setCell ⟨B, 3, none⟩ d).setCell ⟨B, 4, none⟩ e).setCell ⟨B, 5, none⟩ f).setCell ⟨B, 6, none⟩ g).setCell ⟨B, 7, none⟩ h) :=
  ((((((((Off.refl B W).put 0 a).put 1 b).put 2 c).put 3 d).put 4 e).put 5 f).put 6 g).put 7 h

theorem de_pos {s : ByteArray} {p : Int} (h : deE s p = 0) : 0 ≤ deN s p ∧ deN s p ≤ s.size := by
  by_cases h1 : 0 ≤ p ∧ p ≤ s.size
  · by_cases h2 : unsE s p 2 = 0
    · have hl := un_0 ok2 h2
      by_cases h3 : dkE s (p + 2) (unsV s p 2).toNat = 0
      · by_cases h4 : chE (dkL s (p + 2) (unsV s p 2).toNat) = 0
        · rw [(de_5 h1 h2 h3 h4).2.1]
          exact dk_pos (by omega) _ h3
        · exact absurd ((de_4 h1 h2 h3 h4).2.2.symm.trans h) h4
      · exact absurd ((de_3 h1 h2 h3).2.2.symm.trans h) h3
    · exact absurd ((de_2 h1 h2).2.2.symm.trans h) h2
  · have := (de_1 h1).2.2.symm.trans h
    cases this
theorem dec_all (s : ByteArray) (p : Int) (hs : s.size ≤ 2000000) (w : World) : Calls Tryz.prog 29 #[.string s, .int .i64 p] w (DeRet w s p) := by
  by_cases h1 : 0 ≤ p ∧ p ≤ s.size
  · by_cases h2 : unsE s p 2 = 0
    · exact dec_in s p hs h1 h2 w
    · exact dec_cut s p hs h1 h2 w
  · exact dec_out s p h1 w

/-- all that stands behind the pool, step by step -/
theorem bd_fin {s : ByteArray} {q p3 e3 p5 e5 p6 e6 p7 e7 p8 e8 v1 v2 v3 : Int} {L5 : List Int} {L6 L7 : List Mv} {L8 : List Atr}
    (h3 : (e3 = 0 ∧ (unsE s q 2 = 0 ∧ unsE s (q + 2) 2 = 0 ∧ unsE s (q + 4) 2 = 0) ∧ p3 = q + 6 ∧ v1 = unsV s q 2 ∧ v2 = unsV s (q + 2) 2 ∧ v3 = unsV s (q + 4) 2) ∨ (e3 = 3 ∧ ¬ (unsE s q 2 = 0 ∧ unsE s (q + 2) 2 = 0 ∧ unsE s (q + 4) 2 = 0)))
    (h5 : Rdn s e3 (isE s p3) (isN s p3) p5 e5) (l5 : e5 = 0 → L5 = isL s p3) (h6 : Rdn s e5 (msE s p5) (msN s p5) p6 e6) (l6 : e6 = 0 → L6 = msL s p5)
    (h7 : Rdn s e6 (msE s p6) (msN s p6) p7 e7) (l7 : e7 = 0 → L7 = msL s p6) (h8 : Rdn s e7 (asE s p7) (asN s p7) p8 e8) (l8 : e8 = 0 → L8 = asL s p7) :
    bdE s q = (if e8 = 0 then (if p8 = (s.size : Int) then 0 else 10) else e8) ∧
    (e8 = 0 → v1 = unsV s q 2 ∧ v2 = unsV s (q + 2) 2 ∧ v3 = unsV s (q + 4) 2 ∧ L5 = isL s (q + 6) ∧ L6 = msL s (isN s (q + 6)) ∧ L7 = msL s (msN s (isN s (q + 6))) ∧ L8 = asL s (msN s (msN s (isN s (q + 6))))) := by
  unfold bdE
  rcases h3 with ⟨e30, hc, rfl, hv1, hv2, hv3⟩ | ⟨e33, hc⟩
  · rw [if_pos hc]
    have a5 := h5.err e30
    by_cases e50 : e5 = 0
    · have q5 := h5.pos e50
      have a6 := h6.err e50
      rw [if_pos (a5.symm.trans e50)]
      rw [q5] at a6
      by_cases e60 : e6 = 0
      · have q6 := h6.pos e60
        rw [q5] at q6
        have a7 := h7.err e60
        rw [q6] at a7
        rw [if_pos (a6.symm.trans e60)]
        by_cases e70 : e7 = 0
        · have q7 := h7.pos e70
          rw [q6] at q7
          have a8 := h8.err e70
          rw [q7] at a8
          rw [if_pos (a7.symm.trans e70)]
          by_cases e80 : e8 = 0
          · have q8 := h8.pos e80
            rw [q7] at q8
            rw [if_pos (a8.symm.trans e80), if_pos e80]
            have hr := h8.rng
            refine ⟨?_, fun _ => ⟨hv1, hv2, hv3, l5 e50, by rw [l6 e60, q5], by rw [l7 e70, q6], by rw [l8 e80, q7]⟩⟩
            rw [← q8]
            by_cases hp : p8 = (s.size : Int)
            · rw [if_pos hp, if_neg (by omega)]
            · rw [if_neg hp, if_pos (by omega)]
          · rw [if_neg (by rw [← a8]; exact e80), if_neg e80]
            exact ⟨a8.symm, fun h => absurd h e80⟩
        · have k8 := h8.keep e70
          have e80 : ¬ e8 = 0 := by rw [k8]; exact e70
          rw [if_neg (by rw [← a7]; exact e70), if_neg e80]
          exact ⟨by rw [k8, a7], fun h => absurd h e80⟩
      · have k7 := h7.keep e60
        have k8 := h8.keep (by rw [k7]; exact e60)
        have e80 : ¬ e8 = 0 := by rw [k8, k7]; exact e60
        rw [if_neg (by rw [← a6]; exact e60), if_neg e80]
        exact ⟨by rw [k8, k7, a6], fun h => absurd h e80⟩
    · have k6 := h6.keep e50
      have k7 := h7.keep (by rw [k6]; exact e50)
      have k8 := h8.keep (by rw [k7, k6]; exact e50)
      have e80 : ¬ e8 = 0 := by rw [k8, k7, k6]; exact e50
      rw [if_neg (by rw [← a5]; exact e50), if_neg e80]
      exact ⟨by rw [k8, k7, k6, a5], fun h => absurd h e80⟩
  · rw [if_neg hc]
    have k5 := h5.keep (by omega)
    have k6 := h6.keep (by omega)
    have k7 := h7.keep (by omega)
    have k8 := h8.keep (by omega)
    rw [if_neg (show ¬ e8 = 0 by omega)]
    exact ⟨by omega, fun h => absurd h (by omega)⟩

/-- between two rounds of the interfaces -/
structure IsI (B0 b : Nat) (w2 wr : World) (Fb : Nat) (s : ByteArray) (q e1 : Int) (P : Value) (v1 v2 v3 : Int) (m k : Nat) (A : Option Addr) (c : Nat) (L : List Int) (pk ek : Int) : Prop where
  le : k ≤ m
  own : OwnR iF 1 3 wr B0 A k c L
  rd : RdB wr b s pk ek
  box : wr.heap[Fb]? = some (.cells #[P, .int .i64 v1, .int .i64 v2, .int .i64 v3, .slice A k c, .slice none 0 0, .slice none 0 0, .slice none 0 0] 27)
  bel : Below w2.heap.size w2 wr
  big : B0 ≤ wr.heap.size
  rng : 0 ≤ pk ∧ pk ≤ s.size
  err : e1 = 0 → ek = lkE (nuC s) nuN (nuE s) q k
  bad : ¬ e1 = 0 → ek = e1 ∧ m = 0
  val : e1 = 0 → ek = 0 → pk = lkN (nuC s) nuN (nuE s) q k ∧ L = lkL (nuC s) nuN (nuE s) q k
theorem IsI.done {B0 b : Nat} {w2 wr : World} {Fb : Nat} {s : ByteArray} {p e p1 e1 : Int} {P : Value} {v1 v2 v3 : Int} {m k : Nat} {A : Option Addr} {c : Nat} {L : List Int} {pk ek : Int} (I : IsI B0 b w2 wr Fb s (p + 2) e1 P v1 v2 v3 m k A c L pk ek) (h : k = m ∨ ¬ ek = 0) (hn : Rdn s e (cuE s p 8) (p + 2) p1 e1) (hm : (m : Int) = if e1 = 0 then unsV s p 2 else 0) :
    Rdn s e (isE s p) (isN s p) pk ek ∧ (ek = 0 → L = isL s p) := by
  by_cases h1 : e1 = 0
  · have he : e = 0 := by
      by_cases he : e = 0
      · exact he
      · have := hn.keep he; omega
    have hc : cuE s p 8 = 0 := (hn.err he).symm.trans h1
    rw [if_pos h1] at hm
    have hmt : (unsV s p 2).toNat = m := by omega
    have hE : ek = lkE (nuC s) nuN (nuE s) (p + 2) m := by
      rw [I.err h1]
      rcases h with h | h
      · rw [h]
      · rw [I.err h1] at h
        exact (lk_stay h m I.le).symm
    have hA : isE s p = ek := by unfold isE; rw [if_pos hc, hmt, hE]
    have hk : ek = 0 → k = m := fun h0 => h.resolve_right (fun h => h h0)
    exact ⟨⟨I.rng, fun h => absurd he h, fun _ => hA.symm, fun h0 => by rw [(I.val h1 h0).1, hk h0]; unfold isN; rw [hmt]⟩, fun h0 => by rw [(I.val h1 h0).2, hk h0]; unfold isL; rw [hmt]⟩
  · have hb := I.bad h1
    exact ⟨⟨I.rng, fun he => hb.1.trans (hn.keep he), fun he => by rw [hb.1, hn.err he]; unfold isE; rw [if_neg (by rw [← hn.err he]; exact h1)], fun h0 => absurd (hb.1.symm.trans h0) h1⟩, fun h0 => absurd (hb.1.symm.trans h0) h1⟩
theorem IsI.step {B0 b : Nat} {w2 wr w' : World} {Fb : Nat} {s : ByteArray} {q e1 : Int} {P : Value} {v1 v2 v3 : Int} {m k : Nat} {A A' : Option Addr} {c c' : Nat} {L : List Int} {pk p' e' x : Int} (I : IsI B0 b w2 wr Fb s q e1 P v1 v2 v3 m k A c L pk 0) (hlt : k < m)
    (hO : OwnR iF 1 3 w' B0 A' (k + 1) c' (L ++ [x])) (hR : RdB w' b s p' e') (hX : w'.heap[Fb]? = some (.cells #[P, .int .i64 v1, .int .i64 v2, .int .i64 v3, .slice A' ((k + 1 : Nat) : Nat) c', .slice none 0 0, .slice none 0 0, .slice none 0 0] 27)) (hb : Below w2.heap.size w2 w') (hbig : B0 ≤ w'.heap.size)
    (hn : Rdn s 0 (unsE s pk 2) (pk + 2) p' e') (hx : x = unsV s pk 2) : IsI B0 b w2 w' Fb s q e1 P v1 v2 v3 m (k + 1) A' c' (L ++ [x]) p' e' := by
  have h1 : e1 = 0 := by
    by_cases h : e1 = 0
    · exact h
    · have := (I.bad h).2; omega
  have hk := (I.err h1).symm
  obtain ⟨u1, u2⟩ := I.val h1 rfl
  obtain ⟨l1, l2, l3⟩ := lk_ok hk
  refine ⟨by omega, hO, hR, hX, hb, hbig, hn.rng, fun _ => by rw [l3, ← u1]; exact hn.err rfl, fun h => absurd h1 h, fun _ h0 => ⟨by rw [l2, ← u1]; exact hn.pos h0, by rw [l1, ← u1, ← u2, hx]; rfl⟩⟩

end Go.Proofs.YthfegbhbokhlkaaGreatDoor
