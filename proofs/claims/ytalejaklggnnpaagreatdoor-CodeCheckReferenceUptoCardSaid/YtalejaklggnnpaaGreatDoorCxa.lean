import Derived.Test.YtalejaklggnnpaaGreatDoorCf
/- Layer 9, the reference: what it says of a pool index, and that it is what the package says when the pool is valid: pure. -/
namespace Go.Proofs.YtalejaklggnnpaaGreatDoor.I
open Go.ChangeShapes Go.WideShapes Go.ChangeAt Go.RowKit Go.PlainAid
set_option linter.unusedSimpArgs false
set_option linter.unusedVariables false
/-- index i refers to a class that is no array -/
def clR (L : List Cn) (i : Int) : Bool := decide (nmE L i 7 = 0) && (decide (0 < (nmS L i 7).size) && !arB (nmS L i 7))
/-- .. to a constructor -/
def nmR (L : List Cn) (i : Int) : Bool := decide (mrE L i (atC L i).t = 0) && Go.Proofs.YtalejaklggnnpaaGreatDoor.inB (mrN L i (atC L i).t)
def plR (L : List Cn) (op a : Int) : Int :=
 if ¬ atE L a = 0 then 2
 else if hasI (tagsL op) (atC L a).t = false then 11
 else if (op = 67 ∧ clR L a = false) ∨ ((59 ≤ op ∧ op ≤ 66) ∧ clR L (atC L a).a = false) then 13
 else if op = 68 ∧ (¬ paE (atC L a).s = 0 ∨ paB (atC L a).s = 86) then 13
 else if (op = 63 ∨ op = 65 ∨ op = 66) ∧ nmR L a = true then 12
 else 0
theorem at_two {L : List Cn} {a : Int} (h : ¬ atE L a = 0) : atE L a = 2 := by
 unfold atE at h ⊢
 split
 ·
  rename_i h1; rw [if_pos h1] at h; exact absurd rfl h
 ·
  rfl
theorem at_memv {L : List Cn} {a : Int} (h : ¬ (atC L a).t = 0) : atC L a ∈ L := by
 rcases at_mem L a with h1 | h1
 ·
  exact h1
 ·
  rw [h1] at h; exact absurd rfl h
theorem pc_pos {s : ByteArray} (h : pcE s = 0) : 0 < s.size := by
 rcases Nat.eq_zero_or_pos s.size with h0 | h0
 ·
  exfalso
  have hl : s.data.toList = [] := List.eq_nil_of_length_eq_zero (by rw [len_data]; exact h0)
  have h1 : clsB s = false := by unfold clsB; rw [hl]; rw [show clsL [] = false by decide]; simp
  have h2 : fst91 s = false := by unfold fst91; rw [hl]; rfl
  unfold pcE pc at h
  rw [h1, h2, if_neg (by decide), if_neg (by decide)] at h
  exact absurd h (by decide)
 ·
  exact h0
theorem nm_tgx {L : List Cn} {i t : Int} (h : nmE L i t = 0) : tgE L i t = 0 ∧ tgE L (tgC L i t).a 1 = 0 := by
 by_cases h1 : tgE L i t = 0
 ·
  rw [(nm_2 h1).2] at h; exact ⟨h1, h⟩
 ·
  rw [(nm_1 h1).2] at h; exact absurd h h1
theorem v_name {L : List Cn} (hv : Valid L) {i : Int} (h : nmE L i 7 = 0) : 0 < (nmS L i 7).size := by
 obtain ⟨h1, h2⟩ := nm_tgx h
 obtain ⟨hm, ht⟩ := tg_mem h1
 have hc := (ck_idx (hv _ hm) (by rw [ht]; decide)).2
 rw [ht, tx7] at hc
 rw [(nm_2 h1).1]
 exact pc_pos hc
theorem cl_val {L : List Cn} (hv : Valid L) (i : Int) : clR L i = (decide (nmE L i 7 = 0) && !arB (nmS L i 7)) := by
 unfold clR
 by_cases h : nmE L i 7 = 0
 ·
  rw [decide_eq_true (v_name hv h), Bool.true_and]
 ·
  rw [decide_eq_false h, Bool.false_and, Bool.false_and]
theorem tags_has {op t : Int} (h : hasI (tagsL op) t = true) : (op = 3 ∧ (t = 3 ∨ t = 5 ∨ t = 8)) ∨ ((59 ≤ op ∧ op ≤ 62) ∧ t = 9) ∨ (op = 63 ∧ t = 10) ∨ ((op = 64 ∨ op = 65) ∧ (t = 10 ∨ t = 11)) ∨ (op = 66 ∧ t = 11) ∨ ((op = 67 ∨ op = 76 ∨ op = 77) ∧ t = 7) ∨ (op = 68 ∧ t = 1) := by
 unfold tagsL hasI at h
 split at h
 ·
  simp at h; omega
 split at h
 ·
  simp at h; omega
 split at h
 ·
  simp at h; omega
 split at h
 ·
  simp at h; omega
 split at h
 ·
  simp at h; omega
 split at h
 ·
  simp at h; omega
 split at h
 ·
  simp at h; omega
 ·
  simp at h
theorem pl_1 {L : List Cn} {op a : Int} (h : ¬ atE L a = 0) : plR L op a = 2 := by unfold plR; rw [if_pos h]
theorem pl_2 {L : List Cn} {op a : Int} (h : atE L a = 0) (h1 : hasI (tagsL op) (atC L a).t = false) : plR L op a = 11 := by unfold plR; rw [if_neg (fun e => e h), if_pos h1]
theorem pl_3 {L : List Cn} {op a : Int} (h : atE L a = 0) (h1 : hasI (tagsL op) (atC L a).t = true) (h2 : (op = 67 ∧ clR L a = false) ∨ ((59 ≤ op ∧ op ≤ 66) ∧ clR L (atC L a).a = false)) : plR L op a = 13 := by unfold plR; rw [if_neg (fun e => e h), h1, if_neg (by decide), if_pos h2]
theorem pl_4 {L : List Cn} {op a : Int} (h : atE L a = 0) (h1 : hasI (tagsL op) (atC L a).t = true) (h2 : ¬ ((op = 67 ∧ clR L a = false) ∨ ((59 ≤ op ∧ op ≤ 66) ∧ clR L (atC L a).a = false))) (h3 : op = 68 ∧ (¬ paE (atC L a).s = 0 ∨ paB (atC L a).s = 86)) : plR L op a = 13 := by unfold plR; rw [if_neg (fun e => e h), h1, if_neg (by decide), if_neg h2, if_pos h3]
theorem pl_5 {L : List Cn} {op a : Int} (h : atE L a = 0) (h1 : hasI (tagsL op) (atC L a).t = true) (h2 : ¬ ((op = 67 ∧ clR L a = false) ∨ ((59 ≤ op ∧ op ≤ 66) ∧ clR L (atC L a).a = false))) (h3 : ¬ (op = 68 ∧ (¬ paE (atC L a).s = 0 ∨ paB (atC L a).s = 86))) : plR L op a = if (op = 63 ∨ op = 65 ∨ op = 66) ∧ nmR L a = true then 12 else 0 := by unfold plR; rw [if_neg (fun e => e h), h1, if_neg (by decide), if_neg h2, if_neg h3]
theorem pl_eq {L : List Cn} (hv : Valid L) (op a : Int) : plR L op a = cnE L op a := by
 by_cases he : atE L a = 0
 ·
  cases hh : hasI (tagsL op) (atC L a).t with
  | false => rw [pl_2 he hh, cn_2 he hh]
  | true =>
   rw [cn_3 he hh]
   rcases tags_has hh with ⟨h, ht⟩ | ⟨h, ht⟩ | ⟨h, ht⟩ | ⟨h, ht⟩ | ⟨h, ht⟩ | ⟨h, ht⟩ | ⟨h, ht⟩
   ·
    rw [pl_5 he hh (by rintro (⟨e, _⟩ | ⟨e, _⟩) <;> omega) (by rintro ⟨e, _⟩; omega), if_neg (by rintro ⟨e, _⟩; omega), ck_o (by omega) (by omega) (by omega)]
   case inr.inr.inr.inr.inr.inl =>
    have hE : nmE L a 7 = 0 := v_nm hv (Or.inl rfl) (tg_3 he ht).2
    have hcl : clR L a = !arB (nmS L a 7) := by rw [cl_val hv, decide_eq_true hE, Bool.true_and]
    by_cases h67 : op = 67
    ·
     cases ha : arB (nmS L a 7) with
     | true => rw [pl_3 he hh (Or.inl ⟨h67, by rw [hcl, ha]; rfl⟩), ck_7a ht h67 ha]
     | false => rw [pl_5 he hh (by rintro (⟨_, e⟩ | ⟨e, _⟩) <;> first | (rw [hcl, ha] at e; cases e; done) | omega) (by rintro ⟨e, _⟩; omega), if_neg (by rintro ⟨e, _⟩; omega), ck_7b ht (by rintro ⟨_, e⟩; rw [ha] at e; cases e)]
    ·
     rw [pl_5 he hh (by rintro (⟨e, _⟩ | ⟨e, _⟩) <;> omega) (by rintro ⟨e, _⟩; omega), if_neg (by rintro ⟨e, _⟩; omega), ck_7b ht (fun e => h67 e.1)]
   case inr.inr.inr.inr.inr.inr =>
    by_cases hp : ¬ paE (atC L a).s = 0 ∨ paB (atC L a).s = 86
    ·
     rw [pl_4 he hh (by rintro (⟨e, _⟩ | ⟨e, _⟩) <;> omega) ⟨h, hp⟩, ck_1a ht hp]
    ·
     rw [pl_5 he hh (by rintro (⟨e, _⟩ | ⟨e, _⟩) <;> omega) (fun e => hp e.2), if_neg (by rintro ⟨e, _⟩; omega), ck_1b ht hp]
   all_goals
    have hm : atC L a ∈ L := at_memv (by omega)
    have hx := (ck_idx (hv _ hm) (by omega)).1
    obtain ⟨x1, x2⟩ := bxm (by omega) hx
    have hE : nmE L (atC L a).a 7 = 0 := v_nm hv (Or.inl rfl) x1
    have hN : ntE L (atC L a).b = 0 := v_nt hv x2
    have ht3 : (atC L a).t = 9 ∨ (atC L a).t = 10 ∨ (atC L a).t = 11 := by omega
    have hmt : mtB (atC L a).t = true := by
     rcases ht3 with h | h | h <;> rw [h] <;> rfl
    obtain ⟨m1, m2, _, m4⟩ := mr_5 he ⟨hmt, rfl⟩ hE hN
    have hcl : clR L (atC L a).a = !arB (mrC L a (atC L a).t) := by rw [cl_val hv, decide_eq_true hE, Bool.true_and, m1]
    have hnm : nmR L a = Go.Proofs.YtalejaklggnnpaaGreatDoor.inB (mrN L a (atC L a).t) := by unfold nmR; rw [decide_eq_true m4, Bool.true_and]
    cases ha : arB (mrC L a (atC L a).t) with
    | true => rw [pl_3 he hh (Or.inr ⟨by omega, by rw [hcl, ha]; rfl⟩), ck_ma ht3 rfl ha]
    | false =>
     have no1 : ¬ ((op = 67 ∧ clR L a = false) ∨ ((59 ≤ op ∧ op ≤ 66) ∧ clR L (atC L a).a = false)) := by
      rintro (⟨e, _⟩ | ⟨_, e⟩)
      ·
       omega
      ·
       rw [hcl, ha] at e; cases e
     have no2 : ¬ (op = 68 ∧ (¬ paE (atC L a).s = 0 ∨ paB (atC L a).s = 86)) := by rintro ⟨e, _⟩; omega
     cases hb : Go.Proofs.YtalejaklggnnpaaGreatDoor.inB (mrN L a (atC L a).t) with
     | false => rw [pl_5 he hh no1 no2, if_neg (by rintro ⟨_, e⟩; rw [hnm, hb] at e; cases e), ck_mc ht3 rfl ha (by rintro ⟨e, _⟩; rw [hb] at e; cases e)]
     | true =>
      have field : (59 ≤ op ∧ op ≤ 62) → False := fun h9 => by
       have ht9 : (atC L a).t = 9 := by omega
       have hx2 := (ck_idx (hv _ hm) (by omega)).2
       unfold txE at hx2
       rw [ht9, if_neg (by decide), if_neg (by decide), if_pos (by decide), mtx_2 hN] at hx2
       have hlt : ltB (ntN L (atC L a).b) = true := by
        rw [m2] at hb
        unfold Go.Proofs.YtalejaklggnnpaaGreatDoor.inB at hb
        unfold ltB
        have := eq_of_beq hb
        rw [Lib.toList_data] at this
        rw [this]; rfl
       unfold mbE at hx2
       rw [hlt] at hx2
       split at hx2
       ·
        cases hx2
       ·
        rw [if_pos rfl, if_pos rfl] at hx2; cases hx2
      have h9 : ¬ (59 ≤ op ∧ op ≤ 62) := field
      by_cases h64 : op = 64
      ·
       rw [pl_5 he hh no1 no2, if_neg (by rintro ⟨e, _⟩; omega), ck_mc ht3 rfl ha (fun e => e.2 h64)]
      ·
       rw [pl_5 he hh no1 no2, if_pos ⟨by omega, by rw [hnm]; exact hb⟩, ck_mb ht3 rfl ha hb h64]
 ·
  rw [pl_1 he, cn_1 he, at_two he]
end Go.Proofs.YtalejaklggnnpaaGreatDoor.I
