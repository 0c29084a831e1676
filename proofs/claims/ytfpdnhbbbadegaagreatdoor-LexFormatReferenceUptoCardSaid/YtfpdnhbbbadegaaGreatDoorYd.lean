/- Layer 53: tokens: joined and scanned again; comments and white space; offsets; pure. -/
import Derived.Test.YtfpdnhbbbadegaaGreatDoorYc
namespace Go.Proofs.YtfpdnhbbbadegaaGreatDoor
open Go.ChangeShapes Go.WideShapes Go.ChangeAt Go.RowKit Go.PlainAid
set_option linter.unusedSimpArgs false
set_option linter.unusedVariables false

/-! bounds -/
theorem nmZ_le (l : List UInt8) : nmZ l ≤ l.length := by
  have h1 := partL_le l
  have h2 := nm_bd l.length (l.drop (partL l))
  rw [List.length_drop] at h2
  unfold nmZ; omega
theorem part_pos {c : UInt8} {r : List UInt8} (h : lt8 c = true) : 0 < partL (c :: r) := by
  show 0 < (if lt8 c = true then 1 + (r.takeWhile nameB).length else 0)
  rw [if_pos h]; omega
theorem dg_pos {c : UInt8} {r : List UInt8} (h : dg8 c = true) : 0 < dgN (c :: r) := by
  unfold dgN; rw [List.takeWhile_cons, if_pos h]; simp
theorem head_drop {l : List UInt8} {d : Nat} {x : UInt8} (h : (l.drop d).head? = some x) : d + 1 ≤ l.length := by
  have : d < l.length := by
    rcases Nat.lt_or_ge d l.length with h' | h'
    · exact h'
    · rw [List.drop_eq_nil_of_le h'] at h; cases h
  omega
theorem sc_bd {l : List UInt8} {t : Sc} (h : scL l = some t) : 0 < t.z ∧ t.z ≤ l.length := by
  cases l with
  | nil => cases h
  | cons c l =>
    rw [sc_cons] at h
    split at h
    · rename_i hc
      unfold scNm at h
      split at h
      · cases h
        have := part_pos (r := l) hc
        have h2 := nmZ_le (c :: l)
        refine ⟨?_, h2⟩
        show 0 < nmZ (c :: l)
        unfold nmZ; omega
      · cases h
    · split at h
      · rename_i hd
        have hp := dg_pos (r := l) hd
        have hle := dgN_le (c :: l)
        unfold scNu at h
        split at h
        · cases h
        · split at h
          · rename_i h76
            have h3 := head_drop h76
            cases hp : okI (Lib.parseIntB 64 ((c :: l).take (dgN (c :: l)))) with
            | none => rw [hp] at h; cases h
            | some v => rw [hp] at h; cases h; exact ⟨Nat.succ_pos _, h3⟩
          · cases hp : okI (Lib.parseIntB 32 ((c :: l).take (dgN (c :: l)))) with
            | none => rw [hp] at h; cases h
            | some v => rw [hp] at h; cases h; exact ⟨by assumption, hle⟩
      · split at h
        · unfold scSt at h
          cases hs : strGo (c :: l).length ((c :: l).drop 1) with
          | none => rw [hs] at h; cases h
          | some x =>
            rw [hs] at h
            have hb := str_bd _ _ x hs
            rw [List.length_drop] at hb
            simp only at h
            split at h
            · cases h
              exact ⟨by show 0 < 1 + x.2; omega, by show 1 + x.2 ≤ _; omega⟩
            · cases h
        · unfold scOp at h
          cases hf : opL.find? (·.isPrefixOf (c :: l)) with
          | none => rw [hf] at h; cases h
          | some o =>
            rw [hf] at h
            cases h
            have h1 := op_ne o (List.mem_of_find?_eq_some hf)
            have h2 := List.find?_some hf
            refine ⟨?_, pfx_len h2⟩
            exact List.length_pos_iff.2 h1
theorem sk_le : ∀ (f : Nat) (l : List UInt8), skGo f l ≤ l.length
  | 0, l => Nat.zero_le _
  | f + 1, [] => Nat.zero_le _
  | f + 1, c :: r => by
    show (if bl8 c = true then 1 + skGo f r else if [47, 47].isPrefixOf (c :: r) = true then ((c :: r).takeWhile (· != 10)).length + skGo f ((c :: r).drop ((c :: r).takeWhile (· != 10)).length) else 0) ≤ _
    split
    · have := sk_le f r
      rw [List.length_cons]; omega
    · split
      · have h1 := sk_le f ((c :: r).drop ((c :: r).takeWhile (· != 10)).length)
        have h2 := tw_le (· != 10) (c :: r)
        rw [List.length_drop] at h1
        omega
      · exact Nat.zero_le _
theorem skL_le (l : List UInt8) : skL l ≤ l.length := sk_le _ _
theorem sk_cons (f : Nat) (c : UInt8) (r : List UInt8) : skGo (f + 1) (c :: r) = if bl8 c = true then 1 + skGo f r else if [47, 47].isPrefixOf (c :: r) = true then ((c :: r).takeWhile (· != 10)).length + skGo f ((c :: r).drop ((c :: r).takeWhile (· != 10)).length) else 0 := rfl
theorem cm_pos {c : UInt8} {r : List UInt8} (h : [47, 47].isPrefixOf (c :: r) = true) : 0 < ((c :: r).takeWhile (· != 10)).length := by
  have h1 := pfx_take h
  have : c = 47 := by
    simp only [List.length_cons, List.length_nil, List.take_succ_cons] at h1
    injection h1
  rw [List.takeWhile_cons, this, if_pos (by decide)]
  simp
theorem sk_fuel : ∀ (f f' : Nat) (l : List UInt8), l.length ≤ f → l.length ≤ f' → skGo f l = skGo f' l
  | 0, f', l, h, _ => by
    obtain rfl := List.eq_nil_of_length_eq_zero (Nat.le_zero.1 h)
    cases f' <;> rfl
  | f + 1, 0, l, _, h => by
    obtain rfl := List.eq_nil_of_length_eq_zero (Nat.le_zero.1 h)
    rfl
  | f + 1, f' + 1, [], _, _ => rfl
  | f + 1, f' + 1, c :: r, h, h' => by
    rw [List.length_cons] at h h'
    rw [sk_cons, sk_cons]
    split
    · rw [sk_fuel f f' r (by omega) (by omega)]
    · split
      · rename_i h2
        have hp := cm_pos h2
        rw [sk_fuel f f' _ (by rw [List.length_drop, List.length_cons]; omega) (by rw [List.length_drop, List.length_cons]; omega)]
      · rfl
theorem skL_bl {c : UInt8} {r : List UInt8} (h : bl8 c = true) : skL (c :: r) = 1 + skL r := by
  show skGo (r.length + 1) (c :: r) = _
  rw [sk_cons, if_pos h]; rfl

/-! a step of the lexer -/
theorem tk_succ (f cnt a : Nat) (l : List UInt8) : tkGo (f + 1) cnt a l = if l.drop (skL l) = [] then ([], 0, 0)
    else if cnt = 5000 then ([], 0, 5)
    else match scL (l.drop (skL l)) with
      | none => ([], ((a + skL l : Nat) : Int), 70)
      | some t =>
        if (tkGo f (cnt + 1) (a + skL l + t.z) (l.drop (skL l + t.z))).2.2 = 0 then (⟨t.k, t.s, t.n, ((a + skL l : Nat) : Int)⟩ :: (tkGo f (cnt + 1) (a + skL l + t.z) (l.drop (skL l + t.z))).1, 0, 0)
        else ([], (tkGo f (cnt + 1) (a + skL l + t.z) (l.drop (skL l + t.z))).2) := rfl
theorem tk_nil (f cnt a : Nat) : tkGo f cnt a [] = ([], 0, 0) := by
  cases f with
  | zero => rfl
  | succ f => rw [tk_succ, if_pos (by simp)]
theorem tk_fuel : ∀ (f f' cnt a : Nat) (l : List UInt8), l.length < f → l.length < f' → tkGo f cnt a l = tkGo f' cnt a l
  | 0, _, _, _, _, h, _ => by omega
  | _, 0, _, _, _, _, h => by omega
  | f + 1, f' + 1, cnt, a, l, h, h' => by
    rw [tk_succ, tk_succ]
    by_cases h1 : l.drop (skL l) = []
    · rw [if_pos h1, if_pos h1]
    · rw [if_neg h1, if_neg h1]
      by_cases h2 : cnt = 5000
      · rw [if_pos h2, if_pos h2]
      · rw [if_neg h2, if_neg h2]
        cases hs : scL (l.drop (skL l)) with
        | none => rfl
        | some t =>
          have hb := sc_bd hs
          rw [List.length_drop] at hb
          simp only
          rw [tk_fuel f f' (cnt + 1) (a + skL l + t.z) (l.drop (skL l + t.z)) (by rw [List.length_drop]; omega) (by rw [List.length_drop]; omega)]
theorem tk_bl (f cnt a : Nat) {c : UInt8} (l : List UInt8) (h : bl8 c = true) : tkGo f cnt a (c :: l) = tkGo f cnt (a + 1) l := by
  cases f with
  | zero => rfl
  | succ f =>
    have e : ∀ k, (c :: l).drop (1 + k) = l.drop k := fun k => by rw [Nat.add_comm]; rfl
    rw [tk_succ, tk_succ, skL_bl h, e, ← Nat.add_assoc]
    by_cases h1 : l.drop (skL l) = []
    · rw [if_pos h1, if_pos h1]
    · rw [if_neg h1, if_neg h1]
      by_cases h2 : cnt = 5000
      · rw [if_pos h2, if_pos h2]
      · rw [if_neg h2, if_neg h2]
        cases hs : scL (l.drop (skL l)) with
        | none => rfl
        | some t =>
          simp only
          rw [Nat.add_assoc 1, e]
/-- the same tokens, except for their offsets -/
def SameT (a b : List Tk) : Prop := a.map (fun t => (t.k, t.s, t.n)) = b.map (fun t => (t.k, t.s, t.n))
theorem tk_shift : ∀ (f cnt a d : Nat) (l : List UInt8), SameT (tkGo f cnt (a + d) l).1 (tkGo f cnt a l).1 ∧ (tkGo f cnt (a + d) l).2.2 = (tkGo f cnt a l).2.2
  | 0, _, _, _, _ => ⟨rfl, rfl⟩
  | f + 1, cnt, a, d, l => by
    rw [tk_succ, tk_succ]
    by_cases h1 : l.drop (skL l) = []
    · rw [if_pos h1, if_pos h1]; exact ⟨rfl, rfl⟩
    · rw [if_neg h1, if_neg h1]
      by_cases h2 : cnt = 5000
      · rw [if_pos h2, if_pos h2]; exact ⟨rfl, rfl⟩
      · rw [if_neg h2, if_neg h2]
        cases hs : scL (l.drop (skL l)) with
        | none => exact ⟨rfl, rfl⟩
        | some t =>
          simp only
          have ih := tk_shift f (cnt + 1) (a + skL l + t.z) d (l.drop (skL l + t.z))
          rw [show a + d + skL l + t.z = a + skL l + t.z + d by omega]
          by_cases h3 : (tkGo f (cnt + 1) (a + skL l + t.z) (l.drop (skL l + t.z))).2.2 = 0
          · rw [if_pos h3, if_pos (ih.2.trans h3)]
            refine ⟨?_, rfl⟩
            have := ih.1
            unfold SameT at this ⊢
            rw [List.map_cons, List.map_cons, this]
          · rw [if_neg h3, if_neg (fun e => h3 (ih.2.symm.trans e))]
            exact ⟨rfl, ih.2⟩

/-! a comment behind the text -/
theorem sk_tail {tail : List UInt8} (ht : ∃ r, tail = 10 :: r) (hfull : ∀ g, tail.length ≤ g → skGo g tail = tail.length) : ∀ (f f' : Nat) (l : List UInt8), l.length ≤ f → (l ++ tail).length ≤ f' →
    skGo f' (l ++ tail) = if skGo f l = l.length then (l ++ tail).length else skGo f l
  | f, f', [], _, h' => by
    rw [List.nil_append] at h' ⊢
    rw [hfull f' h', if_pos (by cases f <;> rfl)]
  | 0, f', c :: l, h, _ => by simp at h
  | f + 1, 0, c :: l, _, h' => by simp at h'
  | f + 1, f' + 1, c :: l, h, h' => by
    have hsep : Sep tail := by obtain ⟨r, rfl⟩ := ht; exact Or.inr ⟨10, r, rfl, Or.inl rfl⟩
    rw [List.length_cons] at h
    rw [List.cons_append, List.length_cons] at h'
    rw [List.cons_append, sk_cons, sk_cons]
    by_cases h1 : bl8 c = true
    · rw [if_pos h1, if_pos h1, sk_tail ht hfull f f' l (by omega) (by omega), List.length_cons, List.length_cons]
      by_cases h2 : skGo f l = l.length
      · rw [if_pos h2, if_pos (by omega)]; omega
      · rw [if_neg h2, if_neg (by omega)]
    · rw [if_neg h1, if_neg h1]
      rw [← List.cons_append, pfx_app hsep (c :: l) (by decide : ∀ x ∈ ([47, 47] : List UInt8), x ≠ 10 ∧ x ≠ 32)]
      by_cases h2 : [47, 47].isPrefixOf (c :: l) = true
      · have hw : ((c :: l) ++ tail).takeWhile (· != 10) = (c :: l).takeWhile (· != 10) := tw_app (by obtain ⟨r, rfl⟩ := ht; rfl)
        have hp := cm_pos h2
        have hle := tw_le (· != 10) (c :: l)
        rw [if_pos h2, if_pos h2, hw, drop_app hle]
        rw [List.length_cons] at hle
        rw [sk_tail ht hfull f f' _ (by rw [List.length_drop, List.length_cons]; omega) (by rw [List.length_append, List.length_drop, List.length_cons]; rw [List.length_append] at h'; omega)]
        have hs := sk_le f ((c :: l).drop ((c :: l).takeWhile (· != 10)).length)
        generalize skGo f ((c :: l).drop ((c :: l).takeWhile (· != 10)).length) = q at hs ⊢
        generalize ((c :: l).takeWhile (· != 10)).length = m at hp hle hs ⊢
        rw [List.length_append, List.length_append, List.length_drop, List.length_cons]
        rw [List.length_drop, List.length_cons] at hs
        by_cases h3 : q = l.length + 1 - m
        · rw [if_pos h3, if_pos (by omega)]; omega
        · rw [if_neg h3, if_neg (by omega)]
      · rw [if_neg h2, if_neg h2, if_neg (by simp)]
theorem tk_tail {tail : List UInt8} (ht : ∃ r, tail = 10 :: r) (hfull : ∀ g, tail.length ≤ g → skGo g tail = tail.length) : ∀ (f cnt a : Nat) (l : List UInt8), (l ++ tail).length < f → tkGo f cnt a (l ++ tail) = tkGo f cnt a l
  | 0, _, _, _, h => by omega
  | f + 1, cnt, a, l, h => by
    have hsep : Sep tail := by obtain ⟨r, rfl⟩ := ht; exact Or.inr ⟨10, r, rfl, Or.inl rfl⟩
    have hk := sk_tail ht hfull l.length (l ++ tail).length l (Nat.le_refl _) (Nat.le_refl _)
    change skL (l ++ tail) = if skL l = l.length then (l ++ tail).length else skL l at hk
    have hle := skL_le l
    rw [tk_succ, tk_succ]
    by_cases h1 : skL l = l.length
    · rw [if_pos h1] at hk
      rw [hk, List.drop_length, if_pos rfl, h1, List.drop_length, if_pos rfl]
    · rw [if_neg h1] at hk
      have hne : l.drop (skL l) ≠ [] := fun e => by
        have := congrArg List.length e
        rw [List.length_drop] at this
        simp at this
        omega
      rw [hk, drop_app hle, if_neg (by simp [hne]), if_neg hne]
      by_cases h2 : cnt = 5000
      · rw [if_pos h2, if_pos h2]
      · rw [if_neg h2, if_neg h2]
        cases hs : scL (l.drop (skL l)) with
        | none =>
          obtain ⟨r, rfl⟩ := ht
          rw [sc_none hne hs]
        | some t =>
          have hb := sc_bd hs
          rw [List.length_drop] at hb
          rw [List.length_append] at h
          rw [sc_some hsep hs]
          simp only
          rw [drop_app (show skL l + t.z ≤ l.length by omega), tk_tail ht hfull f (cnt + 1) _ _ (by rw [List.length_append, List.length_drop]; omega)]
theorem tail_full (rm : List UInt8) (h : ∀ c ∈ rm, c ≠ 10) (g : Nat) (hg : (10 :: 32 :: 47 :: 47 :: rm).length ≤ g) : skGo g (10 :: 32 :: 47 :: 47 :: rm) = (10 :: 32 :: 47 :: 47 :: rm).length := by
  rw [sk_fuel g (rm.length + 4) _ hg (by simp)]
  have hw : (47 :: 47 :: rm).takeWhile (· != 10) = 47 :: 47 :: rm := by
    have := tw_all (q := (· != 10)) (p := 47 :: 47 :: rm) (r := []) (fun c hc => by
      rcases List.mem_cons.1 hc with rfl | hc
      · decide
      · rcases List.mem_cons.1 hc with rfl | hc
        · decide
        · have := h c hc
          simpa using this) rfl
    rwa [List.append_nil] at this
  rw [sk_cons, if_pos (by decide), sk_cons, if_pos (by decide), sk_cons, if_neg (by decide), if_pos (show [47, 47].isPrefixOf (47 :: 47 :: rm) = true from pfx_self [47, 47] rm), hw, List.drop_length]
  have : skGo (rm.length + 1) [] = 0 := rfl
  rw [this]
  simp only [List.length_cons]
  omega
/-- a comment on a line behind the text changes nothing -/
theorem tk_remark {l rm : List UInt8} (h : ∀ c ∈ rm, c ≠ 10) (hl : l.length ≤ 15000) (hr : rm.length ≤ 1000) : tkL (l ++ 10 :: 32 :: 47 :: 47 :: rm) = tkL l := by
  have hn : (l ++ 10 :: 32 :: 47 :: 47 :: rm).length = l.length + rm.length + 4 := by simp; omega
  unfold tkL
  rw [if_neg (by rw [hn]; omega), if_neg (by omega), tk_tail ⟨_, rfl⟩ (tail_full rm h) _ 0 0 l (Nat.lt_succ_self _)]
  exact tk_fuel _ _ 0 0 l (by rw [hn]; omega) (Nat.lt_succ_self _)
/-- white space ahead changes the offsets alone -/
theorem tk_white {l : List UInt8} (hl : l.length ≤ 15000) : SameT (tkL (32 :: 9 :: l)).1 (tkL l).1 ∧ (tkL (32 :: 9 :: l)).2.2 = (tkL l).2.2 := by
  unfold tkL
  rw [if_neg (by simp; omega), if_neg (by omega), tk_bl _ _ _ _ (by decide), tk_bl _ _ _ _ (by decide)]
  rw [tk_fuel ((32 :: 9 :: l).length + 1) (l.length + 1) 0 _ l (by simp; omega) (by omega)]
  exact tk_shift _ 0 0 2 l
/-- where no error is, none is said; and an error leaves no tokens -/
theorem tk_err : ∀ (f cnt a : Nat) (l : List UInt8), ((tkGo f cnt a l).2.2 = 0 → (tkGo f cnt a l).2.1 = 0) ∧ ((tkGo f cnt a l).2.2 ≠ 0 → (tkGo f cnt a l).1 = []) ∧ ((tkGo f cnt a l).2.2 = 0 ∨ ((tkGo f cnt a l).2.2 = 5 ∧ (tkGo f cnt a l).2.1 = 0) ∨ ((tkGo f cnt a l).2.2 = 70 ∧ ((a : Int) ≤ (tkGo f cnt a l).2.1 ∧ (tkGo f cnt a l).2.1 < a + l.length)))
  | 0, _, _, _ => ⟨fun _ => rfl, fun _ => rfl, Or.inl rfl⟩
  | f + 1, cnt, a, l => by
    rw [tk_succ]
    have hle := skL_le l
    by_cases h1 : l.drop (skL l) = []
    · rw [if_pos h1]; exact ⟨fun _ => rfl, fun _ => rfl, Or.inl rfl⟩
    · have hlt : skL l < l.length := by
        rcases Nat.lt_or_ge (skL l) l.length with h | h
        · exact h
        · exact absurd (List.drop_eq_nil_of_le h) h1
      rw [if_neg h1]
      by_cases h2 : cnt = 5000
      · rw [if_pos h2]; exact ⟨fun h => (by cases h), fun _ => rfl, Or.inr (Or.inl ⟨rfl, rfl⟩)⟩
      · rw [if_neg h2]
        cases hs : scL (l.drop (skL l)) with
        | none => exact ⟨fun h => (by cases h), fun _ => rfl, Or.inr (Or.inr ⟨rfl, by simp only; omega, by simp only; omega⟩)⟩
        | some t =>
          have hb := sc_bd hs
          rw [List.length_drop] at hb
          simp only
          have ih := tk_err f (cnt + 1) (a + skL l + t.z) (l.drop (skL l + t.z))
          rw [List.length_drop] at ih
          by_cases h3 : (tkGo f (cnt + 1) (a + skL l + t.z) (l.drop (skL l + t.z))).2.2 = 0
          · rw [if_pos h3]; exact ⟨fun _ => rfl, fun h => absurd rfl h, Or.inl rfl⟩
          · rw [if_neg h3]
            refine ⟨fun h => absurd h h3, fun _ => rfl, Or.inr ?_⟩
            rcases ih.2.2 with h | h | h
            · exact absurd h h3
            · exact Or.inl h
            · refine Or.inr ⟨h.1, ?_⟩
              have := h.2
              simp only
              omega

/-! offsets -/
theorem tk_ok {f cnt a : Nat} {l : List UInt8} (h : (tkGo (f + 1) cnt a l).2.2 = 0) : (tkGo (f + 1) cnt a l).1 = [] ∨
    ∃ t : Sc, scL (l.drop (skL l)) = some t ∧ cnt ≠ 5000 ∧ (tkGo f (cnt + 1) (a + skL l + t.z) (l.drop (skL l + t.z))).2.2 = 0 ∧
      (tkGo (f + 1) cnt a l).1 = ⟨t.k, t.s, t.n, ((a + skL l : Nat) : Int)⟩ :: (tkGo f (cnt + 1) (a + skL l + t.z) (l.drop (skL l + t.z))).1 := by
  rw [tk_succ] at h ⊢
  by_cases h1 : l.drop (skL l) = []
  · rw [if_pos h1]; exact Or.inl rfl
  · rw [if_neg h1] at h ⊢
    by_cases h2 : cnt = 5000
    · rw [if_pos h2] at h; cases h
    · rw [if_neg h2] at h ⊢
      cases hs : scL (l.drop (skL l)) with
      | none => rw [hs] at h; cases h
      | some t =>
        rw [hs] at h
        simp only at h ⊢
        by_cases h3 : (tkGo f (cnt + 1) (a + skL l + t.z) (l.drop (skL l + t.z))).2.2 = 0
        · rw [if_pos h3]; exact Or.inr ⟨t, rfl, h2, h3, rfl⟩
        · rw [if_neg h3] at h; exact absurd h h3
theorem tk_len : ∀ (f cnt a : Nat) (l : List UInt8), (tkGo f cnt a l).2.2 = 0 → cnt ≤ 5000 → cnt + (tkGo f cnt a l).1.length ≤ 5000
  | 0, cnt, _, _, _, hc => hc
  | f + 1, cnt, a, l, h, hc => by
    rcases tk_ok h with h1 | ⟨t, hs, h2, h3, h1⟩
    · rw [h1]; exact hc
    · rw [h1, List.length_cons]
      have := tk_len f (cnt + 1) _ _ h3 (by omega)
      omega
theorem nm_slash : ∀ (f : Nat) (l : List UInt8), (nmGo f l).1 = [] ∨ (47 : UInt8) ∈ (nmGo f l).1
  | 0, l => Or.inl rfl
  | f + 1, l => by
    unfold nmGo
    split
    · split
      · exact Or.inl rfl
      · exact Or.inr (by simp)
    · exact Or.inl rfl
theorem kw_no : ∀ w ∈ kwL, (47 : UInt8) ∉ w := by decide +kernel
theorem sc_lit {l : List UInt8} {t : Sc} (h : scL l = some t) (hk : t.k = 6 ∨ t.k = 2) : t.s.isPrefixOf l = true := by
  cases l with
  | nil => cases h
  | cons c l =>
    rw [sc_cons] at h
    split at h
    · unfold scNm at h
      split at h
      · cases h
        by_cases hw : kwB (nmT (c :: l)) = true
        · have hm : nmT (c :: l) ∈ kwL := by unfold kwB at hw; simpa using hw
          have hno := kw_no _ hm
          rcases nm_slash (c :: l).length ((c :: l).drop (partL (c :: l))) with h1 | h1
          · refine List.isPrefixOf_iff_prefix.2 ?_
            show nmT (c :: l) <+: c :: l
            unfold nmT
            rw [h1, List.append_nil]
            exact List.take_prefix _ _
          · exact absurd (by unfold nmT; exact List.mem_append_right _ h1) hno
        · simp only [if_neg hw] at hk
          omega
      · cases h
    · split at h
      · unfold scNu at h
        split at h
        · cases h
        · split at h
          · cases hp : okI (Lib.parseIntB 64 ((c :: l).take (dgN (c :: l)))) with
            | none => rw [hp] at h; cases h
            | some v => rw [hp] at h; cases h; simp only at hk; omega
          · cases hp : okI (Lib.parseIntB 32 ((c :: l).take (dgN (c :: l)))) with
            | none => rw [hp] at h; cases h
            | some v => rw [hp] at h; cases h; simp only at hk; omega
      · split at h
        · unfold scSt at h
          cases hs : strGo (c :: l).length ((c :: l).drop 1) with
          | none => rw [hs] at h; cases h
          | some x =>
            rw [hs] at h
            simp only at h
            split at h
            · cases h; simp only at hk; omega
            · cases h
        · unfold scOp at h
          cases hf : opL.find? (·.isPrefixOf (c :: l)) with
          | none => rw [hf] at h; cases h
          | some o =>
            rw [hf] at h
            have h2 := List.find?_some hf
            cases h
            exact h2
/-- what is known of a token -/
structure TkAt (a : Nat) (l : List UInt8) (t : Tk) : Prop where
  lo : (a : Int) ≤ t.a
  hi : t.a < a + l.length
  fm : fmB t.k t.s t.n = true
  lit : t.k = 6 ∨ t.k = 2 → t.s.isPrefixOf (l.drop (t.a - a).toNat) = true
theorem tk_each : ∀ (f cnt a : Nat) (l : List UInt8), (tkGo f cnt a l).2.2 = 0 → ∀ t ∈ (tkGo f cnt a l).1, TkAt a l t
  | 0, _, _, _, _, t, ht => by cases ht
  | f + 1, cnt, a, l, h, t, ht => by
    rcases tk_ok h with h1 | ⟨x, hs, h2, h3, h1⟩
    · rw [h1] at ht; cases ht
    · rw [h1] at ht
      have hb := sc_bd hs
      rw [List.length_drop] at hb
      rcases List.mem_cons.1 ht with rfl | ht
      · refine ⟨by simp only; omega, by simp only; omega, sc_fmt hs, fun hk => ?_⟩
        have := sc_lit hs hk
        simp only
        rw [show (((a + skL l : Nat) : Int) - (a : Int)).toNat = skL l by omega]
        exact this
      · have ih := tk_each f (cnt + 1) _ _ h3 t ht
        have i1 := ih.lo
        have i2 := ih.hi
        rw [List.length_drop] at i2
        refine ⟨by omega, by omega, ih.fm, fun hk => ?_⟩
        have := ih.lit hk
        rw [List.drop_drop] at this
        rwa [show skL l + x.z + (t.a - ((a + skL l + x.z : Nat) : Int)).toNat = (t.a - (a : Int)).toNat by omega] at this
theorem tk_inc : ∀ (f cnt a : Nat) (l : List UInt8), (tkGo f cnt a l).2.2 = 0 → ∀ (i : Nat) (t u : Tk), (tkGo f cnt a l).1[i]? = some t → (tkGo f cnt a l).1[i + 1]? = some u → t.a < u.a
  | 0, _, _, _, _, i, t, u, ht, _ => by cases ht
  | f + 1, cnt, a, l, h, i, t, u, ht, hu => by
    rcases tk_ok h with h1 | ⟨x, hs, h2, h3, h1⟩
    · rw [h1] at ht; cases ht
    · rw [h1] at ht hu
      have hb := sc_bd hs
      rw [List.getElem?_cons_succ] at hu
      cases i with
      | zero =>
        rw [List.getElem?_cons_zero] at ht
        cases ht
        have := (tk_each f (cnt + 1) _ _ h3 u (List.mem_of_getElem? hu)).lo
        simp only
        omega
      | succ i =>
        rw [List.getElem?_cons_succ] at ht
        exact tk_inc f (cnt + 1) _ _ h3 i t u ht hu

/-! joined and scanned again -/
theorem fm_sc {k n : Int} {s : List UInt8} (h : fmB k s n = true) : scL (txL k s n) = some ⟨k, s, n, (txL k s n).length⟩ := by
  unfold fmB at h
  cases hs : scL (txL k s n) with
  | none => rw [hs] at h; cases h
  | some t =>
    rw [hs] at h
    simp only [Bool.and_eq_true, decide_eq_true_eq] at h
    obtain ⟨k', s', n', z'⟩ := t
    simp only at h
    obtain ⟨rfl, rfl, rfl, rfl⟩ := h
    rfl
theorem op_bl : ∀ o ∈ opL, ∀ c, o.head? = some c → bl8 c = false := by
  have : ∀ o ∈ opL, (o.head?.map bl8).getD false = false := by decide +kernel
  intro o ho c hc
  have := this o ho
  rw [hc] at this
  exact this
theorem op_sl : ∀ o ∈ opL, o.head? = some 47 → o = [47] := by decide +kernel
theorem bl_not {c : UInt8} (h : bl8 c = true) : lt8 c = false ∧ dg8 c = false ∧ c.toNat ≠ 34 := by
  unfold bl8 at h
  rw [decide_eq_true_eq] at h
  unfold lt8 letB dg8 digB
  rw [decide_eq_false_iff_not, decide_eq_false_iff_not]
  omega
theorem pfx_head {o l : List UInt8} {c : UInt8} (h : o.isPrefixOf (c :: l) = true) (ho : o ≠ []) : o.head? = some c := by
  cases o with
  | nil => exact absurd rfl ho
  | cons a o =>
    have := List.isPrefixOf_iff_prefix.1 h
    rw [List.cons_prefix_cons] at this
    rw [this.1]; rfl
theorem sk_tok {x r : List UInt8} {t : Sc} (h : scL x = some t) (hz : t.z = x.length) (hr : Sep r) : skL (x ++ r) = 0 := by
  cases x with
  | nil => cases h
  | cons c x =>
    show skGo ((x ++ r).length + 1) (c :: (x ++ r)) = 0
    rw [sk_cons]
    have hop : lt8 c = false → dg8 c = false → c.toNat ≠ 34 → ∃ o ∈ opL, o.head? = some c ∧ t.z = o.length := by
      intro h1 h2 h3
      rw [sc_cons, if_neg (by rw [h1]; decide), if_neg (by rw [h2]; decide), if_neg h3] at h
      unfold scOp at h
      cases hf : opL.find? (·.isPrefixOf (c :: x)) with
      | none => rw [hf] at h; cases h
      | some o =>
        rw [hf] at h
        have hm := List.mem_of_find?_eq_some hf
        have hp := List.find?_some hf
        cases h
        exact ⟨o, hm, pfx_head hp (op_ne o hm), rfl⟩
    by_cases hb : bl8 c = true
    · obtain ⟨h1, h2, h3⟩ := bl_not hb
      obtain ⟨o, hm, hh, _⟩ := hop h1 h2 h3
      rw [op_bl o hm c hh] at hb; cases hb
    · rw [if_neg hb, ← List.cons_append, pfx_app hr (c :: x) (by decide : ∀ y ∈ ([47, 47] : List UInt8), y ≠ 10 ∧ y ≠ 32)]
      by_cases h2 : [47, 47].isPrefixOf (c :: x) = true
      · exfalso
        have hc : c = 47 := by
          have := pfx_head h2 (by simp)
          simp at this
          exact this.symm
        subst hc
        obtain ⟨o, hm, hh, ho⟩ := hop (by decide) (by decide) (by decide)
        have := op_sl o hm hh
        have hl := pfx_len h2
        rw [hz, this] at ho
        simp at ho hl
        rw [ho] at hl
        simp at hl
      · rw [if_neg h2]
theorem jo_go : ∀ (ts : List Tk) (f cnt a : Nat), (∀ t ∈ ts, fmB t.k t.s t.n = true) → cnt + ts.length ≤ 5000 → (joW ts).length < f → SameT (tkGo f cnt a (joW ts)).1 ts ∧ (tkGo f cnt a (joW ts)).2.2 = 0
  | [], f, cnt, a, _, _, _ => by
    show SameT (tkGo f cnt a []).1 [] ∧ (tkGo f cnt a []).2.2 = 0
    rw [tk_nil]; exact ⟨rfl, rfl⟩
  | t :: ts, f, cnt, a, hf, hc, hl => by
    have hs := fm_sc (hf t List.mem_cons_self)
    have hb := sc_bd hs
    obtain ⟨r, hr, hsep, hrest⟩ : ∃ r, joW (t :: ts) = txL t.k t.s t.n ++ r ∧ Sep r ∧ (r = [] ∧ ts = [] ∨ r = 32 :: joW ts) := by
      cases ts with
      | nil => exact ⟨[], by rw [List.append_nil]; rfl, Or.inl rfl, Or.inl ⟨rfl, rfl⟩⟩
      | cons u ts => exact ⟨32 :: joW (u :: ts), rfl, Or.inr ⟨32, _, rfl, Or.inr rfl⟩, Or.inr rfl⟩
    rw [hr] at hl ⊢
    rw [List.length_append] at hl
    rw [List.length_cons] at hc
    cases f with
    | zero => omega
    | succ f =>
      have hne : txL t.k t.s t.n ++ r ≠ [] := fun e => by
        have := congrArg List.length e
        simp only [List.length_append, List.length_nil] at this
        simp only at hb
        omega
      have key : SameT (tkGo f (cnt + 1) (a + 0 + (txL t.k t.s t.n).length) r).1 ts ∧ (tkGo f (cnt + 1) (a + 0 + (txL t.k t.s t.n).length) r).2.2 = 0 := by
        rcases hrest with ⟨rfl, rfl⟩ | rfl
        · rw [tk_nil]; exact ⟨rfl, rfl⟩
        · rw [tk_bl _ _ _ _ (by decide)]
          refine jo_go ts f (cnt + 1) _ (fun u hu => hf u (List.mem_cons_of_mem _ hu)) (by omega) ?_
          simp only [List.length_cons] at hl
          omega
      rw [tk_succ, sk_tok hs rfl hsep, List.drop_zero, if_neg hne, if_neg (by omega), sc_some hsep hs]
      simp only
      rw [Nat.zero_add, List.drop_left, if_pos key.2]
      refine ⟨?_, rfl⟩
      have := key.1
      unfold SameT at this ⊢
      rw [List.map_cons, List.map_cons, this]
theorem jo_rt {ts : List Tk} (h : joE ts = 0) : SameT (tkL (joS ts)).1 ts ∧ (tkL (joS ts)).2.2 = 0 := by
  have h' := h
  unfold joE at h
  by_cases h1 : 5000 < ts.length
  · rw [if_pos h1] at h; cases h
  · rw [if_neg h1] at h
    by_cases h2 : ts.all (fun t => fmB t.k t.s t.n) = true
    · rw [if_pos h2] at h
      by_cases h3 : 20000 < (joW ts).length
      · rw [if_pos h3] at h; cases h
      · rw [List.all_eq_true] at h2
        unfold joS tkL
        rw [if_pos h', if_neg h3]
        exact jo_go ts _ 0 0 h2 (by omega) (Nat.lt_succ_self _)
    · rw [if_neg h2] at h; cases h
/-- the tokens of a text are joined without an error, or the text is too long -/
theorem jo_of {l : List UInt8} (h : (tkL l).2.2 = 0) : joE (tkL l).1 = 0 ∨ joE (tkL l).1 = 8 := by
  unfold tkL at h ⊢
  by_cases h0 : 20000 < l.length
  · rw [if_pos h0] at h; cases h
  · rw [if_neg h0] at h ⊢
    have h1 := tk_len _ 0 0 l h (by decide)
    have h2 := tk_each _ 0 0 l h
    unfold joE
    rw [if_neg (by omega), if_pos (by rw [List.all_eq_true]; exact fun t ht => (h2 t ht).fm)]
    split
    · exact Or.inr rfl
    · exact Or.inl rfl

end Go.Proofs.YtfpdnhbbbadegaaGreatDoor
