/- Layer 53: what stands behind a token does not change it (locality), pure. -/
import Derived.Test.YtfpdnhbbbadegaaGreatDoorYa
namespace Go.Proofs.YtfpdnhbbbadegaaGreatDoor
open Go.ChangeShapes Go.WideShapes Go.ChangeAt Go.RowKit Go.PlainAid
set_option linter.unusedSimpArgs false
set_option linter.unusedVariables false

/-- the end, or a space or a line's end -/
def Sep (r : List UInt8) : Prop := r = [] ∨ ∃ c r', r = c :: r' ∧ (c = 10 ∨ c = 32)
theorem sep_tw {p : UInt8 → Bool} {r : List UInt8} (h : Sep r) (h1 : p 10 = false) (h2 : p 32 = false) : r.takeWhile p = [] := by
  rcases h with rfl | ⟨c, r', rfl, rfl | rfl⟩
  · rfl
  · rw [List.takeWhile_cons, h1]; rfl
  · rw [List.takeWhile_cons, h2]; rfl
theorem tw_app {p : UInt8 → Bool} {l r : List UInt8} (h : r.takeWhile p = []) : (l ++ r).takeWhile p = l.takeWhile p := by
  induction l with
  | nil => simpa using h
  | cons c l ih =>
    rw [List.cons_append, List.takeWhile_cons, List.takeWhile_cons, ih]
theorem tw_le (p : UInt8 → Bool) (l : List UInt8) : (l.takeWhile p).length ≤ l.length := by
  induction l with
  | nil => exact Nat.le_refl _
  | cons c l ih =>
    rw [List.takeWhile_cons]
    split
    · simpa using ih
    · simp
theorem drop_app {l r : List UInt8} {k : Nat} (h : k ≤ l.length) : (l ++ r).drop k = l.drop k ++ r := List.drop_append_of_le_length h
theorem take_app {l r : List UInt8} {k : Nat} (h : k ≤ l.length) : (l ++ r).take k = l.take k := List.take_append_of_le_length h
theorem partL_le (l : List UInt8) : partL l ≤ l.length := by
  cases l with
  | nil => exact Nat.le_refl _
  | cons c r =>
    have := tw_le nameB r
    show (if lt8 c = true then 1 + (r.takeWhile nameB).length else 0) ≤ (c :: r).length
    rw [List.length_cons]
    split <;> omega
theorem partL_app {l r : List UInt8} (h : Sep r) : partL (l ++ r) = partL l := by
  cases l with
  | nil =>
    rcases h with rfl | ⟨c, r', rfl, rfl | rfl⟩
    · rfl
    · show (if lt8 10 = true then 1 + (r'.takeWhile nameB).length else 0) = 0
      rw [if_neg (by decide)]
    · show (if lt8 32 = true then 1 + (r'.takeWhile nameB).length else 0) = 0
      rw [if_neg (by decide)]
  | cons c l =>
    show (if lt8 c = true then 1 + ((l ++ r).takeWhile nameB).length else 0) = (if lt8 c = true then 1 + (l.takeWhile nameB).length else 0)
    rw [tw_app (sep_tw h (by decide) (by decide))]
theorem pfx_app {r : List UInt8} (h : Sep r) : ∀ {o : List UInt8} (l : List UInt8), (∀ c ∈ o, c ≠ 10 ∧ c ≠ 32) → o.isPrefixOf (l ++ r) = o.isPrefixOf l
  | [], l, _ => by simp
  | a :: o, [], ho => by
    have ha := ho a List.mem_cons_self
    rcases h with rfl | ⟨c, r', rfl, rfl | rfl⟩
    · rfl
    · have : (a == 10) = false := by simpa using ha.1
      simp [List.isPrefixOf, this]
    · have : (a == 32) = false := by simpa using ha.2
      simp [List.isPrefixOf, this]
  | a :: o, b :: l, ho => by
    have ih := pfx_app h l (o := o) (fun c hc => ho c (List.mem_cons_of_mem _ hc))
    rw [List.cons_append]
    simp [List.isPrefixOf, ih]
theorem pfx_len {o l : List UInt8} (h : o.isPrefixOf l = true) : o.length ≤ l.length := (List.isPrefixOf_iff_prefix.1 h).length_le
theorem pfx_take {o l : List UInt8} (h : o.isPrefixOf l = true) : l.take o.length = o := (List.prefix_iff_eq_take.1 (List.isPrefixOf_iff_prefix.1 h)).symm
theorem pfx_self (o r : List UInt8) : o.isPrefixOf (o ++ r) = true := List.isPrefixOf_iff_prefix.2 (List.prefix_append _ _)
theorem cc_mem : ∀ c ∈ ([58, 58] : List UInt8), c ≠ 10 ∧ c ≠ 32 := by decide
theorem nm_bd : ∀ (f : Nat) (l : List UInt8), (nmGo f l).2 ≤ l.length
  | 0, l => Nat.zero_le _
  | f + 1, l => by
    unfold nmGo
    split
    · rename_i h
      have h2 : 2 ≤ l.length := pfx_len h
      split
      · exact Nat.zero_le _
      · have h3 := partL_le (l.drop 2)
        have h4 := nm_bd f (l.drop (2 + partL (l.drop 2)))
        rw [List.length_drop] at h3 h4
        show 2 + partL (l.drop 2) + _ ≤ _
        omega
    · exact Nat.zero_le _
theorem nm_app {r : List UInt8} (h : Sep r) : ∀ (f : Nat) (l : List UInt8), nmGo f (l ++ r) = nmGo f l
  | 0, l => rfl
  | f + 1, l => by
    unfold nmGo
    rw [pfx_app h l cc_mem]
    by_cases h1 : [58, 58].isPrefixOf l = true
    · have h2 : 2 ≤ l.length := pfx_len h1
      have h3 := partL_le (l.drop 2)
      rw [if_pos h1, if_pos h1, drop_app h2, partL_app h]
      rw [List.length_drop] at h3
      rw [drop_app (show 2 + partL (l.drop 2) ≤ l.length by omega), nm_app h f, take_app (partL_le _)]
    · rw [if_neg h1, if_neg h1]
theorem nm_more : ∀ (f : Nat) (l : List UInt8), l.length ≤ f → nmGo (f + 1) l = nmGo f l
  | 0, l, h => by
    obtain rfl := List.eq_nil_of_length_eq_zero (Nat.le_zero.1 h)
    rfl
  | f + 1, l, h => by
    have key : ∀ g, nmGo (g + 1) l = if [58, 58].isPrefixOf l = true then (if partL (l.drop 2) = 0 then ([], 0) else (47 :: (l.drop 2).take (partL (l.drop 2)) ++ (nmGo g (l.drop (2 + partL (l.drop 2)))).1, 2 + partL (l.drop 2) + (nmGo g (l.drop (2 + partL (l.drop 2)))).2)) else ([], 0) := fun g => rfl
    rw [key, key]
    by_cases h1 : [58, 58].isPrefixOf l = true
    · rw [if_pos h1, if_pos h1, nm_more f _ (by rw [List.length_drop]; omega)]
    · rw [if_neg h1, if_neg h1]
theorem nm_fuel (l : List UInt8) : ∀ (d : Nat), nmGo (l.length + d) l = nmGo l.length l
  | 0 => rfl
  | d + 1 => (nm_more (l.length + d) l (by omega)).trans (nm_fuel l d)
theorem nm_any {f : Nat} {l : List UInt8} (h : l.length ≤ f) : nmGo f l = nmGo l.length l := by
  have := nm_fuel l (f - l.length)
  rwa [show l.length + (f - l.length) = f by omega] at this
theorem nmT_app {l r : List UInt8} (h : Sep r) : nmT (l ++ r) = nmT l ∧ nmZ (l ++ r) = nmZ l := by
  have hp := partL_le l
  unfold nmT nmZ
  rw [partL_app h, drop_app hp, take_app hp, nm_app h, nm_any (l := l.drop (partL l)) (f := (l ++ r).length) (by rw [List.length_drop, List.length_append]; omega), nm_any (l := l.drop (partL l)) (f := l.length) (by rw [List.length_drop]; omega)]
  exact ⟨rfl, rfl⟩
theorem scNm_app {l r : List UInt8} (h : Sep r) : scNm (l ++ r) = scNm l := by
  unfold scNm
  rw [(nmT_app h).1, (nmT_app h).2]
theorem dgN_le (l : List UInt8) : dgN l ≤ l.length := tw_le _ _
theorem dgN_app {l r : List UInt8} (h : Sep r) : dgN (l ++ r) = dgN l := by
  unfold dgN
  rw [tw_app (sep_tw h (by decide) (by decide))]
theorem head_sep {r : List UInt8} (h : Sep r) : r.head? ≠ some 76 := by
  rcases h with rfl | ⟨c, r', rfl, rfl | rfl⟩
  · simp
  · rw [List.head?_cons]; decide
  · rw [List.head?_cons]; decide
theorem scNu_app {l r : List UInt8} (h : Sep r) (hl : l ≠ []) : scNu (l ++ r) = scNu l := by
  have hd := dgN_le l
  have h76 : ((l.drop (dgN l) ++ r).head? = some 76) = ((l.drop (dgN l)).head? = some 76) := by
    cases hq : l.drop (dgN l) with
    | nil =>
      rw [List.nil_append]
      have := head_sep h
      simp [this]
    | cons a q => rfl
  have hh : (l ++ r).head? = l.head? := by
    cases l with
    | nil => exact absurd rfl hl
    | cons a q => rfl
  unfold scNu
  rw [dgN_app h, drop_app hd, take_app hd, hh]
  simp only [h76]
theorem find_eq {α : Type} {p q : α → Bool} : ∀ {L : List α}, (∀ o ∈ L, p o = q o) → L.find? p = L.find? q
  | [], _ => rfl
  | a :: L, h => by
    rw [List.find?_cons, List.find?_cons, h a List.mem_cons_self, find_eq (fun o ho => h o (List.mem_cons_of_mem _ ho))]
theorem op_mem : ∀ o ∈ opL, ∀ c ∈ o, c ≠ 10 ∧ c ≠ 32 := by decide
theorem scOp_app {l r : List UInt8} (h : Sep r) : scOp (l ++ r) = scOp l := by
  unfold scOp
  rw [find_eq (p := fun o => o.isPrefixOf (l ++ r)) (q := fun o => o.isPrefixOf l) (fun o ho => pfx_app h l (op_mem o ho))]
theorem esc_cons (c : UInt8) (r : List UInt8) : escL (c :: r) = if c.toNat = 34 ∨ c.toNat = 92 then some (c, 1) else if c.toNat = 110 then some (10, 1) else if c.toNat = 120 then (match r with
      | a :: b :: _ => if 0 ≤ hxV a ∧ 0 ≤ hxV b then some (UInt8.ofNat ((hxV a).toNat * 16 + (hxV b).toNat), 3) else none
      | _ => none) else none := rfl
theorem str_cons (f : Nat) (c : UInt8) (r : List UInt8) : strGo (f + 1) (c :: r) = if c.toNat = 34 then some ([], 1) else if c.toNat < 32 ∨ 126 < c.toNat then none else if c.toNat = 92 then (match escL r with
      | none => none
      | some (e, n) => (strGo f (r.drop n)).map fun x => (e :: x.1, 1 + n + x.2))
    else (strGo f r).map fun x => (c :: x.1, 1 + x.2) := rfl
theorem sc_cons (c : UInt8) (r : List UInt8) : scL (c :: r) = if lt8 c = true then scNm (c :: r) else if dg8 c = true then scNu (c :: r) else if c.toNat = 34 then scSt (c :: r) else scOp (c :: r) := rfl
theorem esc_some {l : List UInt8} (r : List UInt8) {x : UInt8 × Nat} (h : escL l = some x) : escL (l ++ r) = some x := by
  cases l with
  | nil => cases h
  | cons c l =>
    rw [List.cons_append]
    rw [esc_cons] at h ⊢
    split at h
    · rename_i h1; rw [if_pos h1]; exact h
    · rename_i h1
      rw [if_neg h1]
      split at h
      · rename_i h2; rw [if_pos h2]; exact h
      · rename_i h2
        rw [if_neg h2]
        split at h
        · rename_i h3
          rw [if_pos h3]
          rcases l with _ | ⟨a, _ | ⟨b, l⟩⟩
          · cases h
          · cases h
          · exact h
        · cases h
theorem hx10 : hxV 10 = -1 := by decide
theorem esc_none {l : List UInt8} (r : List UInt8) (h : escL l = none) : escL (l ++ 10 :: r) = none := by
  cases l with
  | nil => rfl
  | cons c l =>
    rw [List.cons_append]
    rw [esc_cons] at h ⊢
    split at h
    · cases h
    · rename_i h1
      rw [if_neg h1]
      split at h
      · cases h
      · rename_i h2
        rw [if_neg h2]
        split at h
        · rename_i h3
          rw [if_pos h3]
          rcases l with _ | ⟨a, _ | ⟨b, l⟩⟩
          · cases r with
            | nil => rfl
            | cons d r =>
              show (if 0 ≤ hxV 10 ∧ 0 ≤ hxV d then _ else none) = none
              rw [hx10, if_neg (by omega)]
          · show (if 0 ≤ hxV a ∧ 0 ≤ hxV 10 then _ else none) = none
            rw [hx10, if_neg (by omega)]
          · exact h
        · rename_i h3
          rw [if_neg h3]
theorem esc_bd {l : List UInt8} {x : UInt8 × Nat} (h : escL l = some x) : 0 < x.2 ∧ x.2 ≤ l.length := by
  cases l with
  | nil => cases h
  | cons c l =>
    rw [esc_cons] at h
    split at h
    · cases h; simp
    · split at h
      · cases h; simp
      · split at h
        · rcases l with _ | ⟨a, _ | ⟨b, l⟩⟩
          · cases h
          · cases h
          · simp only at h
            split at h
            · cases h; simp
            · cases h
        · cases h
theorem str_some (r : List UInt8) : ∀ (f f' : Nat) (l : List UInt8) (x : List UInt8 × Nat), f ≤ f' → strGo f l = some x → strGo f' (l ++ r) = some x
  | 0, _, _, _, _, h => by cases h
  | f + 1, 0, _, _, hf, _ => by omega
  | f + 1, f' + 1, [], x, _, h => by cases h
  | f + 1, f' + 1, c :: l, x, hf, h => by
    rw [List.cons_append]
    rw [str_cons] at h ⊢
    split at h
    · rename_i h1; rw [if_pos h1]; exact h
    · rename_i h1
      rw [if_neg h1]
      split at h
      · cases h
      · rename_i h2
        rw [if_neg h2]
        split at h
        · rename_i h3
          rw [if_pos h3]
          cases he : escL l with
          | none => rw [he] at h; cases h
          | some e =>
            rw [he] at h
            have hb := esc_bd he
            rw [esc_some r he]
            simp only at h ⊢
            rw [drop_app hb.2]
            cases hs : strGo f (l.drop e.2) with
            | none => rw [hs] at h; cases h
            | some y =>
              rw [hs] at h
              rw [str_some r f f' _ y (by omega) hs]
              exact h
        · rename_i h3
          rw [if_neg h3]
          cases hs : strGo f l with
          | none => rw [hs] at h; cases h
          | some y =>
            rw [hs] at h
            rw [str_some r f f' _ y (by omega) hs]
            exact h
theorem str_none (r : List UInt8) : ∀ (f f' : Nat) (l : List UInt8), l.length ≤ f → strGo f l = none → strGo f' (l ++ 10 :: r) = none
  | _, 0, _, _, _ => rfl
  | f, f' + 1, [], _, _ => by
    show (if (10 : UInt8).toNat = 34 then _ else _) = none
    rw [if_neg (by decide), if_pos (by decide)]
  | 0, f' + 1, c :: l, hf, _ => by simp at hf
  | f + 1, f' + 1, c :: l, hf, h => by
    have hf' : l.length ≤ f := by simpa using hf
    rw [List.cons_append]
    rw [str_cons] at h ⊢
    split at h
    · cases h
    · rename_i h1
      rw [if_neg h1]
      split at h
      · rename_i h2; rw [if_pos h2]
      · rename_i h2
        rw [if_neg h2]
        split at h
        · rename_i h3
          rw [if_pos h3]
          cases he : escL l with
          | none => rw [esc_none r he]
          | some e =>
            rw [he] at h
            have hb := esc_bd he
            rw [esc_some (10 :: r) he]
            simp only at h ⊢
            rw [drop_app hb.2]
            cases hs : strGo f (l.drop e.2) with
            | none => rw [str_none r f f' _ (by rw [List.length_drop]; omega) hs]; rfl
            | some y => rw [hs] at h; cases h
        · rename_i h3
          rw [if_neg h3]
          cases hs : strGo f l with
          | none => rw [str_none r f f' _ hf' hs]; rfl
          | some y => rw [hs] at h; cases h
theorem str_bd : ∀ (f : Nat) (l : List UInt8) (x : List UInt8 × Nat), strGo f l = some x → 0 < x.2 ∧ x.2 ≤ l.length
  | 0, _, _, h => by cases h
  | f + 1, [], x, h => by cases h
  | f + 1, c :: l, x, h => by
    rw [str_cons] at h
    split at h
    · cases h; simp
    · split at h
      · cases h
      · split at h
        · cases he : escL l with
          | none => rw [he] at h; cases h
          | some e =>
            rw [he] at h
            have hb := esc_bd he
            simp only at h
            cases hs : strGo f (l.drop e.2) with
            | none => rw [hs] at h; cases h
            | some y =>
              rw [hs] at h
              have h2 := str_bd f _ y hs
              rw [List.length_drop] at h2
              cases h
              simp only [List.length_cons]
              omega
        · cases hs : strGo f l with
          | none => rw [hs] at h; cases h
          | some y =>
            rw [hs] at h
            have h2 := str_bd f _ y hs
            cases h
            simp only [List.length_cons]
            omega
theorem drop1_app {l r : List UInt8} (hl : l ≠ []) : (l ++ r).drop 1 = l.drop 1 ++ r := drop_app (by cases l with | nil => exact absurd rfl hl | cons a q => simp)
theorem scSt_some {l : List UInt8} (r : List UInt8) (hl : l ≠ []) {t : Sc} (h : scSt l = some t) : scSt (l ++ r) = some t := by
  unfold scSt at h ⊢
  rw [drop1_app hl]
  cases hs : strGo l.length (l.drop 1) with
  | none => rw [hs] at h; cases h
  | some x =>
    rw [hs] at h
    rw [str_some r l.length (l ++ r).length _ x (by rw [List.length_append]; omega) hs]
    exact h
theorem scSt_none {l : List UInt8} (r : List UInt8) (hl : l ≠ []) (h : scSt l = none) : scSt (l ++ 10 :: r) = none := by
  unfold scSt at h ⊢
  rw [drop1_app hl]
  cases hs : strGo l.length (l.drop 1) with
  | none => rw [str_none r l.length _ _ (by rw [List.length_drop]; omega) hs]
  | some x =>
    rw [hs] at h
    rw [str_some (10 :: r) l.length (l ++ 10 :: r).length _ x (by rw [List.length_append]; omega) hs]
    exact h
theorem sc_some {l r : List UInt8} (h : Sep r) {t : Sc} (ht : scL l = some t) : scL (l ++ r) = some t := by
  cases l with
  | nil => cases ht
  | cons c l =>
    have hl : c :: l ≠ [] := by simp
    rw [List.cons_append]
    rw [sc_cons] at ht ⊢
    rw [← List.cons_append]
    split at ht
    · rename_i h1; rw [if_pos h1, scNm_app h]; exact ht
    · rename_i h1
      rw [if_neg h1]
      split at ht
      · rename_i h2; rw [if_pos h2, scNu_app h hl]; exact ht
      · rename_i h2
        rw [if_neg h2]
        split at ht
        · rename_i h3; rw [if_pos h3]; exact scSt_some r hl ht
        · rename_i h3; rw [if_neg h3, scOp_app h]; exact ht
theorem sc_none {l r : List UInt8} (hl : l ≠ []) (ht : scL l = none) : scL (l ++ 10 :: r) = none := by
  have h : Sep (10 :: r) := Or.inr ⟨10, r, rfl, Or.inl rfl⟩
  cases l with
  | nil => exact absurd rfl hl
  | cons c l =>
    rw [List.cons_append]
    rw [sc_cons] at ht ⊢
    rw [← List.cons_append]
    split at ht
    · rename_i h1; rw [if_pos h1, scNm_app h]; exact ht
    · rename_i h1
      rw [if_neg h1]
      split at ht
      · rename_i h2; rw [if_pos h2, scNu_app h hl]; exact ht
      · rename_i h2
        rw [if_neg h2]
        split at ht
        · rename_i h3; rw [if_pos h3]; exact scSt_none r hl ht
        · rename_i h3; rw [if_neg h3, scOp_app h]; exact ht

end Go.Proofs.YtfpdnhbbbadegaaGreatDoor
