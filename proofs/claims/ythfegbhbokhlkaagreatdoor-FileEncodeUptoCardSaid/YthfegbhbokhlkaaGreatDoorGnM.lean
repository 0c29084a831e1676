import Derived.Test.YthfegbhbokhlkaaGreatDoorGhM

/- Gn -/
/- Layer 11: encoding what was read gives the bytes back, pure. -/
namespace Go.Proofs.YthfegbhbokhlkaaGreatDoor
open Go.ChangeShapes Go.WideShapes Go.ChangeAt Go.RowKit Go.PlainAid
set_option linter.unusedSimpArgs false
set_option linter.unusedVariables false

theorem lk_mem {α : Type} {C : Int → α} {N E : Int → Int} {p m : Int} (hp : 0 ≤ p ∧ p ≤ m) (hs : ∀ q, 0 ≤ q → q ≤ m → E q = 0 → q ≤ N q ∧ N q ≤ m) : ∀ k, lkE C N E p k = 0 → ∀ x ∈ lkL C N E p k, ∃ q, 0 ≤ q ∧ q ≤ m ∧ E q = 0 ∧ x = C q
  | 0, _, x, hx => by cases hx
  | k + 1, h, x, hx => by
    by_cases h1 : lkE C N E p k = 0
    · have h2 := lk_ok h1
      have hpos := lk_pos hp hs k h1
      rw [h2.1] at hx
      rcases List.mem_append.1 hx with h3 | h3
      · exact lk_mem hp hs k h1 x h3
      · have : x = C (lkN C N E p k) := by simpa using h3
        exact ⟨lkN C N E p k, by omega, hpos.2, by rw [← h2.2.2]; exact h, this⟩
    · rw [lk_no h1] at h; exact absurd h h1
theorem lk_cat {α : Type} {C : Int → α} {N E : Int → Int} {p : Int} {s : ByteArray} {f : α → ByteArray} (hp : 0 ≤ p ∧ p ≤ s.size) (hs : ∀ q : Int, 0 ≤ q → q ≤ s.size → E q = 0 → q ≤ N q ∧ N q ≤ s.size)
    (hf : ∀ q : Int, 0 ≤ q → q ≤ s.size → E q = 0 → f (C q) = s.extract q.toNat (N q).toNat) : ∀ k, lkE C N E p k = 0 → catB f (lkL C N E p k) = s.extract p.toNat (lkN C N E p k).toNat
  | 0, _ => by
    show (⟨#[]⟩ : ByteArray) = s.extract p.toNat p.toNat
    refine bt_ext (by rw [sz_ex (Nat.le_refl _) (by omega)]; show 0 = _; omega) fun i hi => absurd hi (Nat.not_lt_zero _)
  | k + 1, h => by
    by_cases h1 : lkE C N E p k = 0
    · have h2 := lk_ok h1
      have hpos := lk_pos hp hs k h1
      rw [h2.2.2] at h
      have hn := hs _ (by omega) hpos.2 h
      rw [h2.1, catB_app, catB_one, lk_cat hp hs hf k h1, hf _ (by omega) hpos.2 h, h2.2.1, ex_ap (by omega) (by omega) (by omega)]
    · rw [lk_no h1] at h; exact absurd h h1
theorem ta_parts {s : ByteArray} {q : Int} (h : taE s q = 0) : unsE s q 2 = 0 ∧ unsE s (q + 2) 4 = 0 ∧ unsV s (q + 2) 4 ≤ 65535 ∧ q + 6 + unsV s (q + 2) 4 ≤ s.size := by
  unfold taE at h
  split at h
  · split at h
    · rename_i h1 h2
      split at h
      · cases h
      · split at h
        · cases h
        · exact ⟨h1, h2, by omega, by omega⟩
    · cases h
  · cases h
theorem ta_sz {s : ByteArray} {q : Int} (h : taE s q = 0) : ((taC s q).s.size : Int) = unsV s (q + 2) 4 := by
  obtain ⟨h1, h2, h3, h4⟩ := ta_parts h
  have hu := un_0 ok2 h1
  have hb := un4_bd s (q + 2)
  show ((s.extract (q + 6).toNat (q + 6 + unsV s (q + 2) 4).toNat).size : Int) = _
  rw [sz_ex (by omega) (by omega)]; omega
theorem ta_enc {s : ByteArray} {q : Int} (h : taE s q = 0) : aB (taC s q) = s.extract q.toNat (taN s q).toNat := by
  obtain ⟨h1, h2, h3, h4⟩ := ta_parts h
  have hu := un_0 ok2 h1
  have hb := un4_bd s (q + 2)
  unfold aB
  rw [ta_sz h, put_un ok4 h2 _ (Or.inl rfl), show (taC s q).n = unsV s q 2 from rfl, put_un ok2 h1 _ (Or.inl rfl)]
  show s.extract q.toNat (q + 2).toNat ++ s.extract (q + 2).toNat (q + 2 + 4).toNat ++ s.extract (q + 6).toNat (q + 6 + unsV s (q + 2) 4).toNat = _
  rw [show q + 2 + 4 = q + 6 by omega, ex_ap (by omega) (by omega) (by omega), ex_ap (by omega) (by omega) (by omega)]
  rfl
theorem as_parts {s : ByteArray} {q : Int} (h : asE s q = 0) : cuE s q 16 = 0 ∧ lkE (taC s) (taN s) (taE s) (q + 2) (unsV s q 2).toNat = 0 := by
  unfold asE at h
  split at h
  · rename_i h1; exact ⟨h1, h⟩
  · rename_i h1; exact absurd h h1
theorem ms_parts {s : ByteArray} {q : Int} (h : msE s q = 0) : cuE s q 64 = 0 ∧ lkE (tmC s) (tmN s) (tmE s) (q + 2) (unsV s q 2).toNat = 0 := by
  unfold msE at h
  split at h
  · rename_i h1; exact ⟨h1, h⟩
  · rename_i h1; exact absurd h h1
theorem is_parts {s : ByteArray} {q : Int} (h : isE s q = 0) : cuE s q 8 = 0 ∧ lkE (nuC s) nuN (nuE s) (q + 2) (unsV s q 2).toNat = 0 := by
  unfold isE at h
  split at h
  · rename_i h1; exact ⟨h1, h⟩
  · rename_i h1; exact absurd h h1
theorem as_enc {s : ByteArray} {q : Int} (h : asE s q = 0) : asB (asL s q) = s.extract q.toNat (asN s q).toNat := by
  obtain ⟨h1, h2⟩ := as_parts h
  obtain ⟨c1, c2, c3, c4⟩ := cu_0 h1
  have hl := (as_len h).1
  have hb := uns2_bd s q
  have hn := as_ok c3 (by omega) h
  have hpos := lk_pos (m := s.size) (N := taN s) (by omega) (fun q a b c => ta_ok a b c) _ h2
  unfold asB
  rw [show (((asL s q).length : Nat) : Int) = unsV s q 2 by omega, put_un ok2 c1 _ (Or.inl rfl)]
  unfold asL
  rw [lk_cat (C := taC s) (N := taN s) (E := taE s) (by omega) (fun q a b c => ta_ok a b c) (fun q a b c => ta_enc c) _ h2, ex_ap (by omega) (by omega) (by omega)]
  rfl
theorem tm_parts {s : ByteArray} {q : Int} (h : tmE s q = 0) : unsE s q 2 = 0 ∧ unsE s (q + 2) 2 = 0 ∧ unsE s (q + 4) 2 = 0 ∧ asE s (q + 6) = 0 := by
  unfold tmE at h
  split at h
  · rename_i h1; exact ⟨h1.1, h1.2.1, h1.2.2, h⟩
  · cases h
theorem tm_enc {s : ByteArray} {q : Int} (h : tmE s q = 0) : mvB (tmC s q) = s.extract q.toNat (tmN s q).toNat := by
  obtain ⟨h1, h2, h3, h4⟩ := tm_parts h
  have u1 := un_0 ok2 h1
  have u3 := un_0 ok2 h3
  have hn := as_ok (s := s) (q := q + 6) (by omega) (by omega) h4
  unfold mvB
  rw [show (tmC s q).f = unsV s q 2 from rfl, show (tmC s q).n = unsV s (q + 2) 2 from rfl, show (tmC s q).d = unsV s (q + 4) 2 from rfl, show (tmC s q).l = asL s (q + 6) from rfl,
    put_un ok2 h1 _ (Or.inl rfl), put_un ok2 h2 _ (Or.inl rfl), put_un ok2 h3 _ (Or.inl rfl), as_enc h4, show q + 2 + 2 = q + 4 by omega, show q + 4 + 2 = q + 6 by omega,
    ex_ap (by omega) (by omega) (by omega), ex_ap (by omega) (by omega) (by omega), ex_ap (by omega) (by omega) (by omega)]
  rfl
theorem ms_enc {s : ByteArray} {q : Int} (h : msE s q = 0) : msB (msL s q) = s.extract q.toNat (msN s q).toNat := by
  obtain ⟨h1, h2⟩ := ms_parts h
  obtain ⟨c1, c2, c3, c4⟩ := cu_0 h1
  have hl := (ms_len h).1
  have hb := uns2_bd s q
  have hn := ms_ok c3 (by omega) h
  have hpos := lk_pos (m := s.size) (N := tmN s) (by omega) (fun q a b c => tm_ok a b c) _ h2
  unfold msB
  rw [show (((msL s q).length : Nat) : Int) = unsV s q 2 by omega, put_un ok2 c1 _ (Or.inl rfl)]
  unfold msL
  rw [lk_cat (C := tmC s) (N := tmN s) (E := tmE s) (by omega) (fun q a b c => tm_ok a b c) (fun q a b c => tm_enc c) _ h2, ex_ap (by omega) (by omega) (by omega)]
  rfl
theorem is_enc {s : ByteArray} {q : Int} (h : isE s q = 0) : putB (isL s q).length 2 ++ catB p2B (isL s q) = s.extract q.toNat (isN s q).toNat := by
  obtain ⟨h1, h2⟩ := is_parts h
  obtain ⟨c1, c2, c3, c4⟩ := cu_0 h1
  have hl := (is_len h).1
  have hb := uns2_bd s q
  have hn := is_ok c3 (by omega) h
  have hpos := lk_pos (m := s.size) (N := nuN) (by omega) (fun q a b c => nu_ok a b c) _ h2
  rw [show (((isL s q).length : Nat) : Int) = unsV s q 2 by omega, put_un ok2 c1 _ (Or.inl rfl)]
  unfold isL
  rw [lk_cat (C := nuC s) (N := nuN) (E := nuE s) (f := p2B) (by omega) (fun q a b c => nu_ok a b c) (fun q a b c => by show putB (unsV s q 2) 2 = _; rw [put_un ok2 c _ (Or.inl rfl)]; rfl) _ h2, ex_ap (by omega) (by omega) (by omega)]
  rfl
theorem bd_parts {s : ByteArray} {q : Int} (h : bdE s q = 0) : (unsE s q 2 = 0 ∧ unsE s (q + 2) 2 = 0 ∧ unsE s (q + 4) 2 = 0) ∧ isE s (q + 6) = 0 ∧ msE s (isN s (q + 6)) = 0 ∧ msE s (msN s (isN s (q + 6))) = 0 ∧ asE s (msN s (msN s (isN s (q + 6)))) = 0 ∧ (s.size : Int) ≤ asN s (msN s (msN s (isN s (q + 6)))) := by
  unfold bdE at h
  split at h
  · rename_i h1
    split at h
    · rename_i h2
      split at h
      · rename_i h3
        split at h
        · rename_i h4
          split at h
          · rename_i h5
            split at h
            · cases h
            · exact ⟨h1, h2, h3, h4, h5, by omega⟩
          · rename_i h5; exact absurd h h5
        · rename_i h5; exact absurd h h5
      · rename_i h5; exact absurd h h5
    · rename_i h5; exact absurd h h5
  · cases h
theorem fd_parts {s : ByteArray} (h : fdE s = 0) : s.size ≤ 1048576 ∧ Lib.hasPrefix s.data.toList hdB.data.toList = true ∧ deE s 6 = 0 ∧ bdE s (deN s 6) = 0 := by
  unfold fdE at h
  split at h
  · cases h
  · split at h
    · rename_i h1 h2
      split at h
      · rename_i h3; exact ⟨by omega, h2, h3, h⟩
      · rename_i h3; exact absurd h h3
    · cases h
theorem head_enc {s : ByteArray} (h : Lib.hasPrefix s.data.toList hdB.data.toList = true) : 6 ≤ s.size ∧ hdB = s.extract 0 6 := by
  unfold Lib.hasPrefix at h
  rw [List.isPrefixOf_iff_prefix] at h
  obtain ⟨t, ht⟩ := h
  have hl : s.data.toList.length = s.size := by simp
  rw [← ht, List.length_append, show hdB.data.toList.length = 6 from rfl] at hl
  refine ⟨by omega, ?_⟩
  refine bt_ext (by rw [sz_ex (by omega) (by omega)]; rfl) fun i hi => ?_
  have hi6 : i < 6 := hi
  rw [bt_ex (by omega) (by omega), bt_dataO, bt_dataO, ← ht, Nat.zero_add, List.getD_eq_getElem?_getD, List.getD_eq_getElem?_getD, List.getElem?_append_left (by show i < 6; exact hi6)]
/-- encoding the result of a successful decoding yields the input -/
theorem file_canon {s : ByteArray} (h : fdE s = 0) : feB (fdV s) = s := by
  obtain ⟨h1, h2, h3, h4⟩ := fd_parts h
  obtain ⟨k1, k2⟩ := head_enc h2
  obtain ⟨d0, d1, d2, d3, d4⟩ := canon h3
  obtain ⟨⟨b1, b2, b3⟩, b4, b5, b6, b7, b8⟩ := bd_parts h4
  have u1 := un_0 ok2 b1
  have u3 := un_0 ok2 b3
  have n4 := is_ok (s := s) (q := deN s 6 + 6) (by omega) (by omega) b4
  have n5 := ms_ok (s := s) (q := isN s (deN s 6 + 6)) (by omega) (by omega) b5
  have n6 := ms_ok (s := s) (q := msN s (isN s (deN s 6 + 6))) (by omega) (by omega) b6
  have n7 := as_ok (s := s) (q := msN s (msN s (isN s (deN s 6 + 6)))) (by omega) (by omega) b7
  have e4 := is_enc b4
  have e5 := ms_enc b5
  have e6 := ms_enc b6
  have e7 := as_enc b7
  unfold feB fdV
  simp only
  rw [ByteArray.append_assoc (c := catB p2B _), e4, e5, e6, e7, d4, put_un ok2 b1 _ (Or.inl rfl), put_un ok2 b2 _ (Or.inl rfl), put_un ok2 b3 _ (Or.inl rfl)]
  conv => lhs; rw [k2]
  rw [show (6 : Int).toNat = 6 from rfl, show deN s 6 + 2 + 2 = deN s 6 + 4 by omega, show deN s 6 + 4 + 2 = deN s 6 + 6 by omega, ex_ap (by omega) (by omega) (by omega), ex_ap (by omega) (by omega) (by omega), ex_ap (by omega) (by omega) (by omega), ex_ap (by omega) (by omega) (by omega), ex_ap (by omega) (by omega) (by omega), ex_ap (by omega) (by omega) (by omega), ex_ap (by omega) (by omega) (by omega), ex_ap (by omega) (by omega) (by omega)]
  rw [show (asN s (msN s (msN s (isN s (deN s 6 + 6))))).toNat = s.size by omega]
  refine bt_ext (by rw [sz_ex (by omega) (Nat.le_refl _)]; omega) fun i hi => ?_
  rw [sz_ex (by omega) (Nat.le_refl _)] at hi
  rw [bt_ex (Nat.le_refl _) (by omega), Nat.zero_add]
theorem wd_un (s : ByteArray) (q : Int) : wdB (unsV s q 2) = false := wd_no (uns2_bd s q).1 (uns2_bd s q).2
theorem wa_ta {s : ByteArray} {q : Int} (h : taE s q = 0) : waB (taC s q) = false := by
  have h1 := ta_sz h
  have h2 := (ta_parts h).2.2.1
  have h3 := un4_bd s (q + 2)
  unfold waB
  rw [show wdB (taC s q).n = false from wd_un s q, wd_no (by omega) (by omega)]
  rfl
theorem any_no {α : Type} {p : α → Bool} {L : List α} (h : ∀ x ∈ L, p x = false) : L.any p = false := by
  rw [List.any_eq_false]
  intro x hx
  rw [h x hx]; decide
theorem wa_as {s : ByteArray} {q : Int} (h : asE s q = 0) : waL (asL s q) = false := by
  obtain ⟨h1, h2⟩ := as_parts h
  obtain ⟨c1, c2, c3, c4⟩ := cu_0 h1
  exact any_no fun x hx => by
    obtain ⟨r, _, _, hr, rfl⟩ := lk_mem (m := s.size) (N := taN s) (by omega) (fun q a b c => ta_ok a b c) _ h2 x hx
    exact wa_ta hr
theorem ms_each {s : ByteArray} {q : Int} (h : msE s q = 0) : ∀ x ∈ msL s q, mnB x = false ∧ mlB x = false ∧ x.l.length ≤ 16 := by
  obtain ⟨h1, h2⟩ := ms_parts h
  obtain ⟨c1, c2, c3, c4⟩ := cu_0 h1
  intro x hx
  obtain ⟨r, _, _, hr, rfl⟩ := lk_mem (m := s.size) (N := tmN s) (by omega) (fun q a b c => tm_ok a b c) _ h2 x hx
  have h4 := (tm_parts hr).2.2.2
  have hl := (as_len h4).2
  refine ⟨by unfold mnB; rw [decide_eq_false_iff_not]; show ¬ 16 < (asL s (r + 6)).length; omega, ?_, hl⟩
  unfold mlB wdL
  rw [show waL (tmC s r).l = false from wa_as h4, show (tmC s r).f = unsV s r 2 from rfl, show (tmC s r).n = unsV s (r + 2) 2 from rfl, show (tmC s r).d = unsV s (r + 4) 2 from rfl]
  simp [wd_un]
theorem canon_ok {s : ByteArray} (h : fdE s = 0) : feE (fdV s) = 0 := by
  have hb := file_canon h
  obtain ⟨h1, h2, h3, h4⟩ := fd_parts h
  obtain ⟨d0, d1, d2, d3, d4⟩ := canon h3
  obtain ⟨⟨b1, b2, b3⟩, b4, b5, b6, b7, b8⟩ := bd_parts h4
  have tm : tmB (fdV s) = false := by
    unfold tmB
    rw [show (fdV s).i = isL s (deN s 6 + 6) from rfl, show (fdV s).m = msL s (isN s (deN s 6 + 6)) from rfl, show (fdV s).g = msL s (msN s (isN s (deN s 6 + 6))) from rfl, show (fdV s).a = asL s (msN s (msN s (isN s (deN s 6 + 6)))) from rfl]
    rw [any_no (fun x hx => (ms_each b5 x hx).1), any_no (fun x hx => (ms_each b6 x hx).1)]
    have l4 := (is_len b4).2
    have l5 := (ms_len b5).2
    have l6 := (ms_len b6).2
    have l7 := (as_len b7).2
    simp
    omega
  have tl : tlB (fdV s) = false := by
    unfold tlB wdL
    rw [show (fdV s).i = isL s (deN s 6 + 6) from rfl, show (fdV s).m = msL s (isN s (deN s 6 + 6)) from rfl, show (fdV s).g = msL s (msN s (isN s (deN s 6 + 6))) from rfl, show (fdV s).a = asL s (msN s (msN s (isN s (deN s 6 + 6)))) from rfl,
      show (fdV s).f = unsV s (deN s 6) 2 from rfl, show (fdV s).t = unsV s (deN s 6 + 2) 2 from rfl, show (fdV s).s = unsV s (deN s 6 + 4) 2 from rfl]
    rw [any_no (fun x hx => (ms_each b5 x hx).2.1), any_no (fun x hx => (ms_each b6 x hx).2.1), wa_as b7]
    have hi : (isL s (deN s 6 + 6)).any wdB = false := any_no fun x hx => by
      obtain ⟨c1, c2⟩ := is_parts b4
      obtain ⟨u1, u2, u3, u4⟩ := cu_0 c1
      obtain ⟨r, _, _, hr, rfl⟩ := lk_mem (m := s.size) (N := nuN) (by omega) (fun q a b c => nu_ok a b c) _ c2 x hx
      exact wd_un s r
    rw [hi]
    simp [wd_un]
  unfold feE
  rw [show (fdV s).p = deL s 6 from rfl, if_pos d3, if_neg (by rw [tm]; decide), if_neg (by rw [tl]; decide), hb, if_neg (by omega)]

end Go.Proofs.YthfegbhbokhlkaaGreatDoor
