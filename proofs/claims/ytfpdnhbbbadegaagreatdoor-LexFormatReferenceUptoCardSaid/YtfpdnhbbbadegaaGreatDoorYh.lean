/- Layer 53: scanName. (gen/yh.py) -/
import Derived.Test.YtfpdnhbbbadegaaGreatDoorYg
namespace Go.Proofs.YtfpdnhbbbadegaaGreatDoor
open Go.ChangeShapes Go.WideShapes Go.ChangeAt Go.RowKit Go.PlainAid
set_option linter.unusedSimpArgs false
set_option linter.unusedVariables false

/-- a name, read as far as n bytes, with its title so far -/
structure NmI (l : List UInt8) (n : Nat) (t : ByteArray) : Prop where
  le : n ≤ l.length
  ts : t.size ≤ n
  full : t.data.toList ++ (nmGo l.length (l.drop n)).1 = nmT l ∧ n + (nmGo l.length (l.drop n)).2 = nmZ l
theorem nm_succ (f : Nat) (l : List UInt8) : nmGo (f + 1) l = if [58, 58].isPrefixOf l = true then
      (if partL (l.drop 2) = 0 then ([], 0) else (47 :: (l.drop 2).take (partL (l.drop 2)) ++ (nmGo f (l.drop (2 + partL (l.drop 2)))).1, 2 + partL (l.drop 2) + (nmGo f (l.drop (2 + partL (l.drop 2)))).2))
    else ([], 0) := rfl
theorem nm_step {l : List UInt8} {n : Nat} (hn : n ≤ l.length) : nmGo l.length (l.drop n) = if [58, 58].isPrefixOf (l.drop n) = true then
      (if partL (l.drop (n + 2)) = 0 then ([], 0) else (47 :: (l.drop (n + 2)).take (partL (l.drop (n + 2))) ++ (nmGo l.length (l.drop (n + (2 + partL (l.drop (n + 2)))))).1, 2 + partL (l.drop (n + 2)) + (nmGo l.length (l.drop (n + (2 + partL (l.drop (n + 2)))))).2))
    else ([], 0) := by
  rw [nm_any (l := l.drop n) (f := l.length) (by rw [List.length_drop]; omega)]
  cases hq : l.drop n with
  | nil => rfl
  | cons c r =>
    have hlt : n < l.length := by
      rcases Nat.lt_or_ge n l.length with h | h
      · exact h
      · rw [List.drop_eq_nil_of_le h] at hq; cases hq
    have hl : r.length + 1 + n = l.length := by
      have := congrArg List.length hq
      rw [List.length_drop, List.length_cons] at this
      omega
    rw [show (c :: r).length = r.length + 1 from rfl, nm_succ, ← hq, List.drop_drop, List.drop_drop]
    by_cases h1 : [58, 58].isPrefixOf (l.drop n) = true
    · have hd : (l.drop (n + (2 + partL (l.drop (n + 2))))).length ≤ r.length := by rw [List.length_drop]; omega
      rw [if_pos h1, if_pos h1, nm_any hd, ← nm_any (l := l.drop (n + (2 + partL (l.drop (n + 2))))) (f := l.length) (by rw [List.length_drop]; omega)]
    · rw [if_neg h1, if_neg h1]
theorem clsB_T (t : ByteArray) : clsB t = clsT t.data.toList := by unfold clsB clsT; rw [len_data]
theorem scNm_no {l : List UInt8} {t : ByteArray} (h : t.data.toList = nmT l) (hc : clsB t = false) : scNm l = none := by
  unfold scNm
  rw [← h, ← clsB_T, hc]; rfl
theorem scNm_yes {l : List UInt8} {t : ByteArray} (h : t.data.toList = nmT l) (hc : clsB t = true) : scNm l = some ⟨if kwB (nmT l) = true then 2 else 1, nmT l, 0, nmZ l⟩ := by
  unfold scNm
  rw [if_pos (by rw [← h, ← clsB_T]; exact hc)]
set_option maxRecDepth 100000 in
set_option maxHeartbeats 4000000 in
theorem scanName_any (s : ByteArray) (hs : s.size ≤ 5000000) (w : World) (hL : Laid w) : Calls Tryz.prog 37 #[.string s] w fun e w' => e = .returned (scV (scNm s.data.toList)) ∧ Below w.heap.size w w' := by
  have hlen := len_data s
  obtain ⟨l, hl⟩ : ∃ l, s.data.toList = l := ⟨_, rfl⟩
  have K1 := Lib.hid (fun W => (by have h := lpart_any s (by omega) W; rw [hl] at h; exact h : Calls Tryz.prog 65 #[.string s] W fun e w' => e = .returned (.int .i64 (partL l : Nat)) ∧ W = w'))
  obtain ⟨V, hV⟩ : ∃ V, scV (scNm s.data.toList) = V := ⟨_, rfl⟩
  have HV := Lib.hid (show scV (scNm l) = V by rw [← hl]; exact hV)
  rw [hV]
  have HL := Lib.hid hl
  have hp := partL_le l
  rw [hl] at hlen
  have hpb : partL l ≤ s.size := by omega
  have hI : NmI l (partL l) (s.extract 0 (partL l)) := ⟨hp, by rw [ByteArray.size_extract]; omega, by rw [data_extract, hl, List.drop_zero, Nat.sub_zero]; exact ⟨rfl, rfl⟩⟩
  have HI := Lib.hid hI
  have HLD := Lib.hid hL
  have HZ := Lib.hid (World.alloc_heap_new w (tkO (.int .i64 0) (.string ⟨#[]⟩) (.int .i64 0) (.int .i64 0)))
  have HB := Lib.hid (below_al (Below.refl w.heap.size w) (tkO (.int .i64 0) (.string ⟨#[]⟩) (.int .i64 0) (.int .i64 0)))
  unfold tkO at HZ HB
  obtain ⟨p, hpe⟩ : ∃ p, partL l = p := ⟨_, rfl⟩
  rw [hpe] at K1 hp hpb HI
  clear hV hl hL hI hpe
  go_enter Tryz.func37, Tryz.ntmps37
  go_upto_region 1 with fail
  generalize w.alloc (.cells #[.int .i64 0, .string ⟨#[]⟩, .int .i64 0, .int .i64 0] 27) = W1 at HZ HB ⊢
  go_wp2_with (go_at_call 65; (with_reducible refine (K1.out _).mono ?_); rintro e w' ⟨rfl, rfl⟩)
  go_loopw [4, 5] (fun nn tt wr => ∃ (n : Nat) (t : ByteArray), nn = .int .i64 n ∧ tt = .string t ∧ NmI l n t ∧ wr = W1) (fun nn _ _ => s.size - (intOf nn).toNat)
  case atStart => exact ⟨p, _, rfl, rfl, HI.out, rfl⟩
  case round =>
    obtain ⟨n, t, rfl, rfl, hI, rfl⟩ := hrel
    have hn := hI.le
    have hts := hI.ts
    have HI2 := Lib.hid hI
    have hns : n ≤ s.size := by omega
    have HST := Lib.hid (nm_step hn)
    clear hI
    have KP := Lib.hid (fun W => (by have h := xpfx_any (s.extract n s.size) ⟨#[58, 58]⟩ W; rw [extract_drop hns, HL.out] at h; exact h : Calls Tryz.prog 35 #[.string (s.extract n s.size), .string ⟨#[58, 58]⟩] W fun e w' => e = .returned (.bool ([58, 58].isPrefixOf (l.drop n))) ∧ W = w'))
    cases hpx : [58, 58].isPrefixOf (l.drop n) with
    | false =>
      rw [hpx] at KP
      have HE := Lib.hid (show t.data.toList = nmT l ∧ n = nmZ l by
        have h1 := HST.out
        rw [if_neg (by rw [hpx]; decide)] at h1
        have h2 := HI2.out.full
        rw [h1, List.append_nil] at h2
        exact ⟨h2.1, by omega⟩)
      clear hpx
      cases hc : clsB t with
      | false =>
        have HC := Lib.hid hc
        have HN := Lib.hid (show V = .tuple #[.agg #[.int .i64 0, .string ⟨#[]⟩, .int .i64 0, .int .i64 0], .int .i64 0] by
          rw [← HV.out, scNm_no (t := t) HE.out.1 hc]; rfl)
        clear hc
        go_wp2_with (first | (go_at_call 35; with_reducible refine (KP.out _).mono ?_; rintro e w9 ⟨rfl, rfl⟩) | (go_at_call 30; refine (cls_any t _).mono ?_; rintro e w2 ⟨rfl, hb⟩; rw [HC.out]; have HZ2 := Lib.hid ((hb.block _ (lt_heap HZ.out)).trans HZ.out); obtain ⟨⟨z0, z1, z2, z3⟩, fz, yz⟩ := four_cellsT HZ2.out; have HB2 := Lib.hid (below_on HB.out hb); clear hb))
        refine bodyPost_ret (tk_ret rfl rfl (set_fourT HZ2.out)) rfl ?_
        exact ⟨by rw [HN.out]; rfl, four_belowT HB2.out (Nat.le_refl _)⟩
      | true =>
        have HC := Lib.hid hc
        cases hk : kwB t.data.toList with
        | true =>
          have HK := Lib.hid hk
          have HN := Lib.hid (show V = .tuple #[.agg #[.int .i64 2, .string t, .int .i64 0, .int .i64 0], .int .i64 (n : Int)] by
            rw [← HV.out, scNm_yes (t := t) HE.out.1 hc, ← HE.out.1, ← HE.out.2, if_pos hk]; show _ = _; rw [show t = bsB t.data.toList from bsB_of rfl]; rfl)
          clear hc hk
          go_wp2_with (first | (go_at_call 35; with_reducible refine (KP.out _).mono ?_; rintro e w9 ⟨rfl, rfl⟩) | (go_at_call 30; refine (cls_any t _).mono ?_; rintro e w2 ⟨rfl, hb⟩; rw [HC.out]; have HZ2 := Lib.hid ((hb.block _ (lt_heap HZ.out)).trans HZ.out); obtain ⟨⟨z0, z1, z2, z3⟩, fz, yz⟩ := four_cellsT HZ2.out; have HB2 := Lib.hid (below_on HB.out hb); clear hb) | (go_at_call 66; refine (isKw_any t _ (HLD.out.up HB2.out)).mono ?_; rintro e w3 ⟨rfl, hb⟩; rw [HK.out]; have HZ3 := Lib.hid ((hb.block _ (lt_heap HZ2.out)).trans HZ2.out); obtain ⟨⟨z0, z1, z2, z3⟩, fz, yz⟩ := four_cellsT HZ3.out; have HB3 := Lib.hid (below_on HB2.out hb); clear hb))
          refine bodyPost_ret (tk_ret rfl rfl (set_fourT HZ3.out)) rfl ?_
          exact ⟨by rw [HN.out]; rfl, four_belowT HB3.out (Nat.le_refl _)⟩
        | false =>
          have HK := Lib.hid hk
          have HN := Lib.hid (show V = .tuple #[.agg #[.int .i64 1, .string t, .int .i64 0, .int .i64 0], .int .i64 (n : Int)] by
            rw [← HV.out, scNm_yes (t := t) HE.out.1 hc, ← HE.out.1, ← HE.out.2, if_neg (by rw [hk]; decide)]; show _ = _; rw [show t = bsB t.data.toList from bsB_of rfl]; rfl)
          clear hc hk
          go_wp2_with (first | (go_at_call 35; with_reducible refine (KP.out _).mono ?_; rintro e w9 ⟨rfl, rfl⟩) | (go_at_call 30; refine (cls_any t _).mono ?_; rintro e w2 ⟨rfl, hb⟩; rw [HC.out]; have HZ2 := Lib.hid ((hb.block _ (lt_heap HZ.out)).trans HZ.out); obtain ⟨⟨z0, z1, z2, z3⟩, fz, yz⟩ := four_cellsT HZ2.out; have HB2 := Lib.hid (below_on HB.out hb); clear hb) | (go_at_call 66; refine (isKw_any t _ (HLD.out.up HB2.out)).mono ?_; rintro e w3 ⟨rfl, hb⟩; rw [HK.out]; have HZ3 := Lib.hid ((hb.block _ (lt_heap HZ2.out)).trans HZ2.out); obtain ⟨⟨z0, z1, z2, z3⟩, fz, yz⟩ := four_cellsT HZ3.out; have HB3 := Lib.hid (below_on HB2.out hb); clear hb))
          refine bodyPost_ret (tk_ret rfl rfl (set_fourT HZ3.out)) rfl ?_
          exact ⟨by rw [HN.out]; rfl, four_belowT HB3.out (Nat.le_refl _)⟩
    | true =>
      rw [hpx] at KP
      have h2 := pfx_len hpx
      rw [List.length_drop] at h2
      simp only [List.length_cons, List.length_nil] at h2
      have hn2 : n + 2 ≤ s.size := by omega
      obtain ⟨m, hm⟩ : ∃ m, partL (l.drop (n + 2)) = m := ⟨_, rfl⟩
      have hml := partL_le (l.drop (n + 2))
      rw [hm, List.length_drop] at hml
      have KM := Lib.hid (fun W => (by have h := lpart_any (s.extract (n + 2) s.size) (by rw [ByteArray.size_extract]; omega) W; rw [extract_drop hn2, HL.out, hm] at h; exact h : Calls Tryz.prog 65 #[.string (s.extract (n + 2) s.size)] W fun e w' => e = .returned (.int .i64 (m : Nat)) ∧ W = w'))
      have HS2 := Lib.hid (show nmGo l.length (l.drop n) = if m = 0 then ([], 0) else (47 :: (l.drop (n + 2)).take m ++ (nmGo l.length (l.drop (n + (2 + m)))).1, 2 + m + (nmGo l.length (l.drop (n + (2 + m)))).2) by
        have h1 := HST.out
        rw [if_pos hpx, hm] at h1
        exact h1)
      clear hpx hm h2
      by_cases hm0 : m = 0
      · subst hm0
        have HE := Lib.hid (show t.data.toList = nmT l ∧ n = nmZ l by
          have h1 := HS2.out
          rw [if_pos rfl] at h1
          have h2 := HI2.out.full
          rw [h1, List.append_nil] at h2
          exact ⟨h2.1, by omega⟩)
        cases hc : clsB t with
        | false =>
          have HC := Lib.hid hc
          have HN := Lib.hid (show V = .tuple #[.agg #[.int .i64 0, .string ⟨#[]⟩, .int .i64 0, .int .i64 0], .int .i64 0] by
            rw [← HV.out, scNm_no (t := t) HE.out.1 hc]; rfl)
          clear hc
          go_wp2_with (first | (go_at_call 35; with_reducible refine (KP.out _).mono ?_; rintro e w9 ⟨rfl, rfl⟩) | (go_at_call 65; (with_reducible refine (KM.out _).mono ?_); rintro e w9 ⟨rfl, rfl⟩) | (go_at_call 30; refine (cls_any t _).mono ?_; rintro e w2 ⟨rfl, hb⟩; rw [HC.out]; have HZ2 := Lib.hid ((hb.block _ (lt_heap HZ.out)).trans HZ.out); obtain ⟨⟨z0, z1, z2, z3⟩, fz, yz⟩ := four_cellsT HZ2.out; have HB2 := Lib.hid (below_on HB.out hb); clear hb))
          refine bodyPost_ret (tk_ret rfl rfl (set_fourT HZ2.out)) rfl ?_
          exact ⟨by rw [HN.out]; rfl, four_belowT HB2.out (Nat.le_refl _)⟩
        | true =>
          have HC := Lib.hid hc
          cases hk : kwB t.data.toList with
          | true =>
            have HK := Lib.hid hk
            have HN := Lib.hid (show V = .tuple #[.agg #[.int .i64 2, .string t, .int .i64 0, .int .i64 0], .int .i64 (n : Int)] by
              rw [← HV.out, scNm_yes (t := t) HE.out.1 hc, ← HE.out.1, ← HE.out.2, if_pos hk]; show _ = _; rw [show t = bsB t.data.toList from bsB_of rfl]; rfl)
            clear hc hk
            go_wp2_with (first | (go_at_call 35; with_reducible refine (KP.out _).mono ?_; rintro e w9 ⟨rfl, rfl⟩) | (go_at_call 65; (with_reducible refine (KM.out _).mono ?_); rintro e w9 ⟨rfl, rfl⟩) | (go_at_call 30; refine (cls_any t _).mono ?_; rintro e w2 ⟨rfl, hb⟩; rw [HC.out]; have HZ2 := Lib.hid ((hb.block _ (lt_heap HZ.out)).trans HZ.out); obtain ⟨⟨z0, z1, z2, z3⟩, fz, yz⟩ := four_cellsT HZ2.out; have HB2 := Lib.hid (below_on HB.out hb); clear hb) | (go_at_call 66; refine (isKw_any t _ (HLD.out.up HB2.out)).mono ?_; rintro e w3 ⟨rfl, hb⟩; rw [HK.out]; have HZ3 := Lib.hid ((hb.block _ (lt_heap HZ2.out)).trans HZ2.out); obtain ⟨⟨z0, z1, z2, z3⟩, fz, yz⟩ := four_cellsT HZ3.out; have HB3 := Lib.hid (below_on HB2.out hb); clear hb))
            refine bodyPost_ret (tk_ret rfl rfl (set_fourT HZ3.out)) rfl ?_
            exact ⟨by rw [HN.out]; rfl, four_belowT HB3.out (Nat.le_refl _)⟩
          | false =>
            have HK := Lib.hid hk
            have HN := Lib.hid (show V = .tuple #[.agg #[.int .i64 1, .string t, .int .i64 0, .int .i64 0], .int .i64 (n : Int)] by
              rw [← HV.out, scNm_yes (t := t) HE.out.1 hc, ← HE.out.1, ← HE.out.2, if_neg (by rw [hk]; decide)]; show _ = _; rw [show t = bsB t.data.toList from bsB_of rfl]; rfl)
            clear hc hk
            go_wp2_with (first | (go_at_call 35; with_reducible refine (KP.out _).mono ?_; rintro e w9 ⟨rfl, rfl⟩) | (go_at_call 65; (with_reducible refine (KM.out _).mono ?_); rintro e w9 ⟨rfl, rfl⟩) | (go_at_call 30; refine (cls_any t _).mono ?_; rintro e w2 ⟨rfl, hb⟩; rw [HC.out]; have HZ2 := Lib.hid ((hb.block _ (lt_heap HZ.out)).trans HZ.out); obtain ⟨⟨z0, z1, z2, z3⟩, fz, yz⟩ := four_cellsT HZ2.out; have HB2 := Lib.hid (below_on HB.out hb); clear hb) | (go_at_call 66; refine (isKw_any t _ (HLD.out.up HB2.out)).mono ?_; rintro e w3 ⟨rfl, hb⟩; rw [HK.out]; have HZ3 := Lib.hid ((hb.block _ (lt_heap HZ2.out)).trans HZ2.out); obtain ⟨⟨z0, z1, z2, z3⟩, fz, yz⟩ := four_cellsT HZ3.out; have HB3 := Lib.hid (below_on HB2.out hb); clear hb))
            refine bodyPost_ret (tk_ret rfl rfl (set_fourT HZ3.out)) rfl ?_
            exact ⟨by rw [HN.out]; rfl, four_belowT HB3.out (Nat.le_refl _)⟩
      · have hne : ((m : Int) == 0) = false := by rw [beq_eq_false_iff_ne]; omega
        have hx : (s.extract (n + 2) (n + 2 + m)).size = m := by rw [ByteArray.size_extract]; omega
        have HNX := Lib.hid (show NmI l (n + (2 + m)) (t ++ (⟨#[47]⟩ ++ s.extract (n + 2) (n + 2 + m))) by
          refine ⟨by omega, ?_, ?_⟩
          · rw [ByteArray.size_append, ByteArray.size_append, hx]
            show t.size + (1 + m) ≤ _
            omega
          · have h1 := HS2.out
            rw [if_neg hm0] at h1
            have h2 := HI2.out.full
            rw [h1] at h2
            have e : (t ++ (⟨#[47]⟩ ++ s.extract (n + 2) (n + 2 + m))).data.toList = t.data.toList ++ 47 :: (l.drop (n + 2)).take m := by
              rw [ByteArray.data_append, ByteArray.data_append, Array.toList_append, Array.toList_append, data_extract, HL.out, show n + 2 + m - (n + 2) = m by omega]
              rfl
            rw [e]
            refine ⟨?_, by omega⟩
            rw [← h2.1, List.append_assoc])
        have hz1 : (⟨#[47]⟩ : ByteArray).size = 1 := rfl
        clear hm0
        go_wp2_with (first | (go_at_call 35; with_reducible refine (KP.out _).mono ?_; rintro e w9 ⟨rfl, rfl⟩) | (go_at_call 65; (with_reducible refine (KM.out _).mono ?_); rintro e w9 ⟨rfl, rfl⟩))
        refine ⟨⟨n + (2 + m), _, ?_, rfl, HNX.out, trivial⟩, ?_⟩
        · congr 1
        · simp [intOf]; omega

end Go.Proofs.YtfpdnhbbbadegaaGreatDoor
