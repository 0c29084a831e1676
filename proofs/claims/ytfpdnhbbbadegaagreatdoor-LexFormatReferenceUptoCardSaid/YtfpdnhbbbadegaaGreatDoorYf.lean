/- Layer 53: escape; skip. -/
import Derived.Test.YtfpdnhbbbadegaaGreatDoorYe
namespace Go.Proofs.YtfpdnhbbbadegaaGreatDoor
open Go.ChangeShapes Go.WideShapes Go.ChangeAt Go.RowKit Go.PlainAid
set_option linter.unusedSimpArgs false
set_option linter.unusedVariables false

def esV (l : List UInt8) : Value := match escL l with
  | none => .tuple #[.int .u8 0, .int .i64 0]
  | some x => .tuple #[.int .u8 (x.1.toNat : Int), .int .i64 (x.2 : Int)]
theorem es_none {l : List UInt8} (h : escL l = none) : esV l = .tuple #[.int .u8 0, .int .i64 0] := by unfold esV; rw [h]
theorem es_some {l : List UInt8} {b : UInt8} {n : Nat} (h : escL l = some (b, n)) : esV l = .tuple #[.int .u8 (b.toNat : Int), .int .i64 (n : Int)] := by unfold esV; rw [h]
theorem ret_of {v v' : Value} (h : v = v') : Ending.returned v = .returned v' := by rw [h]
theorem hxV_bd (c : UInt8) : -1 ≤ hxV c ∧ hxV c < 16 := by
  unfold hxV
  refine ⟨Lib.indexByte_ge _ _, ?_⟩
  by_cases h : Lib.indexByte hxL c = -1
  · omega
  · have h1 := Lib.indexByte_ge hxL c
    obtain ⟨o, ho⟩ : ∃ o : Nat, Lib.indexByte hxL c = o := ⟨(Lib.indexByte hxL c).toNat, by omega⟩
    have := (Lib.indexByte_some ho).1
    have hl : o < hxL.length := by
      rcases Nat.lt_or_ge o hxL.length with h' | h'
      · exact h'
      · rw [List.getElem?_eq_none h'] at this; cases this
    have : hxL.length = 16 := rfl
    omega
theorem or_of : ∀ i, i < 16 → ∀ j, j < 16 → bits BinOp.or IntKind.i64 (((i : Nat) : Int) * 16) ((j : Nat) : Int) % 256 = ((i * 16 + j : Nat) : Int) := by decide +kernel
set_option maxRecDepth 100000 in
set_option maxHeartbeats 1000000 in
theorem esc_any (s : ByteArray) (hs : s.size ≤ 9223372036854775807) (w : World) : Calls Tryz.prog 69 #[.string s] w fun e w' => e = .returned (esV s.data.toList) ∧ ∃ q, w' = w.drewN q := by
  have hb := get_bt s
  obtain ⟨V, hV⟩ : ∃ V, esV s.data.toList = V := ⟨_, rfl⟩
  have HV := Lib.hid hV
  rw [hV]
  clear hV
  by_cases h0 : s.size = 0
  · have he := empty_data h0
    have hl : s.data.toList = [] := by rw [← Lib.toList_data]; exact he
    have HN := Lib.hid (show V = .tuple #[.int .u8 0, .int .i64 0] by rw [← HV.out, hl]; rfl)
    clear hl
    go_enter Tryz.func69, Tryz.ntmps69
    go_wp2
    go_ret2
    exact ⟨by rw [HN.out]; rfl, 0, rfl⟩
  · have he := nonempty_data (s := s) (by omega)
    have hpos : 0 < s.size := by omega
    obtain ⟨c, r, hd, hc, hr⟩ := drop_bt hpos
    rw [List.drop_zero] at hd
    have hE := esc_cons c r
    rw [← hd] at hE
    have HE := Lib.hid hE
    have HC := Lib.hid hc
    have HD := Lib.hid hd
    have HR := Lib.hid hr
    have hb0 := bt_nonneg s 0
    have hb1 := bt_le s 0
    clear hE hd hr
    by_cases h1 : bt s 0 = 34 ∨ bt s 0 = 92
    · have HN := Lib.hid (show V = .tuple #[.int .u8 (bt s 0), .int .i64 1] by
        rw [← HV.out, es_some (HE.out.trans (if_pos (by omega))), ← HC.out]; rfl)
      clear hc
      rcases h1 with h1 | h1
      · have e1 : (bt s 0 == 34) = true := by simpa using h1
        clear h1
        go_enter Tryz.func69, Tryz.ntmps69
        go_wp2
        go_ret2
        exact ⟨by rw [HN.out]; rfl, 0, rfl⟩
      · have e1 : (bt s 0 == 34) = false := by simp [h1]
        have e2 : (bt s 0 == 92) = true := by simpa using h1
        clear h1
        go_enter Tryz.func69, Tryz.ntmps69
        go_wp2
        go_ret2
        exact ⟨by rw [HN.out]; rfl, 0, rfl⟩
    · have e1 : (bt s 0 == 34) = false := by rw [beq_eq_false_iff_ne]; omega
      have e2 : (bt s 0 == 92) = false := by rw [beq_eq_false_iff_ne]; omega
      by_cases h2 : bt s 0 = 110
      · have HN := Lib.hid (show V = .tuple #[.int .u8 10, .int .i64 1] by
          rw [← HV.out, es_some (HE.out.trans ((if_neg (by omega)).trans (if_pos (by omega))))]; rfl)
        have e3 : (bt s 0 == 110) = true := by simpa using h2
        clear h1 h2 hc
        go_enter Tryz.func69, Tryz.ntmps69
        go_wp2
        go_ret2
        exact ⟨by rw [HN.out]; rfl, 0, rfl⟩
      · have e3 : (bt s 0 == 110) = false := by rw [beq_eq_false_iff_ne]; omega
        by_cases h3 : bt s 0 = 120
        · have e4 : (bt s 0 == 120) = true := by simpa using h3
          have HQ := Lib.hid (HE.out.trans ((if_neg (by omega)).trans ((if_neg (by omega)).trans (if_pos (by omega)))))
          by_cases h4 : s.size < 3
          · have HN := Lib.hid (show V = .tuple #[.int .u8 0, .int .i64 0] by
              rw [← HV.out, es_none]
              rw [HQ.out]
              have hl := congrArg List.length HD.out
              rw [len_data, List.length_cons] at hl
              rcases r with _ | ⟨a, _ | ⟨b, r⟩⟩
              · rfl
              · rfl
              · simp at hl; omega)
            have h4' : (s.size : Int) < 3 := by omega
            clear h1 h2 h3 hc h4
            go_enter Tryz.func69, Tryz.ntmps69
            go_wp2
            go_ret2
            exact ⟨by rw [HN.out]; rfl, 0, rfl⟩
          · have h4' : ¬ (s.size : Int) < 3 := by omega
            have hs1 : 1 < s.size := by omega
            have hs2 : 2 < s.size := by omega
            obtain ⟨a, r1, d1, c1, x1⟩ := drop_bt hs1
            obtain ⟨b, r2, d2, c2, x2⟩ := drop_bt hs2
            have hrr : r = a :: b :: r2 := by
              rw [← HR.out]
              show s.data.toList.drop 1 = _
              rw [d1, ← x1, d2]
            obtain ⟨u, hu⟩ : ∃ u, hxV a = u := ⟨_, rfl⟩
            obtain ⟨v, hv⟩ : ∃ v, hxV b = v := ⟨_, rfl⟩
            have bu := hxV_bd a
            have bv := hxV_bd b
            rw [hu] at bu
            rw [hv] at bv
            have HQ2 := Lib.hid (show escL s.data.toList = if 0 ≤ u ∧ 0 ≤ v then some (UInt8.ofNat (u.toNat * 16 + v.toNat), 3) else none by rw [HQ.out, hrr]; show (if 0 ≤ hxV a ∧ 0 ≤ hxV b then some (UInt8.ofNat ((hxV a).toNat * 16 + (hxV b).toNat), 3) else none) = _; rw [hu, hv])
            have Ka := Lib.hid (fun W => (by have h := hx_any (bt s 1) W; rw [← c1, Int.toNat_natCast, show a.toNat.toUInt8 = a from UInt8.ofNat_toNat, hu, c1] at h; exact h : Calls Tryz.prog 87 #[.int .u8 (bt s 1)] W fun e w' => e = .returned (.int .i64 u) ∧ W = w'))
            have Kb := Lib.hid (fun W => (by have h := hx_any (bt s 2) W; rw [← c2, Int.toNat_natCast, show b.toNat.toUInt8 = b from UInt8.ofNat_toNat, hv, c2] at h; exact h : Calls Tryz.prog 87 #[.int .u8 (bt s 2)] W fun e w' => e = .returned (.int .i64 v) ∧ W = w'))
            clear hu hv c1 c2 d1 d2 x1 x2 hrr HQ HE HD HR HC h1 h2 h3 hc
            obtain ⟨bu0, bu1⟩ := bu
            obtain ⟨bv0, bv1⟩ := bv
            by_cases h5 : 0 ≤ u
            · by_cases h6 : 0 ≤ v
              · obtain ⟨i, rfl⟩ : ∃ i : Nat, u = (i : Int) := ⟨u.toNat, by omega⟩
                obtain ⟨j, rfl⟩ : ∃ j : Nat, v = (j : Int) := ⟨v.toNat, by omega⟩
                have HN := Lib.hid (show V = .tuple #[.int .u8 ((i * 16 + j : Nat) : Int), .int .i64 3] by
                  rw [← HV.out, es_some (HQ2.out.trans (if_pos ⟨h5, h6⟩)), Int.toNat_natCast, Int.toNat_natCast, UInt8.toNat_ofNat', Nat.mod_eq_of_lt (by omega)]; rfl)
                go_enter Tryz.func69, Tryz.ntmps69
                go_upto_region 12 with fail
                go_quiet ((first | (go_at_call 87; with_reducible exact Calls.quiet_of_same ((Ka.out _).mono fun _ _ h => ⟨h.1, h.2.symm⟩)) | (go_at_call 87; with_reducible exact Calls.quiet_of_same ((Kb.out _).mono fun _ _ h => ⟨h.1, h.2.symm⟩))))
                go_wp2
                go_ret2
                exact ⟨by rw [HN.out, ← or_of i (by omega) j (by omega)]; rfl, _, rfl⟩
              · have HN := Lib.hid (show V = .tuple #[.int .u8 0, .int .i64 0] by rw [← HV.out, es_none (HQ2.out.trans (if_neg (by omega)))])
                go_enter Tryz.func69, Tryz.ntmps69
                go_upto_region 12 with fail
                go_quiet ((first | (go_at_call 87; with_reducible exact Calls.quiet_of_same ((Ka.out _).mono fun _ _ h => ⟨h.1, h.2.symm⟩)) | (go_at_call 87; with_reducible exact Calls.quiet_of_same ((Kb.out _).mono fun _ _ h => ⟨h.1, h.2.symm⟩))))
                go_wp2
                go_ret2
                exact ⟨by rw [HN.out]; rfl, _, rfl⟩
            · have HN := Lib.hid (show V = .tuple #[.int .u8 0, .int .i64 0] by rw [← HV.out, es_none (HQ2.out.trans (if_neg (by omega)))])
              go_enter Tryz.func69, Tryz.ntmps69
              go_upto_region 12 with fail
              go_quiet ((first | (go_at_call 87; with_reducible exact Calls.quiet_of_same ((Ka.out _).mono fun _ _ h => ⟨h.1, h.2.symm⟩)) | (go_at_call 87; with_reducible exact Calls.quiet_of_same ((Kb.out _).mono fun _ _ h => ⟨h.1, h.2.symm⟩))))
              go_wp2
              go_ret2
              exact ⟨by rw [HN.out]; rfl, _, rfl⟩
        · have e4 : (bt s 0 == 120) = false := by rw [beq_eq_false_iff_ne]; omega
          have HN := Lib.hid (show V = .tuple #[.int .u8 0, .int .i64 0] by
            rw [← HV.out, es_none (HE.out.trans ((if_neg (by omega)).trans ((if_neg (by omega)).trans (if_neg (by omega)))))])
          clear h1 h2 h3 hc
          go_enter Tryz.func69, Tryz.ntmps69
          go_wp2
          go_ret2
          exact ⟨by rw [HN.out]; rfl, 0, rfl⟩

theorem sk_step {l : List UInt8} {c : UInt8} {r : List UInt8} (h : l = c :: r) : skL l = if bl8 c = true then 1 + skL r else if [47, 47].isPrefixOf l = true then (l.takeWhile (· != 10)).length + skL (l.drop (l.takeWhile (· != 10)).length) else 0 := by
  subst h
  show skGo (r.length + 1) (c :: r) = _
  rw [sk_cons]
  split
  · rfl
  · split
    · rename_i h2
      have hp := cm_pos h2
      rw [sk_fuel r.length ((c :: r).drop ((c :: r).takeWhile (· != 10)).length).length _ (by rw [List.length_drop, List.length_cons]; omega) (Nat.le_refl _)]
      rfl
    · rfl
theorem extract_drop {s : ByteArray} {k : Nat} (h : k ≤ s.size) : (s.extract k s.size).data.toList = s.data.toList.drop k := by
  rw [data_extract, List.take_of_length_le (by rw [List.length_drop, len_data]; omega)]
theorem xpfx_any (s p : ByteArray) (w : World) : Calls Tryz.prog 35 #[.string s, .string p] w fun e w' => e = .returned (.bool (p.data.toList.isPrefixOf s.data.toList)) ∧ w = w' := by
  refine (Tryz.strings_HasPrefix s p w).mono fun e w' h => ⟨h.1.trans ?_, h.2.symm⟩
  rw [show Lib.hasPrefix s.data.toList p.data.toList = p.data.toList.isPrefixOf s.data.toList from rfl]

theorem tw_get {p : UInt8 → Bool} : ∀ {l : List UInt8} {j : Nat}, j < (l.takeWhile p).length → p (l.getD j 0) = true
  | [], j, h => by simp at h
  | c :: l, j, h => by
    rw [List.takeWhile_cons] at h
    split at h
    · rename_i hc
      cases j with
      | zero => exact hc
      | succ j =>
        show p (l.getD j 0) = true
        exact tw_get (by simpa using h)
    · simp at h
theorem tw_stop {p : UInt8 → Bool} : ∀ {l : List UInt8}, (l.takeWhile p).length < l.length → p (l.getD (l.takeWhile p).length 0) = false
  | [], h => by simp at h
  | c :: l, h => by
    rw [List.takeWhile_cons] at h ⊢
    split at h
    · rename_i hc
      rw [if_pos hc]
      show p (l.getD (l.takeWhile p).length 0) = false
      exact tw_stop (by simpa using h)
    · rename_i hc
      rw [if_neg hc]
      simpa using hc
theorem getD_drop8 (s : ByteArray) (k j : Nat) : bt s (k + j) = (((s.data.toList.drop k).getD j 0).toNat : Int) := by
  rw [bt_data, List.getD_eq_getElem?_getD, List.getD_eq_getElem?_getD, List.getElem?_drop]

set_option maxRecDepth 100000 in
set_option maxHeartbeats 1000000 in
theorem skip_any (s : ByteArray) (a : Nat) (hs : s.size ≤ 9223372036854775807) (ha : a ≤ s.size) (w : World) : Calls Tryz.prog 17 #[.string s, .int .i64 (a : Int)] w fun e w' => e = .returned (.int .i64 ((a + skL (s.data.toList.drop a) : Nat) : Int)) ∧ w = w' := by
  have hb := get_bt s
  obtain ⟨V, hV⟩ : ∃ V, a + skL (s.data.toList.drop a) = V := ⟨_, rfl⟩
  have HV := Lib.hid hV
  rw [hV]
  clear hV
  go_enter Tryz.func17, Tryz.ntmps17
  go_wp2
  go_step3
  go_wp2
  go_step3
  go_wp2
  go_loop [1] (fun i => ∃ k : Nat, k ≤ s.size ∧ i = .int .i64 k ∧ k + skL (s.data.toList.drop k) = V) (fun i => s.size - (intOf i).toNat)
  case atStart => exact ⟨a, ha, rfl, HV.out⟩
  case round =>
    obtain ⟨k, hk, rfl, hq⟩ := hrel
    have HQ := Lib.hid hq
    clear hq
    by_cases hlt : k < s.size
    · obtain ⟨c, r, hd, hc, hr⟩ := drop_bt hlt
      have hb0 := bt_nonneg s k
      have hb1 := bt_le s k
      have hS := sk_step hd
      have HS := Lib.hid hS
      have HD := Lib.hid hd
      have HR := Lib.hid hr
      have hbc : bl8 c = blB (bt s k) := by rw [bl8_eq, hc]
      rw [hbc] at HS
      clear hS hd hr hbc hc
      cases hl : blB (bt s k) with
      | true =>
        have HN := Lib.hid (show k + 1 + skL (s.data.toList.drop (k + 1)) = V by
          have := HS.out
          rw [hl, if_pos rfl] at this
          rw [← HQ.out, this, HR.out]; omega)
        go_wp2_with (go_at_call 34; refine (lbl_any _ _).mono ?_; rintro e w' ⟨rfl, rfl⟩)
        go_round
        case rel => exact ⟨k + 1, by omega, by go_num, HN.out⟩
        case measure => simp [intOf]; omega
      | false =>
        have hxs : (s.extract k s.size).size ≤ 9223372036854775807 := by rw [ByteArray.size_extract]; omega
        have KP := Lib.hid (fun W => (by have h := xpfx_any (s.extract k s.size) ⟨#[47, 47]⟩ W; rw [extract_drop hk] at h; exact h : Calls Tryz.prog 35 #[.string (s.extract k s.size), .string ⟨#[47, 47]⟩] W fun e w' => e = .returned (.bool ([47, 47].isPrefixOf (s.data.toList.drop k))) ∧ W = w'))
        cases hp : [47, 47].isPrefixOf (s.data.toList.drop k) with
        | false =>
          have HN := Lib.hid (show k = V by
            have := HS.out
            rw [hl, hp] at this
            simp only [Bool.false_eq_true, if_false] at this
            rw [← HQ.out, this]; omega)
          rw [hp] at KP
          clear hp
          go_wp2_with (first | (go_at_call 34; refine (lbl_any _ _).mono ?_; rintro e w' ⟨rfl, rfl⟩) | (go_at_call 35; refine (KP.out _).mono ?_; rintro e w' ⟨rfl, rfl⟩))
          (try rw [Exit.noGoto_ret])
          go_ret
          exact ⟨ret_int1 (by rw [HN.out]), rfl⟩
        | true =>
          obtain ⟨m, hm⟩ : ∃ m, ((s.data.toList.drop k).takeWhile (· != 10)).length = m := ⟨_, rfl⟩
          have HN := Lib.hid (show k + m + skL (s.data.toList.drop (k + m)) = V by
            have := HS.out
            rw [hl, hp] at this
            simp only [Bool.false_eq_true, if_false, if_true] at this
            rw [hm, List.drop_drop] at this
            rw [← HQ.out, this]; omega)
          have hmp : 0 < m := by
            rw [← hm, HD.out]
            exact cm_pos (by rw [← HD.out]; exact hp)
          have hml : k + m ≤ s.size := by
            have := tw_le (· != 10) (s.data.toList.drop k)
            rw [hm, List.length_drop, len_data] at this
            omega
          have HM := Lib.hid hm
          have hc0 : (bt s k != 10) = true := by
            have : blB (bt s k) = false := hl
            unfold blB at this
            rw [decide_eq_false_iff_not] at this
            simp only [bne_iff_ne, ne_eq]; omega
          have hnl := Lib.hid (show ∀ j, j < m → (bt s (k + j) != 10) = true from fun j hj => by
            have := tw_get (p := (· != 10)) (l := s.data.toList.drop k) (j := j) (by rw [hm]; exact hj)
            rw [getD_drop8]
            simp only [bne_iff_ne, ne_eq] at this ⊢
            intro e
            exact this (UInt8.toNat_inj.1 (by show _ = 10; omega)))
          have hst := Lib.hid (show k + m < s.size → (bt s (k + m) != 10) = false from fun h => by
            have := tw_stop (p := (· != 10)) (l := s.data.toList.drop k) (by rw [hm, List.length_drop, len_data]; omega)
            rw [hm] at this
            rw [getD_drop8]
            simp only [bne_eq_false_iff_eq] at this ⊢
            rw [this]; rfl)
          rw [hp] at KP
          clear hp hm
          go_wp2_with (first | (go_at_call 34; refine (lbl_any _ _).mono ?_; rintro e w' ⟨rfl, rfl⟩) | (go_at_call 35; refine (KP.out _).mono ?_; rintro e w' ⟨rfl, rfl⟩))
          go_loop [1] (fun i => ∃ j : Nat, j ≤ m ∧ k + j < s.size ∧ i = .int .i64 ((k + j : Nat) : Int)) (fun i => s.size - (intOf i).toNat)
          case atStart => exact ⟨0, Nat.zero_le _, hlt, rfl⟩
          case round =>
            obtain ⟨j, hj, hkj, rfl⟩ := hrel
            have hb2 := bt_nonneg s (k + j)
            have hb3 := bt_le s (k + j)
            have hk9 : (0 : Int) ≤ ((k + j : Nat) : Int) := by omega
            have hk8 : ((k + j : Nat) : Int) < (s.size : Int) := by omega
            obtain ⟨x, hx⟩ : ∃ x, k + j = x := ⟨_, rfl⟩
            by_cases hjm : j < m
            · have hne := hnl.out j hjm
              by_cases hend : k + j + 1 = s.size
              · have HE := Lib.hid (show V = s.size by
                  have : k + m = s.size := by omega
                  rw [← HN.out, this, drop_end8 (Nat.le_refl _)]; rfl)
                rw [hx] at hne hb2 hb3 hk9 hk8 hkj hend ⊢
                have hq1 : ((x : Int) + 1 == (s.size : Int)) = true := by rw [beq_iff_eq]; omega
                go_wp2
                (try rw [Exit.noGoto_ret])
                go_ret
                exact ⟨ret_int1 (by rw [HE.out]; omega), rfl⟩
              · rw [hx] at hne hb2 hb3 hk9 hk8 hkj hend ⊢
                have hq1 : ((x : Int) + 1 == (s.size : Int)) = false := by rw [beq_eq_false_iff_ne]; omega
                go_wp2
                go_round
                case rel => exact ⟨j + 1, by omega, by omega, by rw [show k + (j + 1) = x + 1 by omega]; go_num⟩
                case measure => simp [intOf]; omega
            · have hjm2 : j = m := by omega
              have hne := hst.out (by omega)
              rw [hjm2] at hx hb2 hb3 hk9 hk8 hkj ⊢
              rw [hx] at hne hb2 hb3 hk9 hk8 hkj HN ⊢
              go_wp2
              go_round
              case rel => exact ⟨x, by omega, rfl, HN.out⟩
              case measure => simp [intOf]; omega
    · obtain rfl : k = s.size := by omega
      have HN := Lib.hid (show s.size = V by
        rw [← HQ.out, drop_end8 (Nat.le_refl _)]; rfl)
      go_wp2
      (try rw [Exit.noGoto_ret])
      go_ret
      exact ⟨ret_int1 (by rw [HN.out]), rfl⟩

end Go.Proofs.YtfpdnhbbbadegaaGreatDoor
