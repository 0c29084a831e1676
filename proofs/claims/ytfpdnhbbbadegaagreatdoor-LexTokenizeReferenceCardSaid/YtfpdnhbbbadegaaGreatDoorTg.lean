/- Layer 53, the reference: scan, skip. (gen/tg.py) -/
import Derived.Test.YtfpdnhbbbadegaaGreatDoorTc
import Derived.Test.YtfpdnhbbbadegaaGreatDoorTe
import Derived.Test.YtfpdnhbbbadegaaGreatDoorTf
namespace Go.Proofs.YtfpdnhbbbadegaaGreatDoor
open Go.ChangeShapes Go.WideShapes Go.ChangeAt Go.RowKit Go.PlainAid
set_option linter.unusedSimpArgs false
set_option linter.unusedVariables false

set_option maxRecDepth 100000 in
set_option maxHeartbeats 4000000 in
theorem rscan_any (s : ByteArray) (a : Nat) (hs : s.size ≤ 1000000) (ha : a < s.size) (w : World) :
    Calls Tryz.prog 20 #[.string s, .int .i64 (a : Int)] w fun e w' => (∃ v, e = .returned v ∧ RsV a (scL (s.data.toList.drop a)) v) ∧ Below w.heap.size w w' := by
  have hb := get_bt s
  have hb0 := bt_nonneg s a
  have hb1 := bt_le s a
  obtain ⟨c, r, hd, hc, hr⟩ := drop_bt ha
  have hsc := sc_cons c r
  rw [← hd] at hsc
  have hai : (a : Int) < (s.size : Int) := by omega
  have HZ := Lib.hid (World.alloc_heap_new w (tkO (.int .i64 0) (.string ⟨#[]⟩) (.int .i64 0) (.int .i64 0)))
  have HB := Lib.hid (below_al (Below.refl w.heap.size w) (tkO (.int .i64 0) (.string ⟨#[]⟩) (.int .i64 0) (.int .i64 0)))
  unfold tkO at HZ HB
  cases h1 : letB (bt s a) with
  | true =>
    rw [hsc, if_pos (by unfold lt8; rw [hc, h1])]
    have KC := Lib.hid (fun W => rident_any s a hs ha h1 W)
    clear hd hc hr hsc
    go_enter Tryz.func20, Tryz.ntmps20
    go_upto_region 1 with fail
    generalize w.alloc (.cells #[.int .i64 0, .string ⟨#[]⟩, .int .i64 0, .int .i64 0] 27) = W1 at HZ HB ⊢
    go_wp2_with (first | (go_at_call 43; refine (rlet_any _ _).mono ?_; rintro e w' ⟨rfl, rfl⟩) | (go_at_call 45; refine (rdig_any _ _).mono ?_; rintro e w' ⟨rfl, rfl⟩) | (go_at_call 44; refine (KC.out _).mono ?_; rintro e9 w9 ⟨⟨v, rfl, hv⟩, hbw⟩; have HV := Lib.hid hv; obtain ⟨k, n, b, e, t, ok, rfl, _⟩ := hv.ex; clear hv; have HB2 := Lib.hid (below_on HB.out hbw); have HZ2 := Lib.hid ((hbw.block _ (lt_heap HZ.out)).trans HZ.out); obtain ⟨⟨z0, z1, z2, z3⟩, fz, yz⟩ := four_cellsT HZ2.out; clear hbw))
    refine bodyPost_ret (tk_ret3 rfl rfl (set_fourT HZ2.out)) rfl ?_
    exact ⟨⟨_, rfl, HV.out⟩, four_belowT HB2.out (Nat.le_refl _)⟩
  | false =>
    rw [hsc, if_neg (by unfold lt8; rw [hc, h1]; decide)]
    cases h2 : digB (bt s a) with
    | true =>
      rw [if_pos (by unfold dg8; rw [hc, h2])]
      have KC := Lib.hid (fun W => rnum_any s a hs ha h2 W)
      clear hd hc hr hsc
      go_enter Tryz.func20, Tryz.ntmps20
      go_upto_region 1 with fail
      generalize w.alloc (.cells #[.int .i64 0, .string ⟨#[]⟩, .int .i64 0, .int .i64 0] 27) = W1 at HZ HB ⊢
      go_wp2_with (first | (go_at_call 43; refine (rlet_any _ _).mono ?_; rintro e w' ⟨rfl, rfl⟩) | (go_at_call 45; refine (rdig_any _ _).mono ?_; rintro e w' ⟨rfl, rfl⟩) | (go_at_call 46; refine (KC.out _).mono ?_; rintro e9 w9 ⟨⟨v, rfl, hv⟩, hbw⟩; have HV := Lib.hid hv; obtain ⟨k, n, b, e, t, ok, rfl, _⟩ := hv.ex; clear hv; have HB2 := Lib.hid (below_on HB.out hbw); have HZ2 := Lib.hid ((hbw.block _ (lt_heap HZ.out)).trans HZ.out); obtain ⟨⟨z0, z1, z2, z3⟩, fz, yz⟩ := four_cellsT HZ2.out; clear hbw))
      refine bodyPost_ret (tk_ret3 rfl rfl (set_fourT HZ2.out)) rfl ?_
      exact ⟨⟨_, rfl, HV.out⟩, four_belowT HB2.out (Nat.le_refl _)⟩
    | false =>
      rw [if_neg (by unfold dg8; rw [hc, h2]; decide)]
      by_cases h3 : bt s a = 34
      · rw [if_pos (by omega)]
        have KC := Lib.hid (fun W => rtext_any s a hs ha h3 W)
        have e3 : (bt s a == 34) = true := by simpa using h3
        clear hd hc hr hsc h3
        go_enter Tryz.func20, Tryz.ntmps20
        go_upto_region 1 with fail
        generalize w.alloc (.cells #[.int .i64 0, .string ⟨#[]⟩, .int .i64 0, .int .i64 0] 27) = W1 at HZ HB ⊢
        go_wp2_with (first | (go_at_call 43; refine (rlet_any _ _).mono ?_; rintro e w' ⟨rfl, rfl⟩) | (go_at_call 45; refine (rdig_any _ _).mono ?_; rintro e w' ⟨rfl, rfl⟩) | (go_at_call 47; refine (KC.out _).mono ?_; rintro e9 w9 ⟨⟨v, rfl, hv⟩, hbw⟩; have HV := Lib.hid hv; obtain ⟨k, n, b, e, t, ok, rfl, _⟩ := hv.ex; clear hv; have HB2 := Lib.hid (below_on HB.out hbw); have HZ2 := Lib.hid ((hbw.block _ (lt_heap HZ.out)).trans HZ.out); obtain ⟨⟨z0, z1, z2, z3⟩, fz, yz⟩ := four_cellsT HZ2.out; clear hbw))
        refine bodyPost_ret (tk_ret3 rfl rfl (set_fourT HZ2.out)) rfl ?_
        exact ⟨⟨_, rfl, HV.out⟩, four_belowT HB2.out (Nat.le_refl _)⟩
      · rw [if_neg (by omega)]
        have KC := Lib.hid (fun W => roper_any s a hs ha W)
        have e3 : (bt s a == 34) = false := by simpa using h3
        clear hd hc hr hsc h3
        go_enter Tryz.func20, Tryz.ntmps20
        go_upto_region 1 with fail
        generalize w.alloc (.cells #[.int .i64 0, .string ⟨#[]⟩, .int .i64 0, .int .i64 0] 27) = W1 at HZ HB ⊢
        go_wp2_with (first | (go_at_call 43; refine (rlet_any _ _).mono ?_; rintro e w' ⟨rfl, rfl⟩) | (go_at_call 45; refine (rdig_any _ _).mono ?_; rintro e w' ⟨rfl, rfl⟩) | (go_at_call 48; refine (KC.out _).mono ?_; rintro e9 w9 ⟨⟨v, rfl, hv⟩, hbw⟩; have HV := Lib.hid hv; obtain ⟨k, n, b, e, t, ok, rfl, _⟩ := hv.ex; clear hv; have HB2 := Lib.hid (below_on HB.out hbw); have HZ2 := Lib.hid ((hbw.block _ (lt_heap HZ.out)).trans HZ.out); obtain ⟨⟨z0, z1, z2, z3⟩, fz, yz⟩ := four_cellsT HZ2.out; clear hbw))
        refine bodyPost_ret (tk_ret3 rfl rfl (set_fourT HZ2.out)) rfl ?_
        exact ⟨⟨_, rfl, HV.out⟩, four_belowT HB2.out (Nat.le_refl _)⟩
set_option maxRecDepth 100000 in
set_option maxHeartbeats 4000000 in
theorem rskip_any (s : ByteArray) (a : Nat) (hs : s.size ≤ 1000000) (ha : a ≤ s.size) (w : World) : Calls Tryz.prog 19 #[.string s, .int .i64 (a : Int)] w fun e w' => e = .returned (.int .i64 ((a + skL (s.data.toList.drop a) : Nat) : Int)) ∧ w = w' := by
  have hb := get_bt s
  obtain ⟨V, hV⟩ : ∃ V, a + skL (s.data.toList.drop a) = V := ⟨_, rfl⟩
  have HV := Lib.hid hV
  rw [hV]
  clear hV
  go_enter Tryz.func19, Tryz.ntmps19
  go_wp2
  go_loop [1] (fun i => ∃ k : Nat, k ≤ s.size ∧ i = .int .i64 k ∧ k + skL (s.data.toList.drop k) = V) (fun i => s.size - (intOf i).toNat)
  case atStart => exact ⟨a, ha, rfl, HV.out⟩
  case round =>
    obtain ⟨k, hk, rfl, hq⟩ := hrel
    have HQ := Lib.hid hq
    clear hq
    by_cases hlt : k < s.size
    · obtain ⟨c, r, hd, hc, hr⟩ := drop_bt hlt
      have hb0 := bt_nonneg s k
      have hb1 := bt_le s k
      have hki : (k : Int) < (s.size : Int) := by omega
      have HS := Lib.hid (sk_step hd)
      have HD := Lib.hid hd
      have HR := Lib.hid hr
      have hbc : bl8 c = blB (bt s k) := by rw [bl8_eq, hc]
      rw [hbc] at HS
      clear hd hr hbc hc
      by_cases hl : bt s k = 9 ∨ bt s k = 10 ∨ bt s k = 13 ∨ bt s k = 32
      · have HN := Lib.hid (show k + 1 + skL (s.data.toList.drop (k + 1)) = V by
          have := HS.out
          rw [show blB (bt s k) = true from decide_eq_true hl, if_pos rfl] at this
          rw [← HQ.out, this, HR.out]; omega)
        rcases hl with h | h | h | h
        · have hx : True := trivial
          have e32 : (bt s k == 32) = false := by rw [h]; rfl
          have e9 : (bt s k == 9) = true := by rw [h]; rfl
          have e10 : (bt s k == 10) = false := by rw [h]; rfl
          have e13 : (bt s k == 13) = false := by rw [h]; rfl
          clear h hx
          go_wp2
          go_round
          case rel => exact ⟨k + 1, by omega, by go_num, HN.out⟩
          case measure => simp [intOf]; omega
        · have hx : True := trivial
          have e32 : (bt s k == 32) = false := by rw [h]; rfl
          have e9 : (bt s k == 9) = false := by rw [h]; rfl
          have e10 : (bt s k == 10) = true := by rw [h]; rfl
          have e13 : (bt s k == 13) = false := by rw [h]; rfl
          clear h hx
          go_wp2
          go_round
          case rel => exact ⟨k + 1, by omega, by go_num, HN.out⟩
          case measure => simp [intOf]; omega
        · have hx : True := trivial
          have e32 : (bt s k == 32) = false := by rw [h]; rfl
          have e9 : (bt s k == 9) = false := by rw [h]; rfl
          have e10 : (bt s k == 10) = false := by rw [h]; rfl
          have e13 : (bt s k == 13) = true := by rw [h]; rfl
          clear h hx
          go_wp2
          go_round
          case rel => exact ⟨k + 1, by omega, by go_num, HN.out⟩
          case measure => simp [intOf]; omega
        · have hx : True := trivial
          have e32 : (bt s k == 32) = true := by rw [h]; rfl
          have e9 : (bt s k == 9) = false := by rw [h]; rfl
          have e10 : (bt s k == 10) = false := by rw [h]; rfl
          have e13 : (bt s k == 13) = false := by rw [h]; rfl
          clear h hx
          go_wp2
          go_round
          case rel => exact ⟨k + 1, by omega, by go_num, HN.out⟩
          case measure => simp [intOf]; omega
      · have HS2 := Lib.hid (show skL (s.data.toList.drop k) = if [47, 47].isPrefixOf (s.data.toList.drop k) = true then ((s.data.toList.drop k).takeWhile (· != 10)).length + skL ((s.data.toList.drop k).drop ((s.data.toList.drop k).takeWhile (· != 10)).length) else 0 by
          have := HS.out
          rw [show blB (bt s k) = false from decide_eq_false hl, if_neg (by decide)] at this
          exact this)
        have e9 : (bt s k == 9) = false := by rw [beq_eq_false_iff_ne]; omega
        have e10 : (bt s k == 10) = false := by rw [beq_eq_false_iff_ne]; omega
        have e13 : (bt s k == 13) = false := by rw [beq_eq_false_iff_ne]; omega
        have e32 : (bt s k == 32) = false := by rw [beq_eq_false_iff_ne]; omega
        have hc0 : (bt s k != 10) = true := by simp only [bne_iff_ne, ne_eq]; omega
        have KP := Lib.hid (fun W => (by have h := ris_any s ⟨#[47, 47]⟩ k (by omega) (by decide) hk W; exact h : Calls Tryz.prog 42 #[.string s, .int .i64 (k : Int), .string ⟨#[47, 47]⟩] W fun e w' => e = .returned (.bool ([47, 47].isPrefixOf (s.data.toList.drop k))) ∧ W = w'))
        clear hl
        cases hp : [47, 47].isPrefixOf (s.data.toList.drop k) with
        | false =>
          have HN := Lib.hid (show k = V by
            have := HS2.out
            rw [hp, if_neg (by decide)] at this
            rw [← HQ.out, this]; omega)
          rw [hp] at KP
          clear hp hc0
          go_wp2_with (go_at_call 42; refine (KP.out _).mono ?_; rintro e w' ⟨rfl, rfl⟩)
          go_ret
          exact ⟨ret_int1 (by rw [HN.out]), rfl⟩
        | true =>
          obtain ⟨m, hm⟩ : ∃ m, ((s.data.toList.drop k).takeWhile (· != 10)).length = m := ⟨_, rfl⟩
          have HN := Lib.hid (show k + m + skL (s.data.toList.drop (k + m)) = V by
            have := HS2.out
            rw [hp, if_pos rfl, hm, List.drop_drop] at this
            rw [← HQ.out, this]; omega)
          have hmp : 0 < m := by
            rw [← hm, HD.out]
            exact cm_pos (by rw [← HD.out]; exact hp)
          have hml : k + m ≤ s.size := by
            have := tw_le (· != 10) (s.data.toList.drop k)
            rw [hm, List.length_drop, len_data] at this
            omega
          have hnl := Lib.hid (show ∀ j, j < m → (bt s (k + j) != 10) = true from fun j hj => by
            have := tw_get (p := (· != 10)) (l := s.data.toList.drop k) (j := j) (by rw [hm]; exact hj)
            rw [getD_drop8]
            simp only [bne_iff_ne, ne_eq] at this ⊢
            intro e
            exact this (UInt8.toNat_inj.1 (by show _ = 10; omega)))
          have hst := Lib.hid (show k + m < s.size → (bt s (k + m) != 10) = false from fun h => by
            have := tw_stop (p := (· != 10)) (l := s.data.toList.drop k) (by rw [hm, List.length_drop, len_data]; omega)
            rw [hm] at this
            rw [getD_drop8]
            simp only [bne_eq_false_iff_eq] at this ⊢
            rw [this]; rfl)
          rw [hp] at KP
          clear hp hm hc0
          go_wp2_with (go_at_call 42; refine (KP.out _).mono ?_; rintro e w' ⟨rfl, rfl⟩)
          go_loop [1] (fun i => ∃ j : Nat, j ≤ m ∧ i = .int .i64 ((k + j : Nat) : Int)) (fun i => s.size - (intOf i).toNat)
          case atStart => exact ⟨0, Nat.zero_le _, rfl⟩
          case round =>
            obtain ⟨j, hj, rfl⟩ := hrel
            have hb2 := bt_nonneg s (k + j)
            have hb3 := bt_le s (k + j)
            obtain ⟨x, hx⟩ : ∃ x, k + j = x := ⟨_, rfl⟩
            by_cases hjm : j < m
            · have hne := hnl.out j hjm
              have hk8 : ((k + j : Nat) : Int) < (s.size : Int) := by omega
              have hk7 : k + j < s.size := by omega
              rw [hx] at hne hb2 hb3 hk8 hk7 ⊢
              go_wp2
              go_round
              case rel => exact ⟨j + 1, by omega, by rw [show k + (j + 1) = x + 1 by omega]; go_num⟩
              case measure => simp [intOf]; omega
            · have hjm2 : j = m := by omega
              subst hjm2
              by_cases hend : k + j < s.size
              · have hne := hst.out hend
                have hk8 : ((k + j : Nat) : Int) < (s.size : Int) := by omega
                rw [hx] at hne hb2 hb3 hk8 hend HN ⊢
                go_wp2
                go_round
                case rel => exact ⟨x, by omega, rfl, HN.out⟩
                case measure => simp [intOf]; omega
              · have hk8 : ¬ ((k + j : Nat) : Int) < (s.size : Int) := by omega
                have hk9 : decide (((k + j : Nat) : Int) < (s.size : Int)) = false := decide_eq_false hk8
                have hk7 : decide (k + j < s.size) = false := decide_eq_false hend
                rw [hx] at hk8 hk9 hk7 hend HN hml ⊢
                go_wp2
                go_round
                case rel => exact ⟨x, by omega, rfl, HN.out⟩
                case measure => simp [intOf]; omega
    · obtain rfl : k = s.size := by omega
      have HN := Lib.hid (show s.size = V by
        rw [← HQ.out, drop_end8 (Nat.le_refl _)]; rfl)
      go_wp2
      go_ret
      exact ⟨ret_int1 (by rw [HN.out]), rfl⟩

end Go.Proofs.YtfpdnhbbbadegaaGreatDoor
