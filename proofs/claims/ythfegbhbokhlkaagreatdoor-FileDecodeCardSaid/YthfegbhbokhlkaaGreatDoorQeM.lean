import Derived.Test.YthfegbhbokhlkaaGreatDoorQaM
import Derived.Test.YthfegbhbokhlkaaGreatDoorReg

/- Qe -/
/- Layer 11: the reference's Decode. (gen/qe2.py) -/
namespace Go.Proofs.YthfegbhbokhlkaaGreatDoor
open Go.ChangeShapes Go.WideShapes Go.ChangeAt Go.RowKit Go.PlainAid
set_option linter.unusedSimpArgs false
set_option linter.unusedVariables false

theorem rfd_big (s : ByteArray) (h : 1048576 < s.size) (w : World) : Calls Tryz.prog 11 #[.string s] w (FdRet w s) := by
  have HE := Lib.hid (show fdE s = 8 by unfold fdE; rw [if_pos h])
  have h' : (1048576 : Int) < (s.size : Int) := by omega
  obtain ⟨Q, hQ⟩ : ∃ Q, FdRet w s = Q := ⟨_, rfl⟩
  have HQ := Lib.hid hQ
  rw [hQ]
  clear h hQ
  go_enter Tryz.func11, Tryz.ntmps11
  go_wp2
  have H0 := World.alloc_heap_new w (.cells #[.slice none 0 0, .int .i64 0, .int .i64 0, .int .i64 0, .slice none 0 0, .slice none 0 0, .slice none 0 0, .slice none 0 0] 27)
  refine bodyPost_ret (fd_ret rfl rfl H0) rfl ?_
  rw [← HQ.out]
  exact FdRet.no HE.out (by decide) (below_al (Below.refl _ _) _)
theorem rfd_short (s : ByteArray) (h : s.size < 6) (w : World) : Calls Tryz.prog 11 #[.string s] w (FdRet w s) := by
  have HE := Lib.hid (show fdE s = 4 by
    have h2 := hd_raw s
    rw [decide_eq_false (by omega : ¬ 6 ≤ s.size), Bool.false_and] at h2
    unfold fdE; rw [if_neg (by omega), ← h2, if_neg (by decide)])
  have h' : (s.size : Int) < 6 := by omega
  have h3 : ¬ (1048576 : Int) < (s.size : Int) := by omega
  obtain ⟨Q, hQ⟩ : ∃ Q, FdRet w s = Q := ⟨_, rfl⟩
  have HQ := Lib.hid hQ
  rw [hQ]
  clear h hQ
  go_enter Tryz.func11, Tryz.ntmps11
  go_wp2
  have H0 := World.alloc_heap_new w (.cells #[.slice none 0 0, .int .i64 0, .int .i64 0, .int .i64 0, .slice none 0 0, .slice none 0 0, .slice none 0 0, .slice none 0 0] 27)
  refine bodyPost_ret (fd_ret rfl rfl H0) rfl ?_
  rw [← HQ.out]
  exact FdRet.no HE.out (by decide) (below_al (Below.refl _ _) _)
theorem rfd_head (s : ByteArray) (h : ¬ 1048576 < s.size) (h6 : 6 ≤ s.size) (h2 : ¬ Lib.hasPrefix s.data.toList hdB.data.toList = true) (w : World) : Calls Tryz.prog 11 #[.string s] w (FdRet w s) := by
  have HE := Lib.hid (show fdE s = 4 by unfold fdE; rw [if_neg h, if_neg h2])
  have hh : ((s.extract 0 6).toList == [65, 82, 77, 65, 0, 1]) = false := by
    have h3 := hd_raw s
    rw [hd_bytes, decide_eq_true h6, Bool.true_and] at h3
    rw [h3]; simpa using h2
  have h' : ¬ (1048576 : Int) < (s.size : Int) := by omega
  have h6' : ¬ (s.size : Int) < 6 := by omega
  have h66 : (6 : Int) ≤ (s.size : Int) := by omega
  obtain ⟨Q, hQ⟩ : ∃ Q, FdRet w s = Q := ⟨_, rfl⟩
  have HQ := Lib.hid hQ
  rw [hQ]
  clear h h2 hQ
  go_enter Tryz.func11, Tryz.ntmps11
  go_wp2
  have H0 := World.alloc_heap_new w (.cells #[.slice none 0 0, .int .i64 0, .int .i64 0, .int .i64 0, .slice none 0 0, .slice none 0 0, .slice none 0 0, .slice none 0 0] 27)
  refine bodyPost_ret (fd_ret rfl rfl H0) rfl ?_
  rw [← HQ.out]
  exact FdRet.no HE.out (by decide) (below_al (Below.refl _ _) _)

theorem heap_drw {W : World} {b : Nat} {o : Obj} (h : W.heap[b]? = some o) : W.drew.heap[b]? = some o := h
theorem Off.drw {b : Nat} {w W : World} (h : Off b w W) : Off b w W.drew := ⟨h.os, h.tape, h.output, h.size, h.block⟩
set_option maxRecDepth 100000 in
set_option maxHeartbeats 8000000 in
theorem rfd_main (s : ByteArray) (h : ¬ 1048576 < s.size) (h6 : 6 ≤ s.size) (h2 : Lib.hasPrefix s.data.toList hdB.data.toList = true) (w : World) : Calls Tryz.prog 11 #[.string s] w (FdRet w s) := by
  have hh : ((s.extract 0 6).toList == [65, 82, 77, 65, 0, 1]) = true := by
    have h3 := hd_raw s
    rw [hd_bytes, decide_eq_true h6, Bool.true_and] at h3
    rw [h3]; exact h2
  have hs : s.size ≤ 2000000 := by omega
  have hE : fdE s = if deE s 6 = 0 then bdE s (deN s 6) else deE s 6 := by unfold fdE; rw [if_neg h, if_pos h2]
  have h' : ¬ (1048576 : Int) < (s.size : Int) := by omega
  have h6' : ¬ (s.size : Int) < 6 := by omega
  have h66 : (6 : Int) ≤ (s.size : Int) := by omega
  obtain ⟨Q, hQ⟩ : ∃ Q, FdRet w s = Q := ⟨_, rfl⟩
  have HQ := Lib.hid hQ
  rw [hQ]
  clear h h2 hQ
  by_cases hd : deE s 6 = 0
  · have HD := Lib.hid (fun W => rp_ok s 6 hs hd W)
    obtain ⟨hq0, hq1⟩ := de_pos hd
    rw [if_pos hd] at hE
    obtain ⟨q, hq⟩ : ∃ x, deN s 6 = x := ⟨_, rfl⟩
    obtain ⟨L1, hL1⟩ : ∃ x, deL s 6 = x := ⟨_, rfl⟩
    rw [hq, hL1] at HD
    rw [hq] at hE hq0 hq1
    have HQ0 := Lib.hid hq
    have HL1 := Lib.hid hL1
    have hs' : (s.size : Int) ≤ 2000000 := by omega
    have HE0 := Lib.hid hE
    clear hq hd hL1 hE
    go_enter Tryz.func11, Tryz.ntmps11
    go_upto_region 8 with (go_at_call 35; refine (HD.out _).mono ?_; rintro r w1 ⟨A1, n1, c1, rfl, hl1, hp1, hb⟩; have HH := Lib.hid (first_box hb); have HB := Lib.hid (below_on (w := w) (below_al (Below.refl _ _) _) hb); have HL := Lib.hid hl1; have HP := Lib.hid hp1; clear hb hl1 hp1; have HW := Lib.hid (Below.refl w1.heap.size w1))
    have hE := HE0.out
    by_cases h3 : unsE s q 2 = 0 ∧ unsE s (q + 2) 2 = 0 ∧ unsE s (q + 4) 2 = 0
    · have HT := Lib.hid (fun W => rthree_ok s q hs ⟨hq0, hq1⟩ h3 W)
      have hr6 := un_0 ok2 h3.2.2
      unfold bdE at hE
      rw [if_pos h3] at hE
      obtain ⟨v1, hv1⟩ : ∃ v, unsV s q 2 = v := ⟨_, rfl⟩
      obtain ⟨v2, hv2⟩ : ∃ v, unsV s (q + 2) 2 = v := ⟨_, rfl⟩
      obtain ⟨v3, hv3⟩ : ∃ v, unsV s (q + 4) 2 = v := ⟨_, rfl⟩
      obtain ⟨p6, hp6⟩ : ∃ v, q + 6 = v := ⟨_, rfl⟩
      rw [hv1, hv2, hv3, hp6] at HT
      rw [hp6] at hE
      have hpr : 0 ≤ p6 ∧ p6 ≤ s.size := by omega
      have HV1 := Lib.hid hv1
      have HV2 := Lib.hid hv2
      have HV3 := Lib.hid hv3
      have HP6 := Lib.hid hp6
      have HE1 := Lib.hid hE
      clear hv1 hv2 hv3 hr6 h3 hp6 hE
      go_upto_region 11 with (go_at_call 36; refine (HT.out _).mono ?_; rintro r w2 ⟨A2, c2, rfl, hO2, hb⟩; have LT2 := Lib.hid (lt_heap HH.out); replace HH := Lib.hid ((hb.block _ (lt_heap HH.out)).trans HH.out); replace HB := Lib.hid (below_on HB.out hb); have HO2 := Lib.hid hO2; replace HW := Lib.hid (below_on HW.out hb); clear hb hO2)
      have hE := HE1.out
      by_cases hc : cuE s p6 8 = 0
      · obtain ⟨hc1, hc2, hc3, hc4⟩ := cu_0 hc
        have HC := Lib.hid (fun W => rc_ok s p6 8 hs hpr (by omega) hc W)
        have hu := uns2_bd s p6
        obtain ⟨m, hm⟩ : ∃ m : Nat, unsV s p6 2 = (m : Int) := ⟨(unsV s p6 2).toNat, by omega⟩
        obtain ⟨p8, hp8⟩ : ∃ v, p6 + 2 = v := ⟨_, rfl⟩
        have hmt : (unsV s p6 2).toNat = m := by omega
        have hm8 : m ≤ 8 := by omega
        rw [hm, hp8] at HC
        have his : isE s p6 = lkE (nuC s) nuN (nuE s) p8 m := by unfold isE; rw [if_pos hc, hp8, hmt]
        have hin : isN s p6 = lkN (nuC s) nuN (nuE s) p8 m := by unfold isN; rw [hp8, hmt]
        have hil : isL s p6 = lkL (nuC s) nuN (nuE s) p8 m := by unfold isL; rw [hp8, hmt]
        have hp8r : 0 ≤ p8 ∧ p8 ≤ s.size := by omega
        have hok := is_ok (s := s) (q := p6) (by omega) (by omega)
        rw [his, hin] at hE hok
        have HIL := Lib.hid hil
        have HIN := Lib.hid hin
        have HE2 := Lib.hid hE
        have HOK := Lib.hid hok
        clear his hin hil hm hmt hu hc1 hc2 hc3 hc4 hc hp8 hE hok
        go_upto_region 14 with (go_at_call 37; refine (HC.out _).mono ?_; rintro r w3 ⟨rfl, rfl⟩)
        have hE := HE2.out
        by_cases hi : lkE (nuC s) nuN (nuE s) p8 m = 0
        · have HN := Lib.hid (fun W => ris_ok s p8 m hs hp8r (by omega) hi W)
          have hr5 := HOK.out hi
          rw [if_pos hi] at hE
          obtain ⟨p5, hp5⟩ : ∃ v, lkN (nuC s) nuN (nuE s) p8 m = v := ⟨_, rfl⟩
          obtain ⟨LI, hLI⟩ : ∃ v, lkL (nuC s) nuN (nuE s) p8 m = v := ⟨_, rfl⟩
          rw [hp5] at HN hE hr5 HIN
          rw [hLI] at HN HIL
          have HE3 := Lib.hid hE
          clear hp5 hLI hi hE
          have hp5r : 0 ≤ p5 ∧ p5 ≤ s.size := by omega
          go_upto_region 17 with (go_at_call 36; refine (HN.out _).mono ?_; rintro r w4 ⟨A4, n4, c4, rfl, hO4, hb⟩; have LT4 := Lib.hid (lt_heap HH.out); replace HH := Lib.hid ((hb.block _ (lt_heap HH.out)).trans HH.out); replace HB := Lib.hid (below_on HB.out hb); have HO4 := Lib.hid hO4; replace HW := Lib.hid (below_on HW.out hb); replace HO2 := Lib.hid (HO2.out.below hb); clear hb hO4)
          have hE := HE3.out
          by_cases hf : msE s p5 = 0
          · have HF := Lib.hid (fun W => rms_ok s p5 hs hp5r hf W)
            have hr := ms_ok hp5r.1 hp5r.2 hf
            rw [if_pos hf] at hE
            obtain ⟨x6, hx6⟩ : ∃ v, msN s p5 = v := ⟨_, rfl⟩
            rw [hx6] at HF hE hr
            have HX6 := Lib.hid hx6
            have hx6r : 0 ≤ x6 ∧ x6 ≤ s.size := by omega
            have HE4 := Lib.hid hE
            clear hf hx6 hr hE
            go_upto_region 20 with (go_at_call 38; refine (HF.out _).mono ?_; rintro r w5 ⟨A5, n5, c5, L5, rfl, hO5, hX5, hv5, hb⟩; have LT5 := Lib.hid (lt_heap HH.out); replace HH := Lib.hid ((hb.block _ (lt_heap HH.out)).trans HH.out); replace HB := Lib.hid (below_on HB.out hb); have HO5 := Lib.hid hO5; have HX5 := Lib.hid hX5; have HV5 := Lib.hid hv5; replace HW := Lib.hid (below_on HW.out hb); replace HO2 := Lib.hid (HO2.out.below hb); replace HO4 := Lib.hid (HO4.out.below hb); clear hb hO5 hX5 hv5)
            have hE := HE4.out
            by_cases hg : msE s x6 = 0
            · have HG := Lib.hid (fun W => rms_ok s x6 hs hx6r hg W)
              have hr := ms_ok hx6r.1 hx6r.2 hg
              rw [if_pos hg] at hE
              obtain ⟨x7, hx7⟩ : ∃ v, msN s x6 = v := ⟨_, rfl⟩
              rw [hx7] at HG hE hr
              have HX7 := Lib.hid hx7
              have hx7r : 0 ≤ x7 ∧ x7 ≤ s.size := by omega
              have HE5 := Lib.hid hE
              clear hg hx7 hr hE
              go_upto_region 23 with (go_at_call 38; refine (HG.out _).mono ?_; rintro r w6 ⟨A6, n6, c6, L6, rfl, hO6, hX6, hv6, hb⟩; have LT6 := Lib.hid (lt_heap HH.out); replace HH := Lib.hid ((hb.block _ (lt_heap HH.out)).trans HH.out); replace HB := Lib.hid (below_on HB.out hb); have HO6 := Lib.hid hO6; have HX6' := Lib.hid hX6; have HV6 := Lib.hid hv6; replace HW := Lib.hid (below_on HW.out hb); replace HO2 := Lib.hid (HO2.out.below hb); replace HO4 := Lib.hid (HO4.out.below hb); replace HO5 := Lib.hid (HO5.out.below hb); replace HX5 := Lib.hid (fun y hy => (HX5.out y hy).below hb); clear hb hO6 hX6 hv6)
              have hE := HE5.out
              by_cases ha : asE s x7 = 0
              · have HA := Lib.hid (fun W => rat_ok s x7 hs hx7r ha W)
                have hr := as_ok hx7r.1 hx7r.2 ha
                rw [if_pos ha] at hE
                obtain ⟨x8, hx8⟩ : ∃ v, asN s x7 = v := ⟨_, rfl⟩
                obtain ⟨L7, hL7⟩ : ∃ v, asL s x7 = v := ⟨_, rfl⟩
                rw [hx8, hL7] at HA
                rw [hx8] at hE hr
                have HL7 := Lib.hid hL7
                clear ha hx8 hL7
                by_cases ht : x8 < s.size
                · rw [if_pos ht] at hE
                  have HE := Lib.hid hE
                  clear hE
                  go_wp2_with (go_at_call 39; refine (HA.out _).mono ?_; rintro r w7 ⟨A7, n7, c7, rfl, hO7, hb⟩; have LT7 := Lib.hid (lt_heap HH.out); replace HH := Lib.hid ((hb.block _ (lt_heap HH.out)).trans HH.out); replace HB := Lib.hid (below_on HB.out hb); have HO7 := Lib.hid hO7; replace HW := Lib.hid (below_on HW.out hb); replace HO2 := Lib.hid (HO2.out.below hb); replace HO4 := Lib.hid (HO4.out.below hb); replace HO5 := Lib.hid (HO5.out.below hb); replace HX5 := Lib.hid (fun y hy => (HX5.out y hy).below hb); replace HO6 := Lib.hid (HO6.out.below hb); replace HX6' := Lib.hid (fun y hy => (HX6'.out y hy).below hb); clear hb hO7; obtain ⟨⟨z0, z1, z2, z3, z4, z5, z6, z7⟩, fz, ylt⟩ := eight_cellsF HH.out)
                  refine bodyPost_ret (fd_ret rfl rfl (set_eightF HH.out)) rfl ?_
                  rw [← HQ.out]
                  exact FdRet.no HE.out (by decide) (eight_below HB.out (Nat.le_refl _))
                · rw [if_neg ht] at hE
                  have HE := Lib.hid hE
                  clear hE
                  go_upto_region 28 with (go_at_call 39; refine (HA.out _).mono ?_; rintro r w7 ⟨A7, n7, c7, rfl, hO7, hb⟩; have LT7 := Lib.hid (lt_heap HH.out); replace HH := Lib.hid ((hb.block _ (lt_heap HH.out)).trans HH.out); replace HB := Lib.hid (below_on HB.out hb); have HO7 := Lib.hid hO7; replace HW := Lib.hid (below_on HW.out hb); replace HO2 := Lib.hid (HO2.out.below hb); replace HO4 := Lib.hid (HO4.out.below hb); replace HO5 := Lib.hid (HO5.out.below hb); replace HX5 := Lib.hid (fun y hy => (HX5.out y hy).below hb); replace HO6 := Lib.hid (HO6.out.below hb); replace HX6' := Lib.hid (fun y hy => (HX6'.out y hy).below hb); clear hb hO7; obtain ⟨⟨z0, z1, z2, z3, z4, z5, z6, z7⟩, fz, ylt⟩ := eight_cellsF HH.out)
                  obtain ⟨g, o, rfl, y0, y1, y2⟩ := three_cellsN HO2.out
                  have HGW := Lib.hid (show w.heap.size ≠ g by have h1 := (HO2.out.own.lt g rfl).1; have h2 := LT2.out; omega)
                  refine regN_start (N := 16) (S := (fun W : World => W.cell? ⟨g, o, none⟩ = some (.int .i64 v1) ∧ W.cell? ⟨g, o + 1, none⟩ = some (.int .i64 v2) ∧ W.cell? ⟨g, o + 2, none⟩ = some (.int .i64 v3))) (by kernel_rfl) ?_
                  change wpAnyN _ _ _ _ _ _ _ #[false, false, false, false, false, false, false, false, false, false, false, false, false, false, false, false, false] _ (World.drew _)
                  have hS0 := (show (fun W : World => W.cell? ⟨g, o, none⟩ = some (.int .i64 v1) ∧ W.cell? ⟨g, o + 1, none⟩ = some (.int .i64 v2) ∧ W.cell? ⟨g, o + 2, none⟩ = some (.int .i64 v3)) w7.drew from ⟨y0, y1, y2⟩)
                  refine regN_take (i := 0) (d := (some 108)) (v := ?v28x1) (l2 := #[true, false, false, false, false, false, false, false, false, false, false, false, false, false, false, false, false]) rfl rfl rfl (by kernel_rfl) (by kernel_rfl) (by kernel_rfl) (by kernel_rfl) (fun _ _ _ h => h) (by rfl) ?hv28x1 hS0 ?h28x1
                  case hv28x1 => intro u hSu; clear hSu; go_simp; (try with_reducible rfl)
                  (try simp only [Act.put, List.setIfInBounds_toArray, List.set_cons_zero, List.set_cons_succ])
                  refine regN_take (i := 1) (d := (some 109)) (v := ?v28x2) (l2 := #[true, true, false, false, false, false, false, false, false, false, false, false, false, false, false, false, false]) rfl rfl rfl (by kernel_rfl) (by kernel_rfl) (by kernel_rfl) (by kernel_rfl) (fun _ _ _ h => h) (by rfl) ?hv28x2 hS0 ?h28x2
                  case hv28x2 => intro u hSu; clear hSu; go_simp; (try with_reducible rfl)
                  (try simp only [Act.put, List.setIfInBounds_toArray, List.set_cons_zero, List.set_cons_succ])
                  refine regN_take (i := 2) (d := (some 110)) (v := ?v28x3) (l2 := #[true, true, true, false, false, false, false, false, false, false, false, false, false, false, false, false, false]) rfl rfl rfl (by kernel_rfl) (by kernel_rfl) (by kernel_rfl) (by kernel_rfl) (fun _ _ _ h => h) (by rfl) ?hv28x3 hS0 ?h28x3
                  case hv28x3 => intro u hSu; clear hSu; go_simp; (try with_reducible rfl)
                  (try simp only [Act.put, List.setIfInBounds_toArray, List.set_cons_zero, List.set_cons_succ])
                  refine regN_take (i := 3) (d := (some 111)) (v := ?v28x4) (l2 := #[true, true, true, true, false, false, false, false, false, false, false, false, false, false, false, false, false]) rfl rfl rfl (by kernel_rfl) (by kernel_rfl) (by kernel_rfl) (by kernel_rfl) (fun _ _ _ h => h) (by rfl) ?hv28x4 hS0 ?h28x4
                  case hv28x4 => intro u hSu; (try dsimp only at hSu); (try go_split_ands); go_simp; (try with_reducible rfl)
                  (try simp only [Act.put, List.setIfInBounds_toArray, List.set_cons_zero, List.set_cons_succ])
                  refine regN_take (i := 4) (d := (some 112)) (v := ?v28x5) (l2 := #[true, true, true, true, true, false, false, false, false, false, false, false, false, false, false, false, false]) rfl rfl rfl (by kernel_rfl) (by kernel_rfl) (by kernel_rfl) (by kernel_rfl) (fun _ _ _ h => h) (by rfl) ?hv28x5 hS0 ?h28x5
                  case hv28x5 => intro u hSu; clear hSu; go_simp; (try with_reducible rfl)
                  (try simp only [Act.put, List.setIfInBounds_toArray, List.set_cons_zero, List.set_cons_succ])
                  refine regN_take (i := 5) (d := (some 113)) (v := ?v28x6) (l2 := #[true, true, true, true, true, true, false, false, false, false, false, false, false, false, false, false, false]) rfl rfl rfl (by kernel_rfl) (by kernel_rfl) (by kernel_rfl) (by kernel_rfl) (fun _ _ _ h => h) (by rfl) ?hv28x6 hS0 ?h28x6
                  case hv28x6 => intro u hSu; clear hSu; go_simp; (try with_reducible rfl)
                  (try simp only [Act.put, List.setIfInBounds_toArray, List.set_cons_zero, List.set_cons_succ])
                  refine regN_take (i := 6) (d := (some 114)) (v := ?v28x7) (l2 := #[true, true, true, true, true, true, true, false, false, false, false, false, false, false, false, false, false]) rfl rfl rfl (by kernel_rfl) (by kernel_rfl) (by kernel_rfl) (by kernel_rfl) (fun _ _ _ h => h) (by rfl) ?hv28x7 hS0 ?h28x7
                  case hv28x7 => intro u hSu; (try dsimp only at hSu); (try go_split_ands); go_simp; (try with_reducible rfl)
                  (try simp only [Act.put, List.setIfInBounds_toArray, List.set_cons_zero, List.set_cons_succ])
                  refine regN_take (i := 7) (d := (some 115)) (v := ?v28x8) (l2 := #[true, true, true, true, true, true, true, true, false, false, false, false, false, false, false, false, false]) rfl rfl rfl (by kernel_rfl) (by kernel_rfl) (by kernel_rfl) (by kernel_rfl) (fun _ _ _ h => h) (by rfl) ?hv28x8 hS0 ?h28x8
                  case hv28x8 => intro u hSu; clear hSu; go_simp; (try with_reducible rfl)
                  (try simp only [Act.put, List.setIfInBounds_toArray, List.set_cons_zero, List.set_cons_succ])
                  refine regN_take (i := 8) (d := (some 116)) (v := ?v28x9) (l2 := #[true, true, true, true, true, true, true, true, true, false, false, false, false, false, false, false, false]) rfl rfl rfl (by kernel_rfl) (by kernel_rfl) (by kernel_rfl) (by kernel_rfl) (fun _ _ _ h => h) (by rfl) ?hv28x9 hS0 ?h28x9
                  case hv28x9 => intro u hSu; clear hSu; go_simp; (try with_reducible rfl)
                  (try simp only [Act.put, List.setIfInBounds_toArray, List.set_cons_zero, List.set_cons_succ])
                  refine regN_take (i := 9) (d := (some 117)) (v := ?v28x10) (l2 := #[true, true, true, true, true, true, true, true, true, true, false, false, false, false, false, false, false]) rfl rfl rfl (by kernel_rfl) (by kernel_rfl) (by kernel_rfl) (by kernel_rfl) (fun _ _ _ h => h) (by rfl) ?hv28x10 hS0 ?h28x10
                  case hv28x10 => intro u hSu; (try dsimp only at hSu); (try go_split_ands); go_simp; (try with_reducible rfl)
                  (try simp only [Act.put, List.setIfInBounds_toArray, List.set_cons_zero, List.set_cons_succ])
                  refine regN_take (i := 10) (d := (some 118)) (v := ?v28x11) (l2 := #[true, true, true, true, true, true, true, true, true, true, true, false, false, false, false, false, false]) rfl rfl rfl (by kernel_rfl) (by kernel_rfl) (by kernel_rfl) (by kernel_rfl) (fun _ _ _ h => h) (by rfl) ?hv28x11 hS0 ?h28x11
                  case hv28x11 => intro u hSu; clear hSu; go_simp; (try with_reducible rfl)
                  (try simp only [Act.put, List.setIfInBounds_toArray, List.set_cons_zero, List.set_cons_succ])
                  refine regN_take (i := 11) (d := (some 119)) (v := ?v28x12) (l2 := #[true, true, true, true, true, true, true, true, true, true, true, true, false, false, false, false, false]) rfl rfl rfl (by kernel_rfl) (by kernel_rfl) (by kernel_rfl) (by kernel_rfl) (fun _ _ _ h => h) (by rfl) ?hv28x12 hS0 ?h28x12
                  case hv28x12 => intro u hSu; clear hSu; go_simp; (try with_reducible rfl)
                  (try simp only [Act.put, List.setIfInBounds_toArray, List.set_cons_zero, List.set_cons_succ])
                  refine regN_take (i := 12) (d := (some 120)) (v := ?v28x13) (l2 := #[true, true, true, true, true, true, true, true, true, true, true, true, true, false, false, false, false]) rfl rfl rfl (by kernel_rfl) (by kernel_rfl) (by kernel_rfl) (by kernel_rfl) (fun _ _ _ h => h) (by rfl) ?hv28x13 hS0 ?h28x13
                  case hv28x13 => intro u hSu; clear hSu; go_simp; (try with_reducible rfl)
                  (try simp only [Act.put, List.setIfInBounds_toArray, List.set_cons_zero, List.set_cons_succ])
                  refine regN_take (i := 13) (d := (some 121)) (v := ?v28x14) (l2 := #[true, true, true, true, true, true, true, true, true, true, true, true, true, true, false, false, false]) rfl rfl rfl (by kernel_rfl) (by kernel_rfl) (by kernel_rfl) (by kernel_rfl) (fun _ _ _ h => h) (by rfl) ?hv28x14 hS0 ?h28x14
                  case hv28x14 => intro u hSu; clear hSu; go_simp; (try with_reducible rfl)
                  (try simp only [Act.put, List.setIfInBounds_toArray, List.set_cons_zero, List.set_cons_succ])
                  refine regN_take (i := 14) (d := (some 122)) (v := ?v28x15) (l2 := #[true, true, true, true, true, true, true, true, true, true, true, true, true, true, true, false, false]) rfl rfl rfl (by kernel_rfl) (by kernel_rfl) (by kernel_rfl) (by kernel_rfl) (fun _ _ _ h => h) (by rfl) ?hv28x15 hS0 ?h28x15
                  case hv28x15 => intro u hSu; clear hSu; go_simp; (try with_reducible rfl)
                  (try simp only [Act.put, List.setIfInBounds_toArray, List.set_cons_zero, List.set_cons_succ])
                  refine regN_ready (rs := [15]) (by kernel_rfl) (by simp) ?_
                  refine (AllN.cons (i := 15) (l2 := #[true, true, true, true, true, true, true, true, true, true, true, true, true, true, true, true, false]) rfl rfl (fun K hK => ?_) AllN.nil)
                  go_simp
                  have hS1 : ((fun W : World => W.cell? ⟨g, o, none⟩ = some (.int .i64 v1) ∧ W.cell? ⟨g, o + 1, none⟩ = some (.int .i64 v2) ∧ W.cell? ⟨g, o + 2, none⟩ = some (.int .i64 v3)) : World → Prop) _ := (show (fun W : World => W.cell? ⟨g, o, none⟩ = some (.int .i64 v1) ∧ W.cell? ⟨g, o + 1, none⟩ = some (.int .i64 v2) ∧ W.cell? ⟨g, o + 2, none⟩ = some (.int .i64 v3)) (World.drew _) from three_at (HO2.out.off (eight_off (B := w.heap.size) (W := w7) (a := .slice A1 n1 c1) (b := .int .i64 v1) (c := .int .i64 v2) (d := .int .i64 v3) (e := .slice A4 n4 c4) (f := .slice A5 n5 c5) (g := .slice A6 n6 c6) (h := .slice A7 n7 c7)).drw LT2.out))
                  refine hK _ _ (fun _ => hS1) ?_
                  clear hK K
                  (try simp only [Act.put, List.setIfInBounds_toArray, List.set_cons_zero, List.set_cons_succ])
                  refine regN_ready (rs := [16]) (by kernel_rfl) (by simp) ?_
                  refine (AllN.cons (i := 16) (l2 := #[true, true, true, true, true, true, true, true, true, true, true, true, true, true, true, true, true]) rfl rfl (fun K hK => ?_) AllN.nil)
                  go_simp
                  refine hK _ _ (fun h => absurd rfl h) ?_
                  clear hK K
                  (try simp only [Act.put, List.setIfInBounds_toArray, List.set_cons_zero, List.set_cons_succ])
                  refine regN_done (by kernel_rfl) ?_ _
                  have HFO := Lib.hid (show Off w.heap.size w7 (World.drew (World.setCell (World.setCell (World.setCell (World.setCell (World.setCell (World.setCell (World.setCell (World.setCell w7 ⟨w.heap.size, 0, none⟩ (.slice A1 n1 c1)) ⟨w.heap.size, 1, none⟩ (.int .i64 v1)) ⟨w.heap.size, 2, none⟩ (.int .i64 v2)) ⟨w.heap.size, 3, none⟩ (.int .i64 v3)) ⟨w.heap.size, 4, none⟩ (.slice A4 n4 c4)) ⟨w.heap.size, 5, none⟩ (.slice A5 n5 c5)) ⟨w.heap.size, 6, none⟩ (.slice A6 n6 c6)) ⟨w.heap.size, 7, none⟩ (.slice A7 n7 c7))) from (eight_off (B := w.heap.size) (W := w7) (a := .slice A1 n1 c1) (b := .int .i64 v1) (c := .int .i64 v2) (d := .int .i64 v3) (e := .slice A4 n4 c4) (f := .slice A5 n5 c5) (g := .slice A6 n6 c6) (h := .slice A7 n7 c7)).drw)
                  have HFB := Lib.hid (show Below w.heap.size w (World.drew (World.setCell (World.setCell (World.setCell (World.setCell (World.setCell (World.setCell (World.setCell (World.setCell w7 ⟨w.heap.size, 0, none⟩ (.slice A1 n1 c1)) ⟨w.heap.size, 1, none⟩ (.int .i64 v1)) ⟨w.heap.size, 2, none⟩ (.int .i64 v2)) ⟨w.heap.size, 3, none⟩ (.int .i64 v3)) ⟨w.heap.size, 4, none⟩ (.slice A4 n4 c4)) ⟨w.heap.size, 5, none⟩ (.slice A5 n5 c5)) ⟨w.heap.size, 6, none⟩ (.slice A6 n6 c6)) ⟨w.heap.size, 7, none⟩ (.slice A7 n7 c7))) from (eight_below (B := w.heap.size) (W := w7) (a := .slice A1 n1 c1) (b := .int .i64 v1) (c := .int .i64 v2) (d := .int .i64 v3) (e := .slice A4 n4 c4) (f := .slice A5 n5 c5) (g := .slice A6 n6 c6) (h := .slice A7 n7 c7) HB.out (Nat.le_refl _)).drew)
                  have HFH := Lib.hid (show (World.drew (World.setCell (World.setCell (World.setCell (World.setCell (World.setCell (World.setCell (World.setCell (World.setCell w7 ⟨w.heap.size, 0, none⟩ (.slice A1 n1 c1)) ⟨w.heap.size, 1, none⟩ (.int .i64 v1)) ⟨w.heap.size, 2, none⟩ (.int .i64 v2)) ⟨w.heap.size, 3, none⟩ (.int .i64 v3)) ⟨w.heap.size, 4, none⟩ (.slice A4 n4 c4)) ⟨w.heap.size, 5, none⟩ (.slice A5 n5 c5)) ⟨w.heap.size, 6, none⟩ (.slice A6 n6 c6)) ⟨w.heap.size, 7, none⟩ (.slice A7 n7 c7))).heap[w.heap.size]? = some (.cells #[.slice A1 n1 c1, .int .i64 v1, .int .i64 v2, .int .i64 v3, .slice A4 n4 c4, .slice A5 n5 c5, .slice A6 n6 c6, .slice A7 n7 c7] 27) from heap_drw (set_eightF (B := w.heap.size) (w := w7) (a := .slice A1 n1 c1) (b := .int .i64 v1) (c := .int .i64 v2) (d := .int .i64 v3) (e := .slice A4 n4 c4) (f := .slice A5 n5 c5) (g := .slice A6 n6 c6) (h := .slice A7 n7 c7) HH.out))
                  clear hS0 hS1 z0 z1 z2 z3 z4 z5 z6 z7 fz ylt y0 y1 y2
                  generalize (World.drew (World.setCell (World.setCell (World.setCell (World.setCell (World.setCell (World.setCell (World.setCell (World.setCell w7 ⟨w.heap.size, 0, none⟩ (.slice A1 n1 c1)) ⟨w.heap.size, 1, none⟩ (.int .i64 v1)) ⟨w.heap.size, 2, none⟩ (.int .i64 v2)) ⟨w.heap.size, 3, none⟩ (.int .i64 v3)) ⟨w.heap.size, 4, none⟩ (.slice A4 n4 c4)) ⟨w.heap.size, 5, none⟩ (.slice A5 n5 c5)) ⟨w.heap.size, 6, none⟩ (.slice A6 n6 c6)) ⟨w.heap.size, 7, none⟩ (.slice A7 n7 c7))) = WF at HFO HFB HFH ⊢
                  have HGG : FdRet w s (.returned (.tuple #[.agg #[.slice A1 n1 c1, .int .i64 v1, .int .i64 v2, .int .i64 v3, .slice A4 n4 c4, .slice A5 n5 c5, .slice A6 n6 c6, .slice A7 n7 c7], .int .i64 0])) WF := by
                    refine ⟨⟨L1, A1, n1, c1, v1, v2, v3, LI, A4, n4, c4, L5, A5, n5, c5, L6, A6, n6, c6, L7, A7, n7, c7⟩, by rw [HE.out]; rfl, ?_, fin_ok (W := w7) HL.out HP.out HW.out HH.out HFO.out HO4.out LT4.out HO5.out LT5.out HX5.out LT5.out HO6.out LT6.out HX6'.out LT6.out HO7.out LT7.out, HFB.out⟩
                    unfold fdR fdV Fi.v
                    rw [if_pos HE.out, HL1.out, HQ0.out, HP6.out, HIN.out, HX6.out, HX7.out, HIL.out, HV1.out, HV2.out, HV3.out, HL7.out]
                    simp only [HV5.out, HV6.out]
                  rw [HQ.out] at HGG
                  have HGH := Lib.hid HGG
                  clear HGG HFO HFB HE HL HP HW HH HO4 HO5 HX5 HO6 HX6' HO7 HO2 HQ HQ0 HL1 HP6 HIN HX6 HX7 HIL HV1 HV2 HV3 HV5 HV6 HL7 HD HT HC HN HF HG HA HE0 HE1 HE2 HE3 HE4 HE5 HOK HB LT2 LT4 LT5 LT6 LT7 HGW
                  go_wp2
                  exact bodyPost_ret (fd_ret rfl rfl HFH.out) rfl HGH.out
              · obtain ⟨e, he⟩ : ∃ e, asE s x7 = e := ⟨_, rfl⟩
                rw [if_neg ha, he] at hE
                have HA := Lib.hid (fun W => rat_no s x7 e hs hx7r he W)
                rw [he] at ha
                have hne : (e != 0) = true := by simpa using ha
                have HE := Lib.hid hE
                have HZ := Lib.hid ha
                clear hE he ha
                go_wp2_with (go_at_call 39; refine (HA.out _).mono ?_; rintro r w7 ⟨A7, n7, c7, p7, rfl, hb⟩; replace HH := Lib.hid ((hb.block _ (lt_heap HH.out)).trans HH.out); replace HB := Lib.hid (below_on HB.out hb); obtain ⟨⟨z0, z1, z2, z3, z4, z5, z6, z7⟩, fz, ylt⟩ := eight_cellsF HH.out; clear hb)
                refine bodyPost_ret (fd_ret rfl rfl (set_eightF HH.out)) rfl ?_
                rw [← HQ.out]
                exact FdRet.no HE.out HZ.out (eight_below HB.out (Nat.le_refl _))
            · obtain ⟨e, he⟩ : ∃ e, msE s x6 = e := ⟨_, rfl⟩
              rw [if_neg hg, he] at hE
              have HG := Lib.hid (fun W => rms_no s x6 e hs hx6r he W)
              rw [he] at hg
              have hne : (e != 0) = true := by simpa using hg
              have HE := Lib.hid hE
              have HZ := Lib.hid hg
              clear hE he hg
              go_wp2_with (go_at_call 38; refine (HG.out _).mono ?_; rintro r w6 ⟨A6, n6, c6, p6, rfl, hb⟩; replace HH := Lib.hid ((hb.block _ (lt_heap HH.out)).trans HH.out); replace HB := Lib.hid (below_on HB.out hb); obtain ⟨⟨z0, z1, z2, z3, z4, z5, z6, z7⟩, fz, ylt⟩ := eight_cellsF HH.out; clear hb)
              refine bodyPost_ret (fd_ret rfl rfl (set_eightF HH.out)) rfl ?_
              rw [← HQ.out]
              exact FdRet.no HE.out HZ.out (eight_below HB.out (Nat.le_refl _))
          · obtain ⟨e, he⟩ : ∃ e, msE s p5 = e := ⟨_, rfl⟩
            rw [if_neg hf, he] at hE
            have HF := Lib.hid (fun W => rms_no s p5 e hs hp5r he W)
            rw [he] at hf
            have hne : (e != 0) = true := by simpa using hf
            have HE := Lib.hid hE
            have HZ := Lib.hid hf
            clear hE he hf
            go_wp2_with (go_at_call 38; refine (HF.out _).mono ?_; rintro r w5 ⟨A5, n5, c5, p5, rfl, hb⟩; replace HH := Lib.hid ((hb.block _ (lt_heap HH.out)).trans HH.out); replace HB := Lib.hid (below_on HB.out hb); obtain ⟨⟨z0, z1, z2, z3, z4, z5, z6, z7⟩, fz, ylt⟩ := eight_cellsF HH.out; clear hb)
            refine bodyPost_ret (fd_ret rfl rfl (set_eightF HH.out)) rfl ?_
            rw [← HQ.out]
            exact FdRet.no HE.out HZ.out (eight_below HB.out (Nat.le_refl _))
        · obtain ⟨e, he⟩ : ∃ e, lkE (nuC s) nuN (nuE s) p8 m = e := ⟨_, rfl⟩
          rw [if_neg hi, he] at hE
          have HN := Lib.hid (fun W => ris_no s p8 e m hs hp8r (by omega) he W)
          rw [he] at hi
          have hne : (e != 0) = true := by simpa using hi
          have HE := Lib.hid hE
          have HZ := Lib.hid hi
          clear hE he hi
          go_wp2_with (go_at_call 36; refine (HN.out _).mono ?_; rintro r w4 ⟨A4, n4, c4, p4, rfl, hb⟩; replace HH := Lib.hid ((hb.block _ (lt_heap HH.out)).trans HH.out); replace HB := Lib.hid (below_on HB.out hb); obtain ⟨⟨z0, z1, z2, z3, z4, z5, z6, z7⟩, fz, ylt⟩ := eight_cellsF HH.out; clear hb)
          refine bodyPost_ret (fd_ret rfl rfl (set_eightF HH.out)) rfl ?_
          rw [← HQ.out]
          exact FdRet.no HE.out HZ.out (eight_below HB.out (Nat.le_refl _))
      · obtain ⟨e, he⟩ : ∃ e, cuE s p6 8 = e := ⟨_, rfl⟩
        have his : isE s p6 = e := by unfold isE; rw [if_neg hc, he]
        rw [his, if_neg (by rw [← he]; exact hc)] at hE
        have HC := Lib.hid (fun W => rc_no s p6 8 e hs hpr (by omega) he (by rw [← he]; exact hc) W)
        rw [he] at hc
        have hne : (e != 0) = true := by simpa using hc
        have HE := Lib.hid hE
        have HZ := Lib.hid hc
        clear hE he hc his
        go_wp2_with (go_at_call 37; refine (HC.out _).mono ?_; rintro r w3 ⟨rfl, rfl⟩; obtain ⟨⟨z0, z1, z2, z3, z4, z5, z6, z7⟩, fz, ylt⟩ := eight_cellsF HH.out)
        refine bodyPost_ret (fd_ret rfl rfl (set_eightF HH.out)) rfl ?_
        rw [← HQ.out]
        exact FdRet.no HE.out HZ.out (eight_below HB.out (Nat.le_refl _))
    · have HT := Lib.hid (fun W => rthree_no s q hs ⟨hq0, hq1⟩ h3 W)
      unfold bdE at hE
      rw [if_neg h3] at hE
      have HE := Lib.hid hE
      clear hE h3
      go_wp2_with (go_at_call 36; refine (HT.out _).mono ?_; rintro r w2 ⟨A2, n2, c2, p2, rfl, hb⟩; replace HH := Lib.hid ((hb.block _ (lt_heap HH.out)).trans HH.out); replace HB := Lib.hid (below_on HB.out hb); obtain ⟨⟨z0, z1, z2, z3, z4, z5, z6, z7⟩, fz, ylt⟩ := eight_cellsF HH.out; clear hb)
      refine bodyPost_ret (fd_ret rfl rfl (set_eightF HH.out)) rfl ?_
      rw [← HQ.out]
      exact FdRet.no HE.out (by decide) (eight_below HB.out (Nat.le_refl _))
  · obtain ⟨e, he⟩ : ∃ e, deE s 6 = e := ⟨_, rfl⟩
    rw [if_neg hd, he] at hE
    have HD := Lib.hid (fun W => rp_no s 6 e hs he W)
    rw [he] at hd
    have hne : (e != 0) = true := by simpa using hd
    have HE := Lib.hid hE
    have HZ := Lib.hid hd
    clear hE he hd
    go_enter Tryz.func11, Tryz.ntmps11
    go_wp2_with (go_at_call 35; refine (HD.out _).mono ?_; rintro r w1 ⟨A1, n1, c1, p1, rfl, hb⟩; have HH := Lib.hid (first_box hb); have HB := Lib.hid (below_on (w := w) (below_al (Below.refl _ _) _) hb); obtain ⟨⟨z0, z1, z2, z3, z4, z5, z6, z7⟩, fz, ylt⟩ := eight_cellsF HH.out; clear hb)
    refine bodyPost_ret (fd_ret rfl rfl (set_eightF HH.out)) rfl ?_
    rw [← HQ.out]
    exact FdRet.no HE.out HZ.out (eight_below HB.out (Nat.le_refl _))

theorem rfdec_any (s : ByteArray) (w : World) : Calls Tryz.prog 11 #[.string s] w (FdRet w s) := by
  by_cases h : 1048576 < s.size
  · exact rfd_big s h w
  · by_cases h6 : s.size < 6
    · exact rfd_short s h6 w
    · by_cases h2 : Lib.hasPrefix s.data.toList hdB.data.toList = true
      · exact rfd_main s h (by omega) h2 w
      · exact rfd_head s h (by omega) h2 w

end Go.Proofs.YthfegbhbokhlkaaGreatDoor
