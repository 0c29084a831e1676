/- Layer 9: BranchTargets of the reference. -/
import Derived.Test.YtdppooflbjlbcaaDoorCa
namespace Go.Proofs.YtdppooflbjlbcaaDoor.I
open Go.ChangeShapes Go.WideShapes Go.ChangeAt Go.RowKit Go.PlainAid
set_option linter.unusedSimpArgs false
set_option linter.unusedVariables false

theorem ex_no {n : Nat} {t : Int} (h : ¬ (0 ≤ t ∧ t < n)) : exB n t = false := by unfold exB; exact decide_eq_false h
set_option maxRecDepth 100000 in
set_option maxHeartbeats 4000000 in
theorem rbt_any (c : Cd) (w : World) (hok : c.c9 w) : Calls Tryd.prog 14 #[(Value.agg #[Value.int IntKind.i64 (Cd.st c), Value.int IntKind.i64 (Cd.lo c), Value.slice (Cd.iA c) (Cd.n c) (Cd.ic c), Value.slice (Cd.hA c) (Cd.hn c) (Cd.hc c), Value.slice (Cd.mA c) (Cd.mn c) (Cd.mc c), Value.slice (Cd.lA c) (Cd.ln c) (Cd.lc c)])] w (MarksRet w c.n (btL c)) := by
  have hB : Below w.heap.size w w := Below.refl _ _
  have OK := Lib.hid hok
  have hcn := hok.ib
  have hhb := hok.hb
  have HBT := Lib.hid (show btL c = mkS c.n (List.replicate c.n false) (c.is.flatMap tgL ++ c.hs.map Hd.g) from rfl)
  clear hok
  go_enter Tryd.func14, Tryd.ntmps14
  go_upto_region 1 with fail
  have R := World.alloc_heap_new w (.cells #[.int .i64 c.st, .int .i64 c.lo, .slice c.iA c.n c.ic, .slice c.hA c.hn c.hc, .slice c.mA c.mn c.mc, .slice c.lA c.ln c.lc] 27)
  replace hB := below_al hB (.cells #[.int .i64 c.st, .int .i64 c.lo, .slice c.iA c.n c.ic, .slice c.hA c.hn c.hc, .slice c.mA c.mn c.mc, .slice c.lA c.ln c.lc] 27)
  generalize w.alloc (.cells #[.int .i64 c.st, .int .i64 c.lo, .slice c.iA c.n c.ic, .slice c.hA c.hn c.hc, .slice c.mA c.mn c.mc, .slice c.lA c.ln c.lc] 27) = W1 at R hB ⊢
  obtain ⟨r0, r1, r2, r3, r4, r5⟩ := six_cells R
  have y1 := lt_heap R
  replace R := Lib.hid R
  have OK1 := Lib.hid (OK.out.up hB)
  have HB := Lib.hid hB
  clear hB
  obtain ⟨i0, hi, hz0, hz1, hz2⟩ := info_parts infoB
  obtain ⟨Wm, hmk, hown, hgr⟩ := run_makeSlice_full (P := Tryd.prog) W1 W1.heap.size 30 4 i0 (.bool false) 1 Tryd.underlying30 hi hz0 hz1 .i64 .i64 c.n (by omega) (by rw [hz2]; omega) (by unfold maxLen; omega) (Nat.le_refl _)
  rw [made_rb] at hown
  have hbm := grown_below hgr (fun k hk => by cases hk) (Nat.le_refl W1.heap.size)
  have HM0 := Lib.hid (show Mk W1 Wm c.n (List.replicate c.n false) from ⟨hown, hbm⟩)
  clear hown hgr hi hz0 hz1 hz2
  obtain ⟨A, hA⟩ : ∃ A, c.iA = A := ⟨_, rfl⟩
  have HA := Lib.hid hA
  obtain ⟨A9, hA9⟩ : ∃ A, c.hA = A := ⟨_, rfl⟩
  have HA9 := Lib.hid hA9
  rw [hA] at r2
  clear hA hA9
  go_upto_region 2 with fail
  clear hmk r0 r1 r2 r3 r4 r5
  clear hbm
  go_wp2
  go_loopw [4] (fun z wr => ∃ (k : Nat) (M : List Bool), k ≤ c.n ∧ z = .int .i64 k ∧ Mk W1 wr c.n M ∧ M = mkS c.n (List.replicate c.n false) ((c.is.take k).flatMap tgL)) (fun z _ => c.n - (intOf z).toNat)
  case atStart => exact ⟨0, _, Nat.zero_le _, rfl, HM0.out, rfl⟩
  case round =>
    clear HM0
    obtain ⟨k, M, hk, rfl, hm, hM⟩ := hrel
    have HM := Lib.hid hm
    have HME := Lib.hid hM
    have OKr := Lib.hid (OK1.out.up hm.bel)
    have hiw := OKr.out.iw
    rw [HA.out] at hiw
    have RBr := Lib.hid ((hm.bel.block _ y1).trans R.out)
    obtain ⟨r0, r1, r2, r3, r4, r5⟩ := six_cells RBr.out
    have yr := lt_heap RBr.out
    rw [HA.out] at r2
    clear hm hM
    by_cases hlt : k < c.n
    · obtain ⟨i, hi⟩ := get_someF (l := c.is) (k := k) (by rw [OKr.out.il]; exact hlt)
      rcases hiw with h0 | ⟨g, o, rfl, hg, hcell⟩
      · rw [h0] at hi; simp at hi
      · obtain ⟨iok, a0, a1, a2, a3, a4, a5, a6, a7, a8, a9⟩ := hcell k _ hi
        have HFS := Lib.hid (flat_snoc hi)
        have HIM := Lib.hid (List.mem_of_getElem? hi)
        have hk0 : (0 : Int) ≤ (k : Int) := by omega
        have hk1 : (k : Int) < (c.n : Int) := by omega
        have IOK2 := Lib.hid iok
        clear hcell iok hi
        go_upto_region 6 with (go_at_call 39; refine (rtg_any i _ IOK2.out (OK.out.nz i HIM.out) (OK.out.tn i HIM.out)).mono ?_; rintro e W3 ⟨A3, c3, rfl, hl3, hm3, hn3, hr3, hb3⟩)
        have HM3 := Lib.hid (HM.out.up hb3)
        have HR3 := Lib.hid hr3
        clear hr3 a0 a1 a2 a3 a4 a5 a6 a7 a8 a9 hg r0 r1 r2 r3 r4 r5 yr IOK2 hb3 HM
        obtain ⟨T, hT⟩ : ∃ T, tgL i = T := ⟨_, rfl⟩
        have HT := Lib.hid hT
        rw [hT] at HR3 hl3 HFS
        rw [hT]
        obtain ⟨tn, htn⟩ : ∃ tn, T.length = tn := ⟨_, rfl⟩
        have HTN := Lib.hid htn
        rw [htn] at hl3 ⊢
        have htb : tn ≤ 9223372036854775807 := by have := hm3; unfold maxLen at this; omega
        clear hT htn
        go_wp2
        go_loopw [6] (fun z wr => ∃ (j : Nat) (M' : List Bool), j ≤ tn ∧ z = .int .i64 j ∧ Mk W1 wr c.n M' ∧ M' = mkS c.n M (T.take j) ∧ Row wr wr.heap.size A3 T) (fun z _ => tn - (intOf z).toNat)
        case atStart => exact ⟨0, _, Nat.zero_le _, rfl, HM3.out, rfl, HR3.out⟩
        case round =>
          clear HM3 HR3
          obtain ⟨j, M', hj, rfl, hm, hM', hrow⟩ := hrel
          have HM := Lib.hid hm
          have HME' := Lib.hid hM'
          have HROW := Lib.hid hrow
          clear hm hM'
          by_cases hjt : j < tn
          · obtain ⟨t, ht⟩ := get_someF (l := T) (k := j) (by rw [HTN.out]; exact hjt)
            obtain ⟨gt, ot, rfl, hgt, hct⟩ := row_get hrow ht
            have hj0 : (0 : Int) ≤ (j : Int) := by omega
            have hj1 : (j : Int) < (tn : Int) := by omega
            have HTJ := Lib.hid (take_snocF ht)
            clear ht hrow
            by_cases ht0 : 0 ≤ t
            · by_cases ht1 : t < c.n
              · obtain ⟨tt, rfl⟩ : ∃ tt : Nat, t = (tt : Int) := ⟨t.toNat, by omega⟩
                have HET := Lib.hid (ex_iff.2 ⟨ht0, ht1⟩)
                obtain ⟨bb, hbb⟩ := get_someF (l := M') (k := tt) (by rw [HM.out.len]; omega)
                have hcb := HM.out.cell hbb
                have hfz := HM.out.own.frozenAt tt
                have hsz := HM.out.sz
                clear hbb
                go_wp2
                refine ⟨⟨j + 1, _, hjt, by go_num, HM.out.put tt true, by rw [HTJ.out, mkS_app, ← HME'.out, mkS_one, HET.out, if_pos rfl, Int.toNat_natCast], ?_⟩, by simp [intOf]; omega⟩
                have := HROW.out.mkput HM.out tt true
                exact this.more (by simp)
              · have HET := Lib.hid (ex_no (n := c.n) (t := t) (fun e => ht1 e.2))
                go_wp2
                exact ⟨⟨j + 1, M', hjt, by go_num, HM.out, by rw [HTJ.out, mkS_app, ← HME'.out, mkS_one, HET.out]; rfl, HROW.out⟩, by simp [intOf]; omega⟩
            · have HET := Lib.hid (ex_no (n := c.n) (t := t) (fun e => ht0 e.1))
              go_wp2
              exact ⟨⟨j + 1, M', hjt, by go_num, HM.out, by rw [HTJ.out, mkS_app, ← HME'.out, mkS_one, HET.out]; rfl, HROW.out⟩, by simp [intOf]; omega⟩
          · obtain ⟨rfl⟩ : tn = j := by omega
            have hMM : M' = mkS c.n (List.replicate c.n false) ((c.is.take (k + 1)).flatMap tgL) := by
              rw [HFS.out, mkS_app, ← HME.out, HME'.out, List.take_of_length_le (by rw [HTN.out]; exact Nat.le_refl _)]
            clear hrow
            go_wp2
            exact ⟨⟨k + 1, M', hlt, by go_num, HM.out, hMM⟩, by simp [intOf]; omega⟩
    · obtain ⟨hnk⟩ : c.n = k := by omega
      have HME2 := Lib.hid (show M = mkS c.n (List.replicate c.n false) (c.is.flatMap tgL) by rw [HME.out, List.take_of_length_le (by rw [OK.out.il]; exact Nat.le_refl _)])
      clear hiw
      go_upto_region 12 with fail
      clear r0 r1 r2 r3 r4 r5 yr RBr
      go_loopw [7] (fun z wr => ∃ (j : Nat) (M' : List Bool), j ≤ c.hn ∧ z = .int .i64 j ∧ Mk W1 wr c.n M' ∧ M' = mkS c.n M ((c.hs.take j).map Hd.g)) (fun z _ => c.hn - (intOf z).toNat)
      case atStart => exact ⟨0, _, Nat.zero_le _, rfl, HM.out, rfl⟩
      case round =>
        clear HM
        obtain ⟨j, M', hj, rfl, hm, hM'⟩ := hrel
        have HM := Lib.hid hm
        have HME' := Lib.hid hM'
        have hhw := OK1.out.hw.up hm.bel
        rw [HA9.out] at hhw
        have RBr := Lib.hid ((hm.bel.block _ y1).trans R.out)
        obtain ⟨r0, r1, r2, r3, r4, r5⟩ := six_cells RBr.out
        have yr := lt_heap RBr.out
        rw [HA9.out] at r3
        clear hm hM'
        by_cases hlt : j < c.hn
        · obtain ⟨h, hh⟩ := get_someF (l := c.hs) (k := j) (by rw [OK1.out.hl]; exact hlt)
          rcases hhw with h0 | ⟨g, o, rfl, hg, hcell⟩
          · rw [h0] at hh; simp at hh
          · obtain ⟨a0, a1, a2, a3, a4⟩ := hcell j h hh
            have HTJ := Lib.hid (mapg_snoc hh)
            have hj0 : (0 : Int) ≤ (j : Int) := by omega
            have hj1 : (j : Int) < (c.hn : Int) := by omega
            clear hcell hh
            obtain ⟨t, ht⟩ : ∃ t, h.g = t := ⟨_, rfl⟩
            have HT := Lib.hid ht
            rw [ht] at a2
            clear ht
            by_cases ht0 : 0 ≤ t
            · by_cases ht1 : t < c.n
              · obtain ⟨tt, rfl⟩ : ∃ tt : Nat, t = (tt : Int) := ⟨t.toNat, by omega⟩
                have HET := Lib.hid (ex_iff.2 ⟨ht0, ht1⟩)
                obtain ⟨bb, hbb⟩ := get_someF (l := M') (k := tt) (by rw [HM.out.len]; omega)
                have hcb := HM.out.cell hbb
                have hfz := HM.out.own.frozenAt tt
                have hsz := HM.out.sz
                clear hbb
                go_wp2
                exact ⟨⟨j + 1, _, hlt, by go_num, HM.out.put tt true, by rw [HTJ.out, mkS_app, ← HME'.out, mkS_one, HT.out, HET.out, if_pos rfl, Int.toNat_natCast]⟩, by simp [intOf]; omega⟩
              · have HET := Lib.hid (ex_no (n := c.n) (t := t) (fun e => ht1 e.2))
                go_wp2
                exact ⟨⟨j + 1, M', hlt, by go_num, HM.out, by rw [HTJ.out, mkS_app, ← HME'.out, mkS_one, HT.out, HET.out]; rfl⟩, by simp [intOf]; omega⟩
            · have HET := Lib.hid (ex_no (n := c.n) (t := t) (fun e => ht0 e.1))
              go_wp2
              exact ⟨⟨j + 1, M', hlt, by go_num, HM.out, by rw [HTJ.out, mkS_app, ← HME'.out, mkS_one, HT.out, HET.out]; rfl⟩, by simp [intOf]; omega⟩
        · obtain ⟨hnj⟩ : c.hn = j := by omega
          have hfin : M' = btL c := by
            rw [HBT.out, mkS_app, ← HME2.out, HME'.out, List.take_of_length_le (by rw [OK.out.hl]; exact Nat.le_refl _)]
          go_wp2
          go_ret
          rw [← hfin]
          exact mkR HM.out HB.out

end Go.Proofs.YtdppooflbjlbcaaDoor.I
