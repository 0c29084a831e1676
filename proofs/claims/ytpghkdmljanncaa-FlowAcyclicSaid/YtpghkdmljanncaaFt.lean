/- Layer 19: the reference's Successors. -/
import Derived.Test.YtpghkdmljanncaaFq
namespace Go.Proofs.Ytpghkdmljanncaa
open Go.ChangeShapes Go.WideShapes Go.ChangeAt Go.RowKit Go.PlainAid
set_option linter.unusedSimpArgs false
set_option linter.unusedVariables false

set_option maxRecDepth 100000 in
set_option maxHeartbeats 4000000 in
theorem rsc_any (c : Cd) (x : Int) (w : World) (hok : c.ok w) (h9 : ∀ i ∈ c.is, i.tn ≤ 900000) : Calls Try.prog 34 #[(Value.agg #[Value.int IntKind.i64 (Cd.st c), Value.int IntKind.i64 (Cd.lo c), Value.slice (Cd.iA c) (Cd.n c) (Cd.ic c), Value.slice (Cd.hA c) (Cd.hn c) (Cd.hc c), Value.slice (Cd.mA c) (Cd.mn c) (Cd.mc c), Value.slice (Cd.lA c) (Cd.ln c) (Cd.lc c)]), .int .i64 x] w (IntsRet w (scL c x)) := by
  have hB : Below w.heap.size w w := Below.refl _ _
  have OK := Lib.hid hok
  clear hok
  cases hex : exB c.n x with
  | false =>
    have HX := Lib.hid hex
    have HS := Lib.hid (scL_no hex)
    clear hex
    go_enter Try.func34, Try.ntmps34
    go_upto_region 1 with fail
    have R := World.alloc_heap_new w (.cells #[.int .i64 c.st, .int .i64 c.lo, .slice c.iA c.n c.ic, .slice c.hA c.hn c.hc, .slice c.mA c.mn c.mc, .slice c.lA c.ln c.lc] 50)
    replace hB := below_al hB (.cells #[.int .i64 c.st, .int .i64 c.lo, .slice c.iA c.n c.ic, .slice c.hA c.hn c.hc, .slice c.mA c.mn c.mc, .slice c.lA c.ln c.lc] 50)
    generalize w.alloc (.cells #[.int .i64 c.st, .int .i64 c.lo, .slice c.iA c.n c.ic, .slice c.hA c.hn c.hc, .slice c.mA c.mn c.mc, .slice c.lA c.ln c.lc] 50) = W1 at R hB ⊢
    obtain ⟨r0, r1, r2, r3, r4, r5⟩ := six_cells R
    have y1 := lt_heap R
    replace R := Lib.hid R
    go_upto_region 2 with fail
    have HV := Lib.hid (rowV_lit W1)
    have HB := Lib.hid (below_al hB (.cells #[] 3))
    go_wp2_with (go_at_call 72; (with_reducible refine (is_gen _ _).mono ?_); rintro e w1 ⟨rfl, hb1⟩; rw [HX.out])
    go_ret
    rw [HS.out]
    exact (HV.out.up hb1).ret (below_on HB.out hb1)
  | true =>
    obtain ⟨hx0, hx1⟩ := ex_iff.1 hex
    have HX := Lib.hid hex
    obtain ⟨i, hi⟩ := get_someF (l := c.is) (k := x.toNat) (by rw [OK.out.il]; omega)
    have HS := Lib.hid (scL_yes hi hex)
    have HIM := Lib.hid (List.mem_of_getElem? hi)
    have HI := Lib.hid hi
    clear hex
    obtain ⟨k, rfl⟩ : ∃ k : Nat, x = (k : Int) := ⟨x.toNat, by omega⟩
    rw [Int.toNat_natCast] at hi HI
    have hcn := OK.out.ib
    have hw1 : IntKind.i64.wrap ((k : Int) + 1) = (k : Int) + 1 := by simp [IntKind.wrap, IntKind.bits, IntKind.signed]; omega
    go_enter Try.func34, Try.ntmps34
    go_upto_region 1 with fail
    have R := World.alloc_heap_new w (.cells #[.int .i64 c.st, .int .i64 c.lo, .slice c.iA c.n c.ic, .slice c.hA c.hn c.hc, .slice c.mA c.mn c.mc, .slice c.lA c.ln c.lc] 50)
    replace hB := below_al hB (.cells #[.int .i64 c.st, .int .i64 c.lo, .slice c.iA c.n c.ic, .slice c.hA c.hn c.hc, .slice c.mA c.mn c.mc, .slice c.lA c.ln c.lc] 50)
    generalize w.alloc (.cells #[.int .i64 c.st, .int .i64 c.lo, .slice c.iA c.n c.ic, .slice c.hA c.hn c.hc, .slice c.mA c.mn c.mc, .slice c.lA c.ln c.lc] 50) = W1 at R hB ⊢
    obtain ⟨r0, r1, r2, r3, r4, r5⟩ := six_cells R
    have y1 := lt_heap R
    replace R := Lib.hid R
    go_upto_region 2 with fail
    have HV := Lib.hid (rowV_lit W1)
    have HB := Lib.hid (below_al hB (.cells #[] 3))
    have HR := Lib.hid (laid_old R.out : (W1.alloc (.cells #[] 3)).heap[w.heap.size]? = _)
    generalize hvv : Value.slice (some ⟨W1.heap.size, 0, none⟩) 0 0 = v0 at HV ⊢
    generalize W1.alloc (.cells #[] 3) = W2 at HV HB HR ⊢
    clear r0 r1 r2 r3 r4 r5 y1 R hB hvv
    clear W1
    obtain ⟨r0, r1, r2, r3, r4, r5⟩ := six_cells HR.out
    have yr := lt_heap HR.out
    go_upto_region 4 with (go_at_call 72; (with_reducible refine (is_gen _ _).mono ?_); rintro e w1 ⟨rfl, hb1⟩; rw [HX.out])
    have HR1 := Lib.hid ((hb1.block _ yr).trans HR.out)
    have HV1 := Lib.hid (HV.out.up hb1)
    have HB1 := Lib.hid (below_on HB.out hb1)
    have OK1 := Lib.hid (OK.out.up HB1.out)
    clear r0 r1 r2 r3 r4 r5 yr hb1 HR HV HB
    clear W2
    obtain ⟨r0, r1, r2, r3, r4, r5⟩ := six_cells HR1.out
    have yr := lt_heap HR1.out
    obtain ⟨A, hA⟩ : ∃ A, c.iA = A := ⟨_, rfl⟩
    have HA := Lib.hid hA
    rcases OK1.out.iw with h0 | ⟨g, o, hA2, hg, hcell⟩
    · rw [h0] at hi; simp at hi
    · obtain ⟨iok, a0, a1, a2, a3, a4, a5, a6, a7, a8, a9⟩ := hcell k _ hi
      have IOK := Lib.hid iok
      have hnz := OK.out.nz i HIM.out
      have htn := OK.out.tn i HIM.out
      have HNT := Lib.hid (And.intro hnz htn)
      obtain rfl : A = some ⟨g, o, none⟩ := hA.symm.trans hA2
      rw [hA] at r2
      clear hcell iok hi hA hA2 hnz htn
      go_upto_region 5 with (go_at_call 20; refine (rtg_any i _ IOK.out HNT.out.1 HNT.out.2).mono ?_; intro e w2 hrt; obtain ⟨A3, c3, rfl, hl3, hm3, hn3, hr3, hb3⟩ := hrt)
      have HRT := Lib.hid hr3
      have HR2 := Lib.hid ((hb3.block _ yr).trans HR1.out)
      have HV2 := Lib.hid (HV1.out.up hb3)
      have HB2 := Lib.hid (below_on HB1.out hb3)
      have hA0 := hb3.cell (p := ⟨g, o + k * 10, none⟩) hg
      have hgz : g < w2.heap.size := Nat.lt_of_lt_of_le hg hb3.size
      rw [a0] at hA0
      have HA0 := Lib.hid hA0
      have htl : i.ts.length ≤ 900000 := by have := h9 i HIM.out; have := IOK.out.2.2.2.2.1; omega
      clear r0 r1 r2 r3 r4 r5 yr a0 a1 a2 a3 a4 a5 a6 a7 a8 a9 hr3 hb3 HR1 HV1 HB1 OK1 IOK hg hA0
      clear w1
      have htt : (tgL i).length ≤ 900001 := by
        unfold tgL
        split
        · simp; omega
        · simp
      obtain ⟨T, hT⟩ : ∃ T, tgL i = T := ⟨_, rfl⟩
      rw [hT] at htt HRT hl3
      have HT := Lib.hid hT
      rw [hT]
      obtain ⟨tn, htn⟩ : ∃ tn, T.length = tn := ⟨_, rfl⟩
      have HTN := Lib.hid htn
      rw [htn] at htt hl3 ⊢
      clear hT htn
      go_wp2
      go_loopw [5, 7] (fun v z wr => ∃ j : Nat, j ≤ tn ∧ z = .int .i64 j ∧ RowV wr (ordL ((T.take j).filter (exB c.n))) v ∧ Below w2.heap.size w2 wr) (fun _ z _ => tn - (intOf z).toNat)
      case atStart => exact ⟨0, Nat.zero_le _, rfl, by rw [List.take_zero, List.filter_nil, ord_self List.Pairwise.nil]; exact HV2.out, Below.refl _ _⟩
      case round =>
        clear HV2
        obtain ⟨j, hj, rfl, hv, hbw⟩ := hrel
        have HV := Lib.hid hv
        have HBW := Lib.hid hbw
        have hln : (ordL ((T.take j).filter (exB c.n))).length ≤ 1000000 := Nat.le_trans (ordL_len _) (Nat.le_trans (List.length_filter_le _ _) (by rw [List.length_take, HTN.out]; omega))
        have HRr := Lib.hid ((hbw.block _ (lt_heap HR2.out)).trans HR2.out)
        have HTr := Lib.hid (HRT.out.up hbw)
        obtain ⟨r0, r1, r2, r3, r4, r5⟩ := six_cells HRr.out
        have yr := lt_heap HRr.out
        rw [HA.out] at r2
        clear hv hbw
        by_cases hjt : j < tn
        · obtain ⟨t, ht⟩ := get_someF (l := T) (k := j) (by rw [HTN.out]; exact hjt)
          obtain ⟨gt, ot, rfl, hgt, hct⟩ := row_get HTr.out ht
          have hj0 : (0 : Int) ≤ (j : Int) := by omega
          have hj1 : (j : Int) < (tn : Int) := by omega
          have HTJ := Lib.hid ht
          clear ht
          cases hex : exB c.n t with
          | false =>
            have HET := Lib.hid hex
            clear hex
            go_wp2
            go_region_law (first | (go_simp; go_at_call 72; (with_reducible refine (is_gen _ _).mono ?_); rintro e w3 ⟨rfl, hb3⟩; rw [HET.out]))
            all_goals go_wp2
            all_goals exact ⟨⟨j + 1, hjt, by go_num, by rw [filter_snoc HTJ.out, HET.out]; simp only [Bool.false_eq_true, if_false, List.append_nil]; first | exact HV.out.up hb3 | exact HV.out.up (below_drew hb3), by first | exact below_on HBW.out hb3 | exact below_on HBW.out (below_drew hb3)⟩, by simp [intOf]; omega⟩
          | true =>
            have HET := Lib.hid hex
            clear hex
            go_wp2
            go_region_law (first | (go_simp; go_at_call 72; (with_reducible refine (is_gen _ _).mono ?_); rintro e w3 ⟨rfl, hb3⟩; rw [HET.out]))
            all_goals
              have hb3' : Below wr.heap.size wr w3 := by first | exact hb3 | exact below_drew hb3
              have HV3 := Lib.hid (HV.out.up hb3')
              have HB3 := Lib.hid (below_on HBW.out hb3')
              have hct3 := hb3'.cell (p := ⟨gt, ot + j, none⟩) hgt
              rw [hct] at hct3
              have hgt3 : gt < w3.heap.size := Nat.lt_of_lt_of_le hgt hb3'.size
              clear hb3 hb3'
              go_wp2_with (go_at_call 73; refine (addv_any t HV3.out hln (ordL_spec _).1).mono ?_; intro e w4 hra; obtain ⟨v4, rfl, hv4, hb4⟩ := hra.get; clear hra)
              exact ⟨⟨j + 1, hjt, by go_num, by rw [filter_snoc HTJ.out, HET.out]; simp only [if_true]; rw [← ord_snoc]; exact hv4, below_on HB3.out hb4⟩, by simp [intOf]; omega⟩
        · obtain ⟨rfl⟩ : tn = j := by omega
          have HVT := Lib.hid (show RowV wr (ordL ((tgL i).filter (exB c.n))) _ by have := HV.out; rw [List.take_of_length_le (by rw [HTN.out]; exact Nat.le_refl _)] at this; rw [HT.out]; exact this)
          have hll : (ordL ((tgL i).filter (exB c.n))).length ≤ 1000000 := by
            have := hln
            rw [List.take_of_length_le (by rw [HTN.out]; exact Nat.le_refl _)] at this
            rw [HT.out]; exact this
          have ha0 := HBW.out.cell (p := ⟨g, o + k * 10, none⟩) hgz
          rw [HA0.out] at ha0
          have hgr : g < wr.heap.size := Nat.lt_of_lt_of_le hgz HBW.out.size
          have HBB := Lib.hid (below_on HB2.out HBW.out)
          cases hT : termB i.op with
          | true =>
            have HTM := Lib.hid hT
            have HNL := Lib.hid (show nxL c.n i k = (tgL i).filter (exB c.n) by unfold nxL; rw [hT]; simp)
            clear hT
            go_wp2_with (go_at_call 74; refine (rterm_any _ _).mono ?_; rintro e w' ⟨rfl, rfl⟩; rw [HTM.out])
            go_ret
            rw [HS.out, HNL.out]
            exact HVT.out.ret HBB.out
          | false =>
            have HTM := Lib.hid hT
            cases hE : exB c.n ((k : Int) + 1) with
            | false =>
              have HE := Lib.hid hE
              have HNL := Lib.hid (show nxL c.n i k = (tgL i).filter (exB c.n) by unfold nxL; rw [hE]; simp)
              clear hT hE
              go_wp2_with (first | (go_at_call 74; refine (rterm_any _ _).mono ?_; rintro e w' ⟨rfl, rfl⟩; rw [HTM.out]) | (go_at_call 72; (with_reducible refine (is_gen _ _).mono ?_); rintro e w3 ⟨rfl, hb3⟩; rw [HE.out]))
              go_ret
              rw [HS.out, HNL.out]
              exact (HVT.out.up hb3).ret (below_on HBB.out hb3)
            | true =>
              have HE := Lib.hid hE
              have HNL := Lib.hid (show nxL c.n i k = (tgL i).filter (exB c.n) ++ [(k : Int) + 1] by unfold nxL; rw [hE, hT]; simp)
              clear hT hE
              go_wp2_with (first | (go_at_call 74; refine (rterm_any _ _).mono ?_; rintro e w' ⟨rfl, rfl⟩; rw [HTM.out]) | (go_at_call 72; (with_reducible refine (is_gen _ _).mono ?_); rintro e w3 ⟨rfl, hb3⟩; rw [HE.out]; have HV3 := Lib.hid (HVT.out.up hb3); have HB3 := Lib.hid (below_on HBB.out hb3); clear hb3) | (go_at_call 73; refine (addv_any ((k : Int) + 1) HV3.out hll (ordL_spec _).1).mono ?_; intro e w4 hra; obtain ⟨v4, rfl, hv4, hb4⟩ := hra.get; clear hra))
              go_ret
              rw [HS.out, HNL.out, ← ord_snoc]
              exact hv4.ret (below_on HB3.out hb4)

end Go.Proofs.Ytpghkdmljanncaa
