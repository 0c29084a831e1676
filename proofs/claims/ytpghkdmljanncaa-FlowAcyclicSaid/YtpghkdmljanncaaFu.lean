/- Layer 19: the reference's Edges; few. -/
import Derived.Test.YtpghkdmljanncaaFt
namespace Go.Proofs.Ytpghkdmljanncaa
open Go.ChangeShapes Go.WideShapes Go.ChangeAt Go.RowKit Go.PlainAid
set_option linter.unusedSimpArgs false
set_option linter.unusedVariables false

/-- small enough for the statements -/
structure Cd.few (c : Cd) : Prop where
  n : c.n ≤ 300
  hn : c.hn ≤ 40
  tn : ∀ i ∈ c.is, i.tn ≤ 100
theorem scL_few {c : Cd} {w : World} (h : c.ok w) (hf : c.few) (x : Int) : (scL c x).length ≤ 102 := by
  unfold scL
  cases hi : c.is[x.toNat]? with
  | none => simp
  | some i =>
    show (if _ then _ else _ : List Int).length ≤ _
    split
    · refine Nat.le_trans (ordL_len _) ?_
      have hm := List.mem_of_getElem? hi
      have htl : i.ts.length = i.tn := by
        obtain ⟨j, hj, he⟩ := List.getElem_of_mem hm
        rcases h.iw with h0 | ⟨g, o, hA, hg, hc⟩
        · rw [h0] at hm; cases hm
        · exact (hc j i (by rw [List.getElem?_eq_getElem hj, he])).1.2.2.2.2.1
      have ht : (tgL i).length ≤ 101 := by
        have := hf.tn i hm
        unfold tgL
        split
        · simp; omega
        · simp
      have h1 := List.length_filter_le (exB c.n) (tgL i)
      unfold nxL
      rw [List.length_append]
      split <;> simp <;> omega
    · simp
set_option maxRecDepth 100000 in
set_option maxHeartbeats 4000000 in
theorem red_any (c : Cd) (x : Int) (w : World) (hok : c.ok w) (hf : c.few) : Calls Try.prog 77 #[(Value.agg #[Value.int IntKind.i64 (Cd.st c), Value.int IntKind.i64 (Cd.lo c), Value.slice (Cd.iA c) (Cd.n c) (Cd.ic c), Value.slice (Cd.hA c) (Cd.hn c) (Cd.hc c), Value.slice (Cd.mA c) (Cd.mn c) (Cd.mc c), Value.slice (Cd.lA c) (Cd.ln c) (Cd.lc c)]), .int .i64 x] w (IntsRet w (edL c x)) := by
  have hB : Below w.heap.size w w := Below.refl _ _
  have OK := Lib.hid hok
  have h9 := Lib.hid (fun i (hi : i ∈ c.is) => show i.tn ≤ 900000 by have := hf.tn i hi; omega)
  have hsl := scL_few hok hf x
  have hhl := hdL_len c x
  have hhb := hf.hn
  clear hok
  have HED := Lib.hid (show edL c x = ordL (scL c x ++ (hdL c x).map (tgtV c)) from rfl)
  have HSO := Lib.hid (show (scL c x).Pairwise (· < ·) by
    unfold scL
    cases c.is[x.toNat]? with
    | none => exact List.Pairwise.nil
    | some i =>
      show (if _ then _ else _ : List Int).Pairwise _
      split
      · exact (ordL_spec _).1
      · exact List.Pairwise.nil)
  go_enter Try.func77, Try.ntmps77
  go_upto_region 1 with fail
  have R := World.alloc_heap_new w (.cells #[.int .i64 c.st, .int .i64 c.lo, .slice c.iA c.n c.ic, .slice c.hA c.hn c.hc, .slice c.mA c.mn c.mc, .slice c.lA c.ln c.lc] 50)
  replace hB := below_al hB (.cells #[.int .i64 c.st, .int .i64 c.lo, .slice c.iA c.n c.ic, .slice c.hA c.hn c.hc, .slice c.mA c.mn c.mc, .slice c.lA c.ln c.lc] 50)
  generalize w.alloc (.cells #[.int .i64 c.st, .int .i64 c.lo, .slice c.iA c.n c.ic, .slice c.hA c.hn c.hc, .slice c.mA c.mn c.mc, .slice c.lA c.ln c.lc] 50) = W1 at R hB ⊢
  obtain ⟨r0, r1, r2, r3, r4, r5⟩ := six_cells R
  have y1 := lt_heap R
  replace R := Lib.hid R
  have OK1 := Lib.hid (OK.out.up hB)
  have HB := Lib.hid hB
  have HR1 := Lib.hid R.out
  go_upto_region 2 with (go_at_call 34; (with_reducible refine (rsc_any c _ _ OK1.out h9.out).mono ?_); intro e w1 hra; obtain ⟨v, rfl, hv1, hb1⟩ := hra.get; clear hra)
  have HV1 := Lib.hid hv1
  have HB1 := Lib.hid (below_on hB hb1)
  have OK2 := Lib.hid (OK1.out.up hb1)
  have HR2 := Lib.hid ((hb1.block _ y1).trans R.out)
  clear r0 r1 r2 r3 r4 r5 y1 R hB hv1 hb1 HB HR1 OK1
  clear W1
  obtain ⟨r0, r1, r2, r3, r4, r5⟩ := six_cells HR2.out
  have yr := lt_heap HR2.out
  obtain ⟨HH, hHH⟩ : ∃ HH, hdL c x = HH := ⟨_, rfl⟩
  have HHM := Lib.hid (fun r (hr : r ∈ HH) => hdL_mem (c := c) (x := x) (r := r) OK2.out (by rw [hHH]; exact hr))
  rw [hHH] at HED hhl
  have HHH := Lib.hid hHH
  clear hHH
  obtain ⟨m, hm⟩ : ∃ m, HH.length = m := ⟨_, rfl⟩
  have HM := Lib.hid hm
  rw [hm] at hhl
  clear hm
  go_upto_region 3 with (go_at_call 36; (with_reducible refine (rhd_any c _ _ OK2.out).mono ?_); rintro e w2 ⟨v2, rfl, ho2, hb2⟩; rw [HHH.out, HM.out] at ho2; obtain ⟨A3, c3, rfl, hc3, hm3, _⟩ := own_form ho2)
  have HRW := Lib.hid (Row.of_own ho2).1
  have HV2 := Lib.hid (HV1.out.up hb2)
  have HB2 := Lib.hid (below_on HB1.out hb2)
  have OK3 := Lib.hid (OK2.out.up hb2)
  have HR3 := Lib.hid ((hb2.block _ yr).trans HR2.out)
  clear r0 r1 r2 r3 r4 r5 yr ho2 hb2 HV1 HB1 OK2 HR2
  clear w1
  go_wp2
  go_loopw [5, 7] (fun v z wr => ∃ j : Nat, j ≤ m ∧ z = .int .i64 j ∧ RowV wr (ordL (scL c x ++ (HH.take j).map (tgtV c))) v ∧ Below w2.heap.size w2 wr) (fun _ z _ => m - (intOf z).toNat)
  case atStart => exact ⟨0, Nat.zero_le _, rfl, by rw [List.take_zero, List.map_nil, List.append_nil, ord_self HSO.out]; exact HV2.out, Below.refl _ _⟩
  case round =>
    clear HV2
    obtain ⟨j, hj, rfl, hv, hbw⟩ := hrel
    have HV := Lib.hid hv
    have HBW := Lib.hid hbw
    have hln : (ordL (scL c x ++ (HH.take j).map (tgtV c))).length ≤ 1000000 := Nat.le_trans (ordL_len _) (by rw [List.length_append, List.length_map, List.length_take]; omega)
    have HRr := Lib.hid ((hbw.block _ (lt_heap HR3.out)).trans HR3.out)
    have HTr := Lib.hid (HRW.out.up hbw)
    have OKr := Lib.hid (OK3.out.up hbw)
    obtain ⟨r0, r1, r2, r3, r4, r5⟩ := six_cells HRr.out
    have yr := lt_heap HRr.out
    clear hv hbw
    by_cases hlt : j < m
    · obtain ⟨r, hr⟩ := get_someF (l := HH) (k := j) (by rw [HM.out]; exact hlt)
      obtain ⟨jr, y, rfl, hjr, hy, _⟩ := HHM.out r (List.mem_of_getElem? hr)
      obtain ⟨gt, ot, rfl, hgt, hct⟩ := row_get HTr.out hr
      have HTG := Lib.hid (show tgtV c jr = y.g by unfold tgtV; rw [Int.toNat_natCast, hy])
      have HTK := Lib.hid (take_snocF hr)
      rcases OKr.out.hw with h0 | ⟨g, o, hA, hg, hcell⟩
      · rw [h0] at hy; simp at hy
      · obtain ⟨a0, a1, a2, a3, a4⟩ := hcell jr y hy
        rw [hA] at r3
        clear hA
        have hj0 : (0 : Int) ≤ (j : Int) := by omega
        have hj1 : (j : Int) < (m : Int) := by omega
        have hk0 : (0 : Int) ≤ (jr : Int) := by omega
        have hk1 : (jr : Int) < (c.hn : Int) := by omega
        have HADD := Lib.hid (fun W (hW : Below wr.heap.size wr W) => addv_any y.g (HV.out.up hW) hln (ordL_spec _).1)
        clear hcell hy hr a0 a1 a3 a4
        go_wp2
        go_region_law (first | (go_simp; go_at_call 73; first | (refine (HADD.out wr (Below.refl _ _)).mono ?_) | (refine (HADD.out wr.drew (below_dr (Below.refl _ _) 1)).mono ?_) | (refine (HADD.out (wr.drewN 1) (below_dr (Below.refl _ _) 1)).mono ?_) | (refine (HADD.out (wr.drewN 2) (below_dr (Below.refl _ _) 2)).mono ?_)); intro e w4 hra; obtain ⟨v4, rfl, hv4, hb4⟩ := hra.get; clear hra)
        all_goals
          have hb4' : Below wr.heap.size wr w4 := by first | exact hb4 | exact below_drew hb4 | exact ⟨hb4.os, hb4.tape, hb4.output, hb4.size, hb4.block⟩
          clear hb4
          go_wp2
          exact ⟨⟨j + 1, hlt, by go_num, by rw [HTK.out, List.map_append, ← List.append_assoc, List.map_cons, List.map_nil, ← ord_snoc]; rw [← HTG.out] at hv4; exact hv4, below_on HBW.out hb4'⟩, by simp [intOf]; omega⟩
    · obtain ⟨rfl⟩ : m = j := by omega
      have HF := Lib.hid (show scL c x ++ (HH.take m).map (tgtV c) = scL c x ++ HH.map (tgtV c) by rw [List.take_of_length_le (by rw [HM.out]; exact Nat.le_refl _)])
      go_wp2
      go_ret
      rw [HED.out, ← HF.out]
      exact HV.out.ret (below_on HB2.out HBW.out)

end Go.Proofs.Ytpghkdmljanncaa
