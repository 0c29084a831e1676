import Derived.Test.YtdppooflbjlbcaaDoorWiM
import Derived.Test.YtdppooflbjlbcaaDoorWmM
import Derived.BigQuiet

/- Wn -/
/- Layer 22: StackmapRequired. (Written by gen/wn.py.) -/
namespace Go.Proofs.YtdppooflbjlbcaaDoor.I
open Go.ChangeShapes Go.WideShapes Go.ChangeAt Go.RowKit Go.PlainAid
set_option linter.unusedSimpArgs false
set_option linter.unusedVariables false

theorem beq_run (b : Bool) (w : World) : (binOp .eql 4 (.bool b) (.bool b)).run Tryd.prog w = .ok (.bool true) w := by
  cases b <;> first | kernel_rfl | simp [go_sem]
/-- a row of numbers handed back -/
def RowRet (L : List Int) (ln : Nat) (w : World) (e : Ending) (w' : World) : Prop := ∃ A c, e = .returned (.slice A ln c) ∧ Row w' w'.heap.size A L ∧ Below w.heap.size w w'
theorem row_ret {w w' : World} {L : List Int} {ln : Nat} {e : Ending} (hl : L.length = ln) (h : IntsOwn w L e w') : RowRet L ln w e w' := by
  obtain ⟨v, rfl, ho, hb⟩ := h
  obtain ⟨A, c, rfl, _, _, _⟩ := own_form ho
  exact ⟨A, c, by rw [hl], (Row.of_own ho).1, hb⟩
def SmRet (M : List SM) (mn : Nat) (w : World) (e : Ending) (w' : World) : Prop := ∃ A c, e = .returned (.slice A mn c) ∧ SMs w' A M ∧ Below w.heap.size w w'
theorem sm_ret {w w' : World} {M : List SM} {mn : Nat} {e : Ending} (hl : M.length = mn) (hok : ∀ m ∈ M, m.f.ok w) (h : SmOwn w M e w') : SmRet M mn w e w' := by
  obtain ⟨v, rfl, ho, hb⟩ := h
  obtain ⟨A, c, rfl, _, _, _⟩ := own_form ho
  exact ⟨A, c, by rw [hl], (SMs.of_own ho (fun m hm => (hok m hm).up hb)).1, hb⟩
set_option maxRecDepth 100000 in
set_option maxHeartbeats 16000000 in
theorem required_law {A : Option Addr} {n cap : Nat} {ms : List SM} (c : Cd) (x : Int) (w : World) (hr : c.raw22 w) (hn : ms.length = n) (hN : n ≤ 9223372036854775807) (hp : SMs w A ms) :
    Calls Tryd.prog 7 #[(Value.agg #[Value.int IntKind.i64 (Cd.st c), Value.int IntKind.i64 (Cd.lo c), Value.slice (Cd.iA c) (Cd.n c) (Cd.ic c), Value.slice (Cd.hA c) (Cd.hn c) (Cd.hc c), Value.slice (Cd.mA c) (Cd.mn c) (Cd.mc c), Value.slice (Cd.lA c) (Cd.ln c) (Cd.lc c)]), .slice A n cap, .int .i64 x] w fun e w' => e = .returned (.bool true) ∧ Below w.heap.size w w' := by
  have hB : Below w.heap.size w w := Below.refl _ _
  have OK := Lib.hid hr
  have HP := Lib.hid hp
  have HN := Lib.hid hn
  clear hr hp hn
  by_cases hf : fw22 c
  · have KF := Lib.hid (fun (W : World) (hW : Below w.heap.size w W) => few22_any c W (OK.out.up hW) true (Or.inl ⟨rfl, hf⟩))
    have K22 := Lib.hid (OK.out.k22 hf)
    clear hf
    by_cases h3 : 300 < n
    · have e3 : (300 : Int) < (n : Int) := by omega
      go_enter Tryd.func7, Tryd.ntmps7
      go_upto_region 1 with fail
      have R := World.alloc_heap_new w (.cells #[.int .i64 c.st, .int .i64 c.lo, .slice c.iA c.n c.ic, .slice c.hA c.hn c.hc, .slice c.mA c.mn c.mc, .slice c.lA c.ln c.lc] 27)
      replace hB := below_al hB (.cells #[.int .i64 c.st, .int .i64 c.lo, .slice c.iA c.n c.ic, .slice c.hA c.hn c.hc, .slice c.mA c.mn c.mc, .slice c.lA c.ln c.lc] 27)
      generalize w.alloc (.cells #[.int .i64 c.st, .int .i64 c.lo, .slice c.iA c.n c.ic, .slice c.hA c.hn c.hc, .slice c.mA c.mn c.mc, .slice c.lA c.ln c.lc] 27) = W1 at R hB ⊢
      obtain ⟨r0, r1, r2, r3, r4, r5⟩ := six_cells R
      have y1 := lt_heap R
      replace R := Lib.hid R
      go_wp2_with (first | (go_at_call 22; (with_reducible refine (KF.out _ hB).mono ?_); rintro e w1 ⟨rfl, hb1⟩) | (go_at_call 23; (with_reducible refine (awake22_any _).mono ?_); rintro e w2 ⟨rfl, hb2⟩))
      go_ret
      exact ⟨rfl, below_on (below_on hB hb1) hb2⟩
    · have e3 : ¬ (300 : Int) < (n : Int) := by omega
      obtain ⟨L, hL⟩ : ∃ L, rqL c = L := ⟨_, rfl⟩
      obtain ⟨ln, hln⟩ : ∃ ln, L.length = ln := ⟨_, rfl⟩
      obtain ⟨M, hM⟩ : ∃ M, slL L ms = M := ⟨_, rfl⟩
      obtain ⟨mn, hmn⟩ : ∃ mn, M.length = mn := ⟨_, rfl⟩
      have hl3 : ln ≤ 300 := by rw [← hln, ← hL]; exact Nat.le_trans (rowsI_len _ _) K22.out.fw.n
      have hm3 : mn ≤ 300 := by rw [← hmn, ← hM]; exact Nat.le_trans (List.length_filter_le _ _) (by rw [HN.out]; omega)
      have HLN := Lib.hid hln
      have HMN := Lib.hid hmn
      have KR := Lib.hid (fun (W : World) (hW : Below w.heap.size w W) => show Calls Tryd.prog 27 #[(Value.agg #[Value.int IntKind.i64 (Cd.st c), Value.int IntKind.i64 (Cd.lo c), Value.slice (Cd.iA c) (Cd.n c) (Cd.ic c), Value.slice (Cd.hA c) (Cd.hn c) (Cd.hc c), Value.slice (Cd.mA c) (Cd.mn c) (Cd.mc c), Value.slice (Cd.lA c) (Cd.ln c) (Cd.lc c)])] W (RowRet L ln W) by
        have := rq_any c W (K22.out.up hW)
        rw [hL] at this
        exact this.mono fun e w' h => row_ret hln h)
      have KRR := Lib.hid (fun (W : World) (hW : Below w.heap.size w W) => show Calls Tryd.prog 28 #[(Value.agg #[Value.int IntKind.i64 (Cd.st c), Value.int IntKind.i64 (Cd.lo c), Value.slice (Cd.iA c) (Cd.n c) (Cd.ic c), Value.slice (Cd.hA c) (Cd.hn c) (Cd.hc c), Value.slice (Cd.mA c) (Cd.mn c) (Cd.mc c), Value.slice (Cd.lA c) (Cd.ln c) (Cd.lc c)])] W (RowRet L ln W) by
        have := rrq_any c W (K22.out.up hW)
        rw [hL] at this
        exact this.mono fun e w' h => row_ret hln h)
      have HFO := Lib.hid (show ∀ W : World, SMs W A ms → ∀ m ∈ M, m.f.ok W from fun W h m hm => by
        rw [← hM] at hm
        unfold slL at hm
        exact h.fok m (List.mem_filter.1 hm).1)
      have KS := Lib.hid (fun (W : World) (hW : Below w.heap.size w W) => show Calls Tryd.prog 30 #[(Value.agg #[Value.int IntKind.i64 (Cd.st c), Value.int IntKind.i64 (Cd.lo c), Value.slice (Cd.iA c) (Cd.n c) (Cd.ic c), Value.slice (Cd.hA c) (Cd.hn c) (Cd.hc c), Value.slice (Cd.mA c) (Cd.mn c) (Cd.mc c), Value.slice (Cd.lA c) (Cd.ln c) (Cd.lc c)]), .slice A n cap] W (SmRet M mn W) by
        have := sl_any (cap := cap) c W (K22.out.up hW) HN.out (by omega) (HP.out.up hW)
        rw [hL, hM] at this
        exact this.mono fun e w' h => sm_ret hmn (HFO.out W (HP.out.up hW)) h)
      have KSR := Lib.hid (fun (W : World) (hW : Below w.heap.size w W) => show Calls Tryd.prog 31 #[(Value.agg #[Value.int IntKind.i64 (Cd.st c), Value.int IntKind.i64 (Cd.lo c), Value.slice (Cd.iA c) (Cd.n c) (Cd.ic c), Value.slice (Cd.hA c) (Cd.hn c) (Cd.hc c), Value.slice (Cd.mA c) (Cd.mn c) (Cd.mc c), Value.slice (Cd.lA c) (Cd.ln c) (Cd.lc c)]), .slice A n cap] W (SmRet M mn W) by
        have := rsl_any (cap := cap) c W (K22.out.up hW) HN.out (by omega) (HP.out.up hW)
        rw [hL, hM] at this
        exact this.mono fun e w' h => sm_ret hmn (HFO.out W (HP.out.up hW)) h)
      obtain ⟨F, hF⟩ : ∃ F, faF ms x = F := ⟨_, rfl⟩
      obtain ⟨b, hb⟩ : ∃ b, faB ms x = b := ⟨_, rfl⟩
      have KA := Lib.hid (fun (W : World) (hW : Below w.heap.size w W) => by
        have := fa_any (cap := cap) x W HN.out hN (HP.out.up hW)
        rw [hF, hb] at this
        exact this)
      have KB := Lib.hid (fun (W : World) (hW : Below w.heap.size w W) => by
        have := rfa_any (cap := cap) x W HN.out hN (HP.out.up hW)
        rw [hF, hb] at this
        exact this)
      have KE := Lib.hid (fun (W : World) (hW : Below w.heap.size w W) => show Calls Tryd.prog 32 #[(Value.agg #[Value.slice (FM.A1 F) (FM.n1 F) (FM.c1 F), Value.slice (FM.A2 F) (FM.n2 F) (FM.c2 F), Value.bool (FM.u F)]), (Value.agg #[Value.slice (FM.A1 F) (FM.n1 F) (FM.c1 F), Value.slice (FM.A2 F) (FM.n2 F) (FM.c2 F), Value.bool (FM.u F)])] W (fun e w' => e = .returned (.bool true) ∧ Below W.heap.size W w') by
        have h1 : F.ok W := by rw [← hF]; exact faF_ok (HP.out.up hW) x
        have := reqM F F W h1 h1
        rw [eqM_self] at this
        exact this)
      have AF := Lib.hid (fun (W : World) => awake22_any W)
      have e2 := fun w => beq_run b w
      clear hL hM hF hb hln hmn
      go_enter Tryd.func7, Tryd.ntmps7
      go_upto_region 1 with fail
      have R := World.alloc_heap_new w (.cells #[.int .i64 c.st, .int .i64 c.lo, .slice c.iA c.n c.ic, .slice c.hA c.hn c.hc, .slice c.mA c.mn c.mc, .slice c.lA c.ln c.lc] 27)
      replace hB := below_al hB (.cells #[.int .i64 c.st, .int .i64 c.lo, .slice c.iA c.n c.ic, .slice c.hA c.hn c.hc, .slice c.mA c.mn c.mc, .slice c.lA c.ln c.lc] 27)
      generalize w.alloc (.cells #[.int .i64 c.st, .int .i64 c.lo, .slice c.iA c.n c.ic, .slice c.hA c.hn c.hc, .slice c.mA c.mn c.mc, .slice c.lA c.ln c.lc] 27) = W1 at R hB ⊢
      obtain ⟨r0, r1, r2, r3, r4, r5⟩ := six_cells R
      have y1 := lt_heap R
      replace R := Lib.hid R
      go_upto_region 3 with (go_at_call 22; (with_reducible refine (KF.out _ hB).mono ?_); rintro e w1 ⟨rfl, hb1⟩)
      have HB1 := Lib.hid (below_on hB hb1)
      have HR1 := Lib.hid ((hb1.block _ y1).trans R.out)
      clear r0 r1 r2 r3 r4 r5 y1 R hb1 hB
      clear W1
      go_upto_region 4 with (go_at_call 24; (with_reducible refine (KA.out _ HB1.out).mono ?_); rintro e w2 ⟨rfl, hb2⟩)
      have hb3 := below_al hb2 (.cells #[.slice F.A1 F.n1 F.c1, .slice F.A2 F.n2 F.c2, .bool F.u] 49)
      have H3 := World.alloc_heap_new w2 (.cells #[.slice F.A1 F.n1 F.c1, .slice F.A2 F.n2 F.c2, .bool F.u] 49)
      have HB3 := Lib.hid (below_on HB1.out hb3)
      have HR3 := Lib.hid ((hb3.block _ (lt_heap HR1.out)).trans HR1.out)
      generalize hbf : w2.heap.size = bf at H3 ⊢
      generalize w2.alloc (.cells #[.slice F.A1 F.n1 F.c1, .slice F.A2 F.n2 F.c2, .bool F.u] 49) = W3 at H3 HB3 HR3 ⊢
      have HF3 := Lib.hid H3
      clear hb2 hb3 hbf H3 HB1 HR1
      go_upto_region 5 with (go_at_call 25; (with_reducible refine (KB.out _ HB3.out).mono ?_); rintro e w4 ⟨rfl, hb4⟩)
      have hb5 := below_al hb4 (.cells #[.slice F.A1 F.n1 F.c1, .slice F.A2 F.n2 F.c2, .bool F.u] 49)
      have H5 := World.alloc_heap_new w4 (.cells #[.slice F.A1 F.n1 F.c1, .slice F.A2 F.n2 F.c2, .bool F.u] 49)
      have HB5 := Lib.hid (below_on HB3.out hb5)
      have HR5 := Lib.hid ((hb5.block _ (lt_heap HR3.out)).trans HR3.out)
      have HF5 := Lib.hid ((hb5.block _ (lt_heap HF3.out)).trans HF3.out)
      generalize hbh : w4.heap.size = bh at H5 ⊢
      generalize w4.alloc (.cells #[.slice F.A1 F.n1 F.c1, .slice F.A2 F.n2 F.c2, .bool F.u] 49) = W5 at H5 HB5 HR5 HF5 ⊢
      have HG5 := Lib.hid H5
      clear hb4 hb5 hbh H5 HB3 HR3 HF3 KA KB KF
      obtain ⟨r0, r1, r2, r3, r4, r5⟩ := six_cells HR5.out
      have yr := lt_heap HR5.out
      obtain ⟨f0, f1, f2, _⟩ := three_cells HF5.out
      have yf := lt_heap HF5.out
      obtain ⟨g0, g1, g2, _⟩ := three_cells HG5.out
      have yg := lt_heap HG5.out
      go_region_held3 (fun w' => (w'.cell? ⟨w.heap.size, 0, none⟩ = some (.int .i64 c.st) ∧ w'.cell? ⟨w.heap.size, 1, none⟩ = some (.int .i64 c.lo) ∧ w'.cell? ⟨w.heap.size, 2, none⟩ = some (.slice c.iA c.n c.ic) ∧ w'.cell? ⟨w.heap.size, 3, none⟩ = some (.slice c.hA c.hn c.hc) ∧ w'.cell? ⟨w.heap.size, 4, none⟩ = some (.slice c.mA c.mn c.mc) ∧ w'.cell? ⟨w.heap.size, 5, none⟩ = some (.slice c.lA c.ln c.lc)) ∧ (w'.cell? ⟨bf, 0, none⟩ = some (.slice F.A1 F.n1 F.c1) ∧ w'.cell? ⟨bf, 1, none⟩ = some (.slice F.A2 F.n2 F.c2) ∧ w'.cell? ⟨bf, 2, none⟩ = some (.bool F.u)) ∧ (w'.cell? ⟨bh, 0, none⟩ = some (.slice F.A1 F.n1 F.c1) ∧ w'.cell? ⟨bh, 1, none⟩ = some (.slice F.A2 F.n2 F.c2) ∧ w'.cell? ⟨bh, 2, none⟩ = some (.bool F.u)) ∧ w.heap.size < w'.heap.size ∧ bf < w'.heap.size ∧ bh < w'.heap.size ∧ Below W5.heap.size W5 w') (((try go_split_ands); (repeat' apply And.intro) <;> (first | assumption | exact (Below.refl _ _).drew | (first | exact below_on (w := W5) (by assumption) hq | exact Below.drew (by assumption) | assumption) | exact (Below.cell hq (by first | omega | (simp; omega))).trans (by assumption) | (have := hq.size; omega) | (simp; omega) | go_keep)))
        (first
          | (go_at_call 23; (with_reducible refine (AF.out _).mono ?_); rintro e wa ⟨rfl, hq⟩)
          | (go_at_call 27; (with_reducible refine (KR.out _ (below_on HB5.out (by first | assumption | (go_split_ands; assumption)))).mono ?_); rintro e wb ⟨Q1, d1, rfl, hq1, hq⟩; have HQ1 := Lib.hid hq1; clear hq1)
          | (go_at_call 28; (with_reducible refine (KRR.out _ (below_on HB5.out (by first | assumption | (go_split_ands; assumption)))).mono ?_); rintro e wc ⟨Q2, d2, rfl, hq1, hq⟩; have HQ2 := Lib.hid hq1; replace HQ1 := Lib.hid (HQ1.out.up hq); clear hq1)
          | (go_at_call 26; (with_reducible refine (ints_yes _ HLN.out (by omega) HQ1.out HQ2.out).mono ?_); rintro e wd ⟨rfl, hq⟩)
          | (go_at_call 30; (with_reducible refine (KS.out _ (below_on HB5.out (by first | assumption | (go_split_ands; assumption)))).mono ?_); rintro e we ⟨Q3, d3, rfl, hq1, hq⟩; have HQ3 := Lib.hid hq1; clear hq1)
          | (go_at_call 31; (with_reducible refine (KSR.out _ (below_on HB5.out (by first | assumption | (go_split_ands; assumption)))).mono ?_); rintro e wf ⟨Q4, d4, rfl, hq1, hq⟩; have HQ4 := Lib.hid hq1; replace HQ3 := Lib.hid (HQ3.out.up hq); clear hq1)
          | (go_at_call 29; (with_reducible refine (maps_yes _ HMN.out (by omega) HQ3.out HQ4.out).mono ?_); rintro e wg ⟨rfl, hq⟩)
          | (go_at_call 32; (with_reducible refine (KE.out _ (below_on HB5.out (by first | assumption | (go_split_ands; assumption)))).mono ?_); rintro e wh ⟨rfl, hq⟩))
      go_split_ands
      have hend : Below W5.heap.size W5 wh := by assumption
      go_wp2
      go_ret
      exact ⟨rfl, below_on HB5.out hend⟩
  · have KF := Lib.hid (fun (W : World) (hW : Below w.heap.size w W) => few22_any c W (OK.out.up hW) false (Or.inr ⟨rfl, hf⟩))
    clear hf
    go_enter Tryd.func7, Tryd.ntmps7
    go_upto_region 1 with fail
    have R := World.alloc_heap_new w (.cells #[.int .i64 c.st, .int .i64 c.lo, .slice c.iA c.n c.ic, .slice c.hA c.hn c.hc, .slice c.mA c.mn c.mc, .slice c.lA c.ln c.lc] 27)
    replace hB := below_al hB (.cells #[.int .i64 c.st, .int .i64 c.lo, .slice c.iA c.n c.ic, .slice c.hA c.hn c.hc, .slice c.mA c.mn c.mc, .slice c.lA c.ln c.lc] 27)
    generalize w.alloc (.cells #[.int .i64 c.st, .int .i64 c.lo, .slice c.iA c.n c.ic, .slice c.hA c.hn c.hc, .slice c.mA c.mn c.mc, .slice c.lA c.ln c.lc] 27) = W1 at R hB ⊢
    obtain ⟨r0, r1, r2, r3, r4, r5⟩ := six_cells R
    have y1 := lt_heap R
    replace R := Lib.hid R
    go_wp2_with (first | (go_at_call 22; (with_reducible refine (KF.out _ hB).mono ?_); rintro e w1 ⟨rfl, hb1⟩) | (go_at_call 23; (with_reducible refine (awake22_any _).mono ?_); rintro e w2 ⟨rfl, hb2⟩))
    go_ret
    exact ⟨rfl, below_on (below_on hB hb1) hb2⟩

end Go.Proofs.YtdppooflbjlbcaaDoor.I
