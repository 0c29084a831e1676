import Derived.Test.YthfegbhbokhlkaaGreatDoorQeM
import Derived.Test.YthfegbhbokhlkaaGreatDoorGqM

/- Qf -/
/- Layer 11: the law FileDecode. -/
namespace Go.Proofs.YthfegbhbokhlkaaGreatDoor
open Go.ChangeShapes Go.WideShapes Go.ChangeAt Go.RowKit Go.PlainAid
set_option linter.unusedSimpArgs false
set_option linter.unusedVariables false

theorem few_both {w : World} {F : Fi} {s : ByteArray} (h : F.ok w) (hv : F.v = fdR s) : F.few ∧ F.pn ≤ 100000 := by
  unfold fdR at hv
  by_cases hE : fdE s = 0
  · rw [if_pos hE] at hv
    have k := few_read h hE hv
    exact ⟨k.1, k.2.2⟩
  · rw [if_neg hE] at hv
    have k := few_zero h hv
    exact ⟨k.1, k.2.2⟩

set_option maxRecDepth 100000 in
set_option maxHeartbeats 4000000 in
theorem dec_law (s : ByteArray) (hs : s.size ≤ 9223372036854775807) (w : World) : Calls Tryz.prog 4 #[.string s] w fun e w' => e = .returned (.bool true) ∧ Below w.heap.size w w' := by
  by_cases h3 : 3000 < s.size ∧ s.size ≤ 1048576
  · have h1 : (3000 : Int) < (s.size : Int) := by omega
    have h2 : (s.size : Int) ≤ 1048576 := by omega
    clear h3
    go_enter Tryz.func4, Tryz.ntmps4
    go_wp2_with (go_at_call 6; refine (works_any _).mono ?_; rintro e w1 ⟨rfl, hb1⟩)
    go_ret
    exact ⟨rfl, hb1⟩
  · have hc : (¬ (3000 : Int) < (s.size : Int)) ∨ ((3000 : Int) < (s.size : Int) ∧ ¬ (s.size : Int) ≤ 1048576) := by omega
    clear h3
    obtain ⟨E, hE⟩ : ∃ E, fdE s = E := ⟨_, rfl⟩
    have KD := Lib.hid (fun W => (fdec_any s hs W).mono (fun r w' (k : FdRet W s r w') => (by unfold FdRet at k; rw [hE] at k; exact k)))
    have KR := Lib.hid (fun W => (rfdec_any s W).mono (fun r w' (k : FdRet W s r w') => (by unfold FdRet at k; rw [hE] at k; exact k)))
    clear hE
    rcases hc with h1 | ⟨h1, h2⟩
    all_goals
      go_enter Tryz.func4, Tryz.ntmps4
      go_upto_region 4 with (go_at_call 10; refine (KD.out _).mono ?_; rintro e w1 ⟨F, hr, hv, hok, hb1⟩; unfold Fi.val at hr; subst hr; have HV := Lib.hid hv; have HOK := Lib.hid hok; have HB1 := Lib.hid hb1; clear hv hok hb1)
      have hX := World.alloc_heap_new w1 (.cells #[.slice F.pA F.pn F.pc, .int .i64 F.f, .int .i64 F.t, .int .i64 F.s, .slice F.iA F.ij F.ic, .slice F.mA F.mj F.mc, .slice F.gA F.gj F.gc, .slice F.aA F.aj F.ac] 27)
      have HB2 := Lib.hid (below_al HB1.out (.cells #[.slice F.pA F.pn F.pc, .int .i64 F.f, .int .i64 F.t, .int .i64 F.s, .slice F.iA F.ij F.ic, .slice F.mA F.mj F.mc, .slice F.gA F.gj F.gc, .slice F.aA F.aj F.ac] 27))
      have HOK2 := Lib.hid (HOK.out.up (below_al (Below.refl _ w1) (.cells #[.slice F.pA F.pn F.pc, .int .i64 F.f, .int .i64 F.t, .int .i64 F.s, .slice F.iA F.ij F.ic, .slice F.mA F.mj F.mc, .slice F.gA F.gj F.gc, .slice F.aA F.aj F.ac] 27)))
      generalize w1.alloc (.cells #[.slice F.pA F.pn F.pc, .int .i64 F.f, .int .i64 F.t, .int .i64 F.s, .slice F.iA F.ij F.ic, .slice F.mA F.mj F.mc, .slice F.gA F.gj F.gc, .slice F.aA F.aj F.ac] 27) = W2 at hX HB2 HOK2 ⊢
      generalize w1.heap.size = B at hX ⊢
      have HX := Lib.hid hX
      clear hX
      go_upto_region 5 with (go_at_call 11; refine (KR.out _).mono ?_; rintro e w3 ⟨G, hr, hv, hok, hb3⟩; unfold Fi.val at hr; subst hr; have HV3 := Lib.hid hv; have HOK3 := Lib.hid hok; have HB3 := Lib.hid (below_on HB2.out hb3); have HX3 := Lib.hid ((hb3.block B (lt_heap HX.out)).trans HX.out); replace HOK2 := Lib.hid (HOK2.out.up hb3); clear hv hok hb3)
      have hX := laid_old (o' := (.cells #[.slice G.pA G.pn G.pc, .int .i64 G.f, .int .i64 G.t, .int .i64 G.s, .slice G.iA G.ij G.ic, .slice G.mA G.mj G.mc, .slice G.gA G.gj G.gc, .slice G.aA G.aj G.ac] 27)) HX3.out
      have hY := World.alloc_heap_new w3 (.cells #[.slice G.pA G.pn G.pc, .int .i64 G.f, .int .i64 G.t, .int .i64 G.s, .slice G.iA G.ij G.ic, .slice G.mA G.mj G.mc, .slice G.gA G.gj G.gc, .slice G.aA G.aj G.ac] 27)
      have HB4 := Lib.hid (below_al HB3.out (.cells #[.slice G.pA G.pn G.pc, .int .i64 G.f, .int .i64 G.t, .int .i64 G.s, .slice G.iA G.ij G.ic, .slice G.mA G.mj G.mc, .slice G.gA G.gj G.gc, .slice G.aA G.aj G.ac] 27))
      have HOKF := Lib.hid (HOK2.out.up (below_al (Below.refl _ w3) (.cells #[.slice G.pA G.pn G.pc, .int .i64 G.f, .int .i64 G.t, .int .i64 G.s, .slice G.iA G.ij G.ic, .slice G.mA G.mj G.mc, .slice G.gA G.gj G.gc, .slice G.aA G.aj G.ac] 27)))
      have HOKG := Lib.hid (HOK3.out.up (below_al (Below.refl _ w3) (.cells #[.slice G.pA G.pn G.pc, .int .i64 G.f, .int .i64 G.t, .int .i64 G.s, .slice G.iA G.ij G.ic, .slice G.mA G.mj G.mc, .slice G.gA G.gj G.gc, .slice G.aA G.aj G.ac] 27)))
      generalize w3.alloc (.cells #[.slice G.pA G.pn G.pc, .int .i64 G.f, .int .i64 G.t, .int .i64 G.s, .slice G.iA G.ij G.ic, .slice G.mA G.mj G.mc, .slice G.gA G.gj G.gc, .slice G.aA G.aj G.ac] 27) = W4 at hX hY HB4 HOKF HOKG ⊢
      generalize w3.heap.size = C at hY ⊢
      obtain ⟨⟨x0, x1, x2, x3, x4, x5, x6, x7⟩, xf, xlt⟩ := eight_cellsF hX
      obtain ⟨⟨y0, y1, y2, y3, y4, y5, y6, y7⟩, yf, ylt⟩ := eight_cellsF hY
      clear hX hY
      have KS := Lib.hid (fun W (h : F.ok W) (h2 : G.ok W) => same_yes F G W h h2 (HV.out.trans HV3.out.symm) (few_both HOK.out HV.out).1 (few_both HOK.out HV.out).2)
      go_wp2_with (first | (go_at_call 12; refine (KS.out _ HOKF.out HOKG.out).mono ?_; rintro e w5 ⟨rfl, hb5⟩; have HB5 := Lib.hid (below_on HB4.out hb5); clear hb5) | (go_at_call 6; refine (works_any _).mono ?_; rintro e w6 ⟨rfl, hb6⟩; have HB6 := Lib.hid (below_on HB5.out hb6); clear hb6))
      go_ret
      exact ⟨rfl, HB6.out⟩

end Go.Proofs.YthfegbhbokhlkaaGreatDoor
