import Derived.Test.YthfegbhbokhlkaaGreatDoorGpM
import Derived.Test.YthfegbhbokhlkaaGreatDoorGnM
import Derived.Test.YthfegbhbokhlkaaGreatDoorGgM

/- Gq -/
/- Layer 11: works; the law FileCanonical. -/
namespace Go.Proofs.YthfegbhbokhlkaaGreatDoor
open Go.ChangeShapes Go.WideShapes Go.ChangeAt Go.RowKit Go.PlainAid
set_option linter.unusedSimpArgs false
set_option linter.unusedVariables false

theorem fdec_any (s : ByteArray) (hs : s.size ≤ 9223372036854775807) (w : World) : Calls Tryz.prog 10 #[.string s] w (FdRet w s) := by
  by_cases h1 : 1048576 < s.size
  · exact fdec_big s h1 hs w
  · by_cases h2 : Lib.hasPrefix s.data.toList hdB.data.toList = true
    · by_cases h3 : deE s 6 = 0
      · exact fdec_main s h1 h2 h3 w
      · exact fdec_pool s h1 h2 h3 w
    · exact fdec_head s h1 h2 w
theorem esz_any (F : Fi) (w : World) (h : F.ok w) (hf : F.few) (hF : Fits F.p) (hN : F.pn ≤ 100000) (hz : (feS F.v).size ≤ 9223372036854775807) : Calls Tryz.prog 9 #[F.val] w fun e w' => e = .returned (.int .i64 ((feS F.v).size : Int)) ∧ Below w.heap.size w w' := by
  have OK := Lib.hid h
  clear h
  obtain ⟨Q, hQ⟩ : ∃ Q, F.val = Q := ⟨_, rfl⟩
  unfold Fi.val
  go_enter Tryz.func9, Tryz.ntmps9
  go_wp2_with (go_at_call 7; refine (fenc_any F _ (OK.out.up (below_al (Below.refl _ _) _)) hf hF hN).mono ?_; rintro e w1 ⟨rfl, hb⟩)
  go_ret
  exact ⟨rfl, below_on (below_al (Below.refl _ _) _) hb⟩

def S22 : ByteArray := ⟨#[65, 82, 77, 65, 0, 1, 0, 0, 0, 0, 0, 0, 0, 0, 0, 0, 0, 0, 0, 0, 0, 0]⟩
def S1b : ByteArray := ⟨#[65, 82, 77, 65, 0, 1, 0, 0, 0, 1, 0, 2, 0, 0, 0, 0, 0, 0, 0, 0, 0, 0]⟩
theorem zf_1 : feE zFv = 0 := by kernel_rfl
theorem zf_2 : feB zFv = S22 := by kernel_rfl
theorem zf_3 : fdE S1b = 0 := by kernel_rfl
theorem zf_4 : (fdV S1b).f = 1 := by kernel_rfl
theorem zf_5 : (fdV S1b).t = 2 := by kernel_rfl
theorem zf_6 : fdE (S22.extract 0 21) = 3 := by kernel_rfl
theorem zf_7 : feS zFv = S22 := by unfold feS; rw [if_pos zf_1, zf_2]
theorem zf_few : zFi.few := ⟨Nat.zero_le _, Nat.zero_le _, Nat.zero_le _, Nat.zero_le _, fun x hx => (by cases hx), fun x hx => (by cases hx)⟩
theorem zf_fits : Fits zFi.p := fun c hc => (by cases hc)

theorem zf_val : zFi.val = .agg #[.slice none 0 0, .int .i64 0, .int .i64 0, .int .i64 0, .slice none 0 0, .slice none 0 0, .slice none 0 0, .slice none 0 0] := rfl
theorem w_enc (W : World) : Calls Tryz.prog 7 #[.agg #[.slice none 0 0, .int .i64 0, .int .i64 0, .int .i64 0, .slice none 0 0, .slice none 0 0, .slice none 0 0, .slice none 0 0]] W fun e w' => e = .returned (.tuple #[.string S22, .int .i64 0]) ∧ Below W.heap.size W w' := by
  rw [← zf_val]
  exact (fenc_any zFi W (zFi_ok W) zf_few zf_fits (Nat.zero_le _)).mono fun e w' h => ⟨h.1.trans (by rw [show zFi.v = zFv from rfl, zf_7, zf_1]), h.2⟩
theorem s22_size : S22.size = 22 := rfl
theorem w_esz (W : World) : Calls Tryz.prog 9 #[.agg #[.slice none 0 0, .int .i64 0, .int .i64 0, .int .i64 0, .slice none 0 0, .slice none 0 0, .slice none 0 0, .slice none 0 0]] W fun e w' => e = .returned (.int .i64 22) ∧ Below W.heap.size W w' := by
  rw [← zf_val]
  exact (esz_any zFi W (zFi_ok W) zf_few zf_fits (Nat.zero_le _) (by rw [show zFi.v = zFv from rfl, zf_7, s22_size]; omega)).mono fun e w' h => ⟨h.1.trans (by rw [show zFi.v = zFv from rfl, zf_7, s22_size]; rfl), h.2⟩
theorem w_dec (W : World) : Calls Tryz.prog 10 #[.string S1b] W fun e w' => (∃ F : Fi, e = .returned (.tuple #[.agg #[.slice F.pA F.pn F.pc, .int .i64 1, .int .i64 2, .int .i64 F.s, .slice F.iA F.ij F.ic, .slice F.mA F.mj F.mc, .slice F.gA F.gj F.gc, .slice F.aA F.aj F.ac], .int .i64 0])) ∧ Below W.heap.size W w' := by
  refine (fdec_any S1b (by rw [show S1b.size = 22 from rfl]; omega) W).mono ?_
  rintro e w' ⟨F, h, hv, _, hb⟩
  have hv' : F.v = fdV S1b := by rw [hv]; unfold fdR; rw [if_pos zf_3]
  have e1 : F.f = 1 := (congrArg Fv.f hv').trans zf_4
  have e2 : F.t = 2 := (congrArg Fv.t hv').trans zf_5
  refine ⟨⟨F, ?_⟩, hb⟩
  rw [h, zf_3]
  unfold Fi.val
  rw [e1, e2]
theorem w_cut (W : World) : Calls Tryz.prog 10 #[.string (S22.extract 0 21)] W fun e w' => (∃ F : Fi, e = .returned (.tuple #[.agg #[.slice F.pA F.pn F.pc, .int .i64 F.f, .int .i64 F.t, .int .i64 F.s, .slice F.iA F.ij F.ic, .slice F.mA F.mj F.mc, .slice F.gA F.gj F.gc, .slice F.aA F.aj F.ac], .int .i64 3])) ∧ Below W.heap.size W w' := by
  refine (fdec_any _ (by rw [ByteArray.size_extract, s22_size]; omega) W).mono ?_
  rintro e w' ⟨F, h, hv, _, hb⟩
  refine ⟨⟨F, ?_⟩, hb⟩
  rw [h, zf_6]
  rfl
set_option maxRecDepth 100000 in
set_option maxHeartbeats 1000000 in
theorem works_any (w : World) : Calls Tryz.prog 6 #[] w fun e w' => e = .returned (.bool true) ∧ Below w.heap.size w w' := by
  have hB : Below w.heap.size w w := Below.refl _ _
  have h22 : (S22.size : Int) = 22 := rfl
  go_enter Tryz.func6, Tryz.ntmps6
  go_upto_region 4 with (go_at_call 7; refine (w_enc _).mono ?_; rintro e w1 ⟨rfl, hb1⟩; have HB1 := Lib.hid hb1; clear hb1)
  go_upto_region 5 with (go_at_call 10; refine (w_dec _).mono ?_; rintro e w2 ⟨⟨F1, rfl⟩, hb2⟩; have HB2 := Lib.hid (below_on HB1.out hb2); clear hb2)
  have hX := World.alloc_heap_new w2 (.cells #[.slice F1.pA F1.pn F1.pc, .int .i64 1, .int .i64 2, .int .i64 F1.s, .slice F1.iA F1.ij F1.ic, .slice F1.mA F1.mj F1.mc, .slice F1.gA F1.gj F1.gc, .slice F1.aA F1.aj F1.ac] 27)
  have HB3 := Lib.hid (below_al HB2.out (.cells #[.slice F1.pA F1.pn F1.pc, .int .i64 1, .int .i64 2, .int .i64 F1.s, .slice F1.iA F1.ij F1.ic, .slice F1.mA F1.mj F1.mc, .slice F1.gA F1.gj F1.gc, .slice F1.aA F1.aj F1.ac] 27))
  generalize w2.alloc (.cells #[.slice F1.pA F1.pn F1.pc, .int .i64 1, .int .i64 2, .int .i64 F1.s, .slice F1.iA F1.ij F1.ic, .slice F1.mA F1.mj F1.mc, .slice F1.gA F1.gj F1.gc, .slice F1.aA F1.aj F1.ac] 27) = W3 at hX HB3 ⊢
  generalize w2.heap.size = B at hX ⊢
  have HX := Lib.hid hX
  clear hX
  go_upto_region 6 with (go_at_call 10; refine (w_cut _).mono ?_; rintro e w4 ⟨⟨F2, rfl⟩, hb4⟩; have HB4 := Lib.hid (below_on HB3.out hb4); have HX4 := Lib.hid ((hb4.block B (lt_heap HX.out)).trans HX.out); clear hb4)
  have hX := laid_old (o' := (.cells #[.slice F2.pA F2.pn F2.pc, .int .i64 F2.f, .int .i64 F2.t, .int .i64 F2.s, .slice F2.iA F2.ij F2.ic, .slice F2.mA F2.mj F2.mc, .slice F2.gA F2.gj F2.gc, .slice F2.aA F2.aj F2.ac] 27)) HX4.out
  have HB5 := Lib.hid (below_al HB4.out (.cells #[.slice F2.pA F2.pn F2.pc, .int .i64 F2.f, .int .i64 F2.t, .int .i64 F2.s, .slice F2.iA F2.ij F2.ic, .slice F2.mA F2.mj F2.mc, .slice F2.gA F2.gj F2.gc, .slice F2.aA F2.aj F2.ac] 27))
  generalize w4.alloc (.cells #[.slice F2.pA F2.pn F2.pc, .int .i64 F2.f, .int .i64 F2.t, .int .i64 F2.s, .slice F2.iA F2.ij F2.ic, .slice F2.mA F2.mj F2.mc, .slice F2.gA F2.gj F2.gc, .slice F2.aA F2.aj F2.ac] 27) = W5 at hX HB5 ⊢
  obtain ⟨⟨x0, x1, x2, x3, x4, x5, x6, x7⟩, xf, xlt⟩ := eight_cellsF hX
  clear hX
  go_wp2_with (go_at_call 9; refine (w_esz _).mono ?_; rintro e w6 ⟨rfl, hb6⟩; have HB6 := Lib.hid (below_on HB5.out hb6); clear hb6)
  go_ret
  exact ⟨rfl, HB6.out⟩

/-- lists of what Decode has read are short -/
theorem few_zero {w : World} {F : Fi} (h : F.ok w) (hv : F.v = zFv) : F.few ∧ Fits F.p ∧ F.pn ≤ 100000 := by
  have e1 : F.p = [] := congrArg Fv.p hv
  have e2 : F.i = [] := congrArg Fv.i hv
  have e3 : F.m = [] := by have : F.m.map Mb.v = [] := congrArg Fv.m hv; simpa using this
  have e4 : F.g = [] := by have : F.g.map Mb.v = [] := congrArg Fv.g hv; simpa using this
  have e5 : F.a = [] := congrArg Fv.a hv
  have l1 := h.pl
  have l2 := h.il
  have l3 := h.ml
  have l4 := h.gl
  have l5 := h.al
  rw [e1] at l1
  rw [e2] at l2
  rw [e3] at l3
  rw [e4] at l4
  rw [e5] at l5
  simp only [List.length_nil] at l1 l2 l3 l4 l5
  exact ⟨⟨by omega, by omega, by omega, by omega, fun x hx => (by rw [e3] at hx; cases hx), fun x hx => (by rw [e4] at hx; cases hx)⟩, fun c hc => (by rw [e1] at hc; cases hc), by omega⟩
theorem few_read {w : World} {F : Fi} {s : ByteArray} (h : F.ok w) (hE : fdE s = 0) (hv : F.v = fdV s) : F.few ∧ Fits F.p ∧ F.pn ≤ 100000 := by
  obtain ⟨h1, h2, h3, h4⟩ := fd_parts hE
  obtain ⟨⟨b1, b2, b3⟩, b4, b5, b6, b7, b8⟩ := bd_parts h4
  have e1 : F.p = deL s 6 := congrArg Fv.p hv
  have e2 : F.i = isL s (deN s 6 + 6) := congrArg Fv.i hv
  have e3 : F.m.map Mb.v = msL s (isN s (deN s 6 + 6)) := congrArg Fv.m hv
  have e4 : F.g.map Mb.v = msL s (msN s (isN s (deN s 6 + 6))) := congrArg Fv.g hv
  have e5 : F.a = asL s (msN s (msN s (isN s (deN s 6 + 6)))) := congrArg Fv.a hv
  have hch : chE (deL s 6) = 0 := (canon h3).2.2.2.1
  have l0 := (ch_zero hch).1
  have l1 := h.pl
  have l2 := h.il
  have l3 := h.ml
  have l4 := h.gl
  have l5 := h.al
  have m3 := congrArg List.length e3
  have m4 := congrArg List.length e4
  rw [List.length_map] at m3 m4
  rw [e1] at l1
  rw [e2] at l2
  rw [e5] at l5
  have k2 := (is_len b4).2
  have k3 := (ms_len b5).2
  have k4 := (ms_len b6).2
  have k5 := (as_len b7).2
  have q3 : ∀ x ∈ F.m, x.k ≤ 100 := fun x hx => by
    have := (ms_each b5 x.v (by rw [← e3]; exact List.mem_map_of_mem hx)).2.2
    have e : x.l.length = x.k := (h.mo x hx).len
    have : x.v.l.length ≤ 16 := this
    have e' : x.v.l = x.l := rfl
    rw [e'] at this
    omega
  have q4 : ∀ x ∈ F.g, x.k ≤ 100 := fun x hx => by
    have := (ms_each b6 x.v (by rw [← e4]; exact List.mem_map_of_mem hx)).2.2
    have e : x.l.length = x.k := (h.go x hx).len
    have : x.v.l.length ≤ 16 := this
    have e' : x.v.l = x.l := rfl
    rw [e'] at this
    omega
  exact ⟨⟨by omega, by omega, by omega, by omega, q3, q4⟩, by rw [e1]; exact fun c hc => by have := ch_short hch c hc; omega, by omega⟩

end Go.Proofs.YthfegbhbokhlkaaGreatDoor
