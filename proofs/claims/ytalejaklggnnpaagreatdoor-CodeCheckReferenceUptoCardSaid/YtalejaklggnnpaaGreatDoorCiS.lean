import Derived.Test.YtalejaklggnnpaaGreatDoorCh
import Derived.Test.YtalejaklggnnpaaGreatDoorCxd
/- Layer 9: validVType, its closure, ContainsFunc over verification types. (Written by gen/ci.py.) -/
namespace Go.Proofs.YtalejaklggnnpaaGreatDoor.I
open Go.ChangeShapes Go.WideShapes Go.ChangeAt Go.RowKit Go.PlainAid
set_option linter.unusedSimpArgs false
set_option linter.unusedVariables false
set_option maxRecDepth 100000 in
set_option maxHeartbeats 16000000 in
theorem cvt_any {A : Option Addr} {n cap : Nat} {L : List Cn} (c : Cd) (v : VT) (w : World) (hS : Fits L) (hn : L.length = n) (hN : n ≤ 100000) (hp : Pool w w.heap.size A L) (hok : c.c9 w) :
  Calls Tryz.prog 65 #[.slice A n cap, (Value.agg #[Value.int IntKind.i64 (Cd.st c), Value.int IntKind.i64 (Cd.lo c), Value.slice (Cd.iA c) (Cd.n c) (Cd.ic c), Value.slice (Cd.hA c) (Cd.hn c) (Cd.hc c), Value.slice (Cd.mA c) (Cd.mn c) (Cd.mc c), Value.slice (Cd.lA c) (Cd.ln c) (Cd.lc c)]), (Value.agg #[Value.int IntKind.i64 (VT.k v), Value.int IntKind.i64 (VT.n v), Value.int IntKind.i64 (VT.d v), Value.int IntKind.u8 (VT.b v), Value.string (VT.s v), Value.int IntKind.i64 (VT.p v)])] w fun e w' => e = .returned (.bool (vvT L c v)) ∧ Below w.heap.size w w' := by
 have HS := Lib.hid hS
 have HP := Lib.hid hp
 have HN := Lib.hid hn
 have OK := Lib.hid hok
 have hcn := hok.ib
 clear hS hp hn hok
 obtain ⟨r, hr⟩ : ∃ r, vvT L c v = r := ⟨_, rfl⟩
 have HR := Lib.hid hr
 rw [hr]
 clear hr
 obtain ⟨A9, hA⟩ : ∃ A, c.iA = A := ⟨_, rfl⟩
 have HA := Lib.hid hA
 clear hA
 go_enter Tryz.func65, Tryz.ntmps65
 go_upto_region 1 with fail
 obtain ⟨H0, H1, hB⟩ := two_laid9 w (.cells #[.int .i64 c.st, .int .i64 c.lo, .slice c.iA c.n c.ic, .slice c.hA c.hn c.hc, .slice c.mA c.mn c.mc, .slice c.lA c.ln c.lc] 28) (.cells #[.int .i64 v.k, .int .i64 v.n, .int .i64 v.d, .int .u8 v.b, .string v.s, .int .i64 v.p] 116)
 generalize (w.alloc (.cells #[.int .i64 c.st, .int .i64 c.lo, .slice c.iA c.n c.ic, .slice c.hA c.hn c.hc, .slice c.mA c.mn c.mc, .slice c.lA c.ln c.lc] 28)).alloc (.cells #[.int .i64 v.k, .int .i64 v.n, .int .i64 v.d, .int .u8 v.b, .string v.s, .int .i64 v.p] 116) = W at H0 H1 hB ⊢
 have RB := Lib.hid H0
 have XB := Lib.hid H1
 have HP1 := Lib.hid (HP.out.up hB)
 have OK1 := Lib.hid (OK.out.up hB)
 have HB := Lib.hid hB
 clear H0 H1 hB
 obtain ⟨r0, r1, r2, r3, r4, r5⟩ := six_cells RB.out
 obtain ⟨b0, b1, b2, b3, b4, b5⟩ := six_cells XB.out
 have yr := lt_heap RB.out
 have yb := lt_heap XB.out
 cases hty : tyE v.ty tyZ with
 | false =>
  have H := Lib.hid (vv_1 (L := L) (c := c) hty)
  have e1 := fun w => ty_neP (show tyE ⟨v.d, v.b, v.s⟩ ⟨0, 0, ⟨#[]⟩⟩ = false from hty) w
  go_wp2
  go_ret
  exact ⟨by rw [← HR.out, H.out]; rfl, HB.out⟩
 | true =>
  have e1 := fun w => ty_neP (show tyE ⟨v.d, v.b, v.s⟩ ⟨0, 0, ⟨#[]⟩⟩ = true from hty) w
  have HTY := Lib.hid hty
  clear hty
  go_upto_region 3 with fail
  clear e1
  by_cases h5 : v.k = 5
  ·
   have H5 := Lib.hid h5
   rw [h5] at b0
   clear h5
   cases hex : exB c.n v.n with
   | false =>
    have HET := Lib.hid hex
    have H := Lib.hid (vv_2 (L := L) (vk_5a H5.out hex))
    clear hex
    go_wp2_with (go_at_call 28; (with_reducible refine (cex_gen _ _).mono ?_); rintro e w2 ⟨rfl, hb2⟩; rw [HET.out]; obtain ⟨hc2, hf2⟩ := bcell hb2; have hz2 := hb2.size; have hz3 := Nat.lt_of_lt_of_le yr hz2; have hz4 := Nat.lt_of_lt_of_le yb hz2)
    go_ret
    exact ⟨by rw [← HR.out, H.out]; rfl, below_on HB.out hb2⟩
   | true =>
    obtain ⟨ht0, ht1⟩ := ex_iff.1 hex
    have HET := Lib.hid hex
    obtain ⟨i, hi⟩ := get_someF (l := c.is) (k := v.n.toNat) (by rw [OK1.out.il]; omega)
    have HVK := Lib.hid (vk_5b H5.out hex hi)
    have hiw := OK1.out.iw
    rw [HA.out] at hiw r2
    have hvn : ((v.n.toNat : Nat) : Int) = v.n := by omega
    rcases hiw with h0 | ⟨g, o, rfl, hg, hcell⟩
    ·
     rw [h0] at hi; simp at hi
    ·
     obtain ⟨_, a0, _⟩ := hcell v.n.toNat _ hi
     clear hcell hi hex
     go_upto_region 4 with fail
     obtain ⟨vn, hv2⟩ : ∃ vn : Nat, v.n = (vn : Int) := ⟨v.n.toNat, by omega⟩
     have HVN := Lib.hid hv2
     rw [hv2] at b1 HET ht0 ht1
     have hv3 : v.n.toNat = vn := by rw [hv2]; exact Int.toNat_natCast _
     rw [hv3] at a0
     clear hv2 hv3 hvn
     by_cases hop : i.op = 67
     ·
      have H := Lib.hid (vv_3 (L := L) HTY.out (show vkB c v = true by rw [HVK.out, hop]; rfl))
      have H2 := Lib.hid (vp_4 (L := L) H5.out (Or.inr (Or.inl rfl)))
      rw [hop] at a0
      clear hop
      go_wp2_with (first | (go_at_call 28; (with_reducible refine (cex_gen _ _).mono ?_); rintro e w2 ⟨rfl, hb2⟩; rw [HET.out]; obtain ⟨hc2, hf2⟩ := bcell hb2; have hz2 := hb2.size; have hz3 := Nat.lt_of_lt_of_le yr hz2; have hz4 := Nat.lt_of_lt_of_le yb hz2; have hz5 := Nat.lt_of_lt_of_le hg hz2; have HP2 := Lib.hid (HP1.out.up hb2)) | (go_at_call 114; (with_reducible refine (rf_any v.p _ _ HS.out HN.out hN HP2.out).mono ?_); rintro e w3 ⟨rfl, hb3⟩))
      go_ret
      exact ⟨by rw [← HR.out, H.out, H2.out]; rfl, below_on (below_on HB.out hb2) hb3⟩
     ·
      have H := Lib.hid (vv_2 (L := L) (c := c) (v := v) (by rw [HVK.out]; simpa using hop))
      have eop : (i.op != 67) = true := by simpa using hop
      go_wp2_with (go_at_call 28; (with_reducible refine (cex_gen _ _).mono ?_); rintro e w2 ⟨rfl, hb2⟩; rw [HET.out]; obtain ⟨hc2, hf2⟩ := bcell hb2; have hz2 := hb2.size; have hz3 := Nat.lt_of_lt_of_le yr hz2; have hz4 := Nat.lt_of_lt_of_le yb hz2; have hz5 := Nat.lt_of_lt_of_le hg hz2)
      go_ret
      exact ⟨by rw [← HR.out, H.out]; rfl, below_on HB.out hb2⟩
  ·
   have e5 : (v.k == 5) = false := by simpa using h5
   have HN5 := Lib.hid (vk_n5 (c := c) h5)
   by_cases hn0 : v.n = 0
   ·
    have H := Lib.hid (vv_3 (L := L) HTY.out (show vkB c v = true by rw [HN5.out]; simpa using hn0))
    rw [hn0] at b1
    clear hn0
    by_cases h0 : v.k = 0
    ·
     have H2 := Lib.hid (vp_0 (L := L) h0 (by omega))
     rw [h0] at b0
     clear h0 h5 e5
     go_wp2
     go_ret
     exact ⟨by rw [← HR.out, H.out, H2.out]; rfl, HB.out⟩
    ·
     have f0 : (v.k == 0) = false := by simpa using h0
     by_cases h1 : v.k = 1
     ·
      have H2 := Lib.hid (vp_0 (L := L) h1 (by omega))
      rw [h1] at b0
      clear h0 h1 h5 e5
      go_wp2
      go_ret
      exact ⟨by rw [← HR.out, H.out, H2.out]; rfl, HB.out⟩
     ·
      have f1 : (v.k == 1) = false := by simpa using h1
      by_cases h2 : v.k = 2
      ·
       have H2 := Lib.hid (vp_0 (L := L) h2 (by omega))
       rw [h2] at b0
       clear h0 h1 h2 h5 e5
       go_wp2
       go_ret
       exact ⟨by rw [← HR.out, H.out, H2.out]; rfl, HB.out⟩
      ·
       have f2 : (v.k == 2) = false := by simpa using h2
       by_cases h3 : v.k = 3
       ·
        have H2 := Lib.hid (vp_0 (L := L) h3 (by omega))
        rw [h3] at b0
        clear h0 h1 h2 h3 h5 e5
        go_wp2
        go_ret
        exact ⟨by rw [← HR.out, H.out, H2.out]; rfl, HB.out⟩
       ·
        have f3 : (v.k == 3) = false := by simpa using h3
        by_cases h4 : v.k = 4
        ·
         have H2 := Lib.hid (vp_4 (L := L) h4 (by omega))
         rw [h4] at b0
         clear h0 h1 h2 h3 h4 h5 e5
         go_wp2_with (go_at_call 114; (with_reducible refine (rf_any v.p _ _ HS.out HN.out hN HP1.out).mono ?_); rintro e w3 ⟨rfl, hb3⟩)
         go_ret
         exact ⟨by rw [← HR.out, H.out, H2.out]; rfl, below_on HB.out hb3⟩
        ·
         have f4 : (v.k == 4) = false := by simpa using h4
         by_cases h6 : v.k = 6
         ·
          have H2 := Lib.hid (vp_4 (L := L) h6 (by omega))
          rw [h6] at b0
          clear h0 h1 h2 h3 h4 h6 h5 e5
          go_wp2_with (go_at_call 114; (with_reducible refine (rf_any v.p _ _ HS.out HN.out hN HP1.out).mono ?_); rintro e w3 ⟨rfl, hb3⟩)
          go_ret
          exact ⟨by rw [← HR.out, H.out, H2.out]; rfl, below_on HB.out hb3⟩
         ·
          have f6 : (v.k == 6) = false := by simpa using h6
          have H2 := Lib.hid (vp_o (L := L) (v := v) rfl (by omega) (by omega))
          clear h0 h1 h2 h3 h4 h6 h5
          go_wp2
          go_ret
          exact ⟨by rw [← HR.out, H.out, H2.out]; rfl, HB.out⟩
   ·
    have H := Lib.hid (vv_2 (L := L) (c := c) (v := v) (by rw [HN5.out]; simpa using hn0))
    have en : (v.n != 0) = true := by simpa using hn0
    go_wp2
    go_ret
    exact ⟨by rw [← HR.out, H.out]; rfl, HB.out⟩
end Go.Proofs.YtalejaklggnnpaaGreatDoor.I
/- Layer 9, the reference: typed, known. (gen/cxe.py) -/
namespace Go.Proofs.YtalejaklggnnpaaGreatDoor.I
open Go.ChangeShapes Go.WideShapes Go.ChangeAt Go.RowKit Go.PlainAid
set_option linter.unusedSimpArgs false
set_option linter.unusedVariables false
theorem pd_nn (s : ByteArray) : 0 ≤ paD s := by
 by_cases hn : 0 < preN s.data.toList ∧ preN s.data.toList = s.size
 ·
  rw [(pa_ok hn).1]
  rcases pre_cases s.data.toList with h | ⟨_, _, h, _⟩
  ·
   rw [h.2.1]; exact Int.le_refl _
  ·
   unfold validB at h
   rw [Bool.and_eq_true] at h
   exact (of_decide_eq_true h.1).1
 ·
  rw [(pa_bad hn).1]; exact Int.le_refl _
set_option maxRecDepth 100000 in
set_option maxHeartbeats 8000000 in
theorem r9typed_any {A : Option Addr} {n cap : Nat} {L : List Cn} (i : Int) (just : Bool) (w : World) (hS : Fits L) (hn : L.length = n) (hN : n ≤ 100000) (hp : Pool w w.heap.size A L) :
  Calls Tryz.prog 181 #[.slice A n cap, .int .i64 i, .bool just] w fun e w' => e = .returned (.bool (rfB L i (!just))) ∧ Below w.heap.size w w' := by
 have HS := Lib.hid (fits_tg hS i 1)
 have HP := Lib.hid hp
 have HN := Lib.hid hn
 clear hS hp hn
 obtain ⟨r, hr⟩ : ∃ r, rfB L i (!just) = r := ⟨_, rfl⟩
 have HR := Lib.hid hr
 rw [hr]
 obtain ⟨te, hte⟩ : ∃ x, tgE L i 1 = x := ⟨_, rfl⟩
 have HTE := Lib.hid hte
 obtain ⟨s, hs⟩ : ∃ x, (tgC L i 1).s = x := ⟨_, rfl⟩
 have HSS := Lib.hid hs
 have hnn := pd_nn s
 obtain ⟨pe, hpe⟩ : ∃ x, paE s = x := ⟨_, rfl⟩
 have HPE := Lib.hid hpe
 obtain ⟨pd, hpd⟩ : ∃ x, paD s = x := ⟨_, rfl⟩
 have HPD := Lib.hid hpd
 obtain ⟨pb, hpb⟩ : ∃ x, paB s = x := ⟨_, rfl⟩
 have HPB := Lib.hid hpb
 rw [hs] at HS
 rw [hpd] at hnn
 clear hr hte hs hpe hpd hpb
 by_cases hE : te = 0
 ·
  have HE := Lib.hid (show tgE L i 1 = 0 by rw [HTE.out]; exact hE)
  rw [hE] at HTE
  by_cases h1 : pe = 0
  ·
   have H1 := Lib.hid (show paE (tgC L i 1).s = 0 by rw [HSS.out, HPE.out]; exact h1)
   rw [h1] at HPE
   by_cases h2 : pd = 0
   ·
    rw [h2] at HPD
    by_cases h3 : pb = 76
    ·
     rw [h3] at HPB
     have H := Lib.hid (rf_3 (arr := !just) HE.out H1.out (by rw [HSS.out, HPD.out]) (by rw [HSS.out, HPB.out]))
     clear h1 h2 h3 hE hnn
     go_enter Tryz.func181, Tryz.ntmps181
     go_wp2_with (first | (go_at_call 173; refine (rutf_any i HN.out hN HP.out _ (Below.refl _ _)).mono ?_; rintro e w1 ⟨rfl, hb1⟩; rw [HTE.out, HSS.out]) | (go_at_call 125; refine (rparse_any s (by have := HS.out; omega) _).mono ?_; rintro e w3 ⟨rfl, hb3⟩; rw [HPE.out, HPD.out, HPB.out]; have hz3 := hb3.size))
     go_ret
     exact ⟨by rw [← HR.out, H.out]; rfl, below_al (below_on hb1 hb3) _⟩
    ·
     have H := Lib.hid (rf_4 (arr := !just) HE.out H1.out (fun e => h3 (by rw [← HPB.out, ← HSS.out]; exact e.2)))
     have e3 : (pb == 76) = false := by simpa using h3
     have H9 := Lib.hid (show r = false by rw [← HR.out, H.out, HSS.out, HPD.out]; simp)
     clear h1 h2 h3 hE hnn
     go_enter Tryz.func181, Tryz.ntmps181
     go_wp2_with (first | (go_at_call 173; refine (rutf_any i HN.out hN HP.out _ (Below.refl _ _)).mono ?_; rintro e w1 ⟨rfl, hb1⟩; rw [HTE.out, HSS.out]) | (go_at_call 125; refine (rparse_any s (by have := HS.out; omega) _).mono ?_; rintro e w3 ⟨rfl, hb3⟩; rw [HPE.out, HPD.out, HPB.out]; have hz3 := hb3.size))
     go_ret
     exact ⟨by rw [H9.out]; rfl, below_al (below_on hb1 hb3) _⟩
   ·
    have H := Lib.hid (rf_4 (arr := !just) HE.out H1.out (fun e => h2 (by rw [← HPD.out, ← HSS.out]; exact e.1)))
    have hpos : 0 < pd := by omega
    have H9 := Lib.hid (show r = !just by rw [← HR.out, H.out, HSS.out, HPD.out, decide_eq_true hpos, Bool.and_true])
    clear h1 hE
    go_enter Tryz.func181, Tryz.ntmps181
    go_wp2_with (first | (go_at_call 173; refine (rutf_any i HN.out hN HP.out _ (Below.refl _ _)).mono ?_; rintro e w1 ⟨rfl, hb1⟩; rw [HTE.out, HSS.out]) | (go_at_call 125; refine (rparse_any s (by have := HS.out; omega) _).mono ?_; rintro e w3 ⟨rfl, hb3⟩; rw [HPE.out, HPD.out, HPB.out]; have hz3 := hb3.size))
    go_ret
    exact ⟨by rw [H9.out]; rfl, below_al (below_on hb1 hb3) _⟩
  ·
   have H := Lib.hid (rf_2 (arr := !just) HE.out (by rw [HSS.out, HPE.out]; exact h1))
   have e1 : (pe != 0) = true := by simpa using h1
   clear hE
   go_enter Tryz.func181, Tryz.ntmps181
   go_wp2_with (first | (go_at_call 173; refine (rutf_any i HN.out hN HP.out _ (Below.refl _ _)).mono ?_; rintro e w1 ⟨rfl, hb1⟩; rw [HTE.out, HSS.out]) | (go_at_call 125; refine (rparse_any s (by have := HS.out; omega) _).mono ?_; rintro e w3 ⟨rfl, hb3⟩; rw [HPE.out, HPD.out, HPB.out]; have hz3 := hb3.size))
   go_ret
   exact ⟨by rw [← HR.out, H.out]; rfl, below_al (below_on hb1 hb3) _⟩
 ·
  have H := Lib.hid (rf_1 (arr := !just) (show ¬ tgE L i 1 = 0 by rw [HTE.out]; exact hE))
  have e0 : (te != 0) = true := by simpa using hE
  go_enter Tryz.func181, Tryz.ntmps181
  go_wp2_with (go_at_call 173; refine (rutf_any i HN.out hN HP.out _ (Below.refl _ _)).mono ?_; rintro e w1 ⟨rfl, hb1⟩; rw [HTE.out, HSS.out])
  go_ret
  exact ⟨by rw [← HR.out, H.out]; rfl, hb1⟩
end Go.Proofs.YtalejaklggnnpaaGreatDoor.I
