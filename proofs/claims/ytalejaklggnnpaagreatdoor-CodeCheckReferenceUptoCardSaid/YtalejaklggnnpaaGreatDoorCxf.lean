import Derived.Test.YtalejaklggnnpaaGreatDoorCiS
/- Layer 9, the reference: known. (gen/cxf.py) -/
namespace Go.Proofs.YtalejaklggnnpaaGreatDoor.I
open Go.ChangeShapes Go.WideShapes Go.ChangeAt Go.RowKit Go.PlainAid
set_option linter.unusedSimpArgs false
set_option linter.unusedVariables false
theorem kn_v {L : List Cn} {c : Cd} {v : VT} (h : tyE v.ty tyZ = true) : vvT L c v = (vkB c v && vpB L v) := by unfold vvT; rw [h, Bool.true_and]
theorem kn_p0 {L : List Cn} {v : VT} (h : v.k = 0 ∨ v.k = 1 ∨ v.k = 2 ∨ v.k = 3) : vpB L v = (v.p == 0) := by unfold vpB; rw [if_pos h]
theorem kn_p4 {L : List Cn} {v : VT} (h : v.k = 4 ∨ v.k = 5 ∨ v.k = 6) {b : Bool} (hb : (v.k == 4) = b) : vpB L v = rfB L v.p b := by unfold vpB; rw [if_neg (by omega), if_pos h, hb]
theorem kn_po {L : List Cn} {v : VT} (h : ¬ (v.k = 0 ∨ v.k = 1 ∨ v.k = 2 ∨ v.k = 3)) (h1 : ¬ (v.k = 4 ∨ v.k = 5 ∨ v.k = 6)) : vpB L v = false := by unfold vpB; rw [if_neg h, if_neg h1]
set_option maxRecDepth 100000 in
set_option maxHeartbeats 16000000 in
theorem r9known_any {A : Option Addr} {n cap : Nat} {L : List Cn} (c : Cd) (v : VT) (w : World) (hS : Fits L) (hn : L.length = n) (hN : n ≤ 100000) (hp : Pool w w.heap.size A L) (hok : c.c9 w) :
  Calls Tryz.prog 163 #[.slice A n cap, (Value.agg #[Value.int IntKind.i64 (Cd.st c), Value.int IntKind.i64 (Cd.lo c), Value.slice (Cd.iA c) (Cd.n c) (Cd.ic c), Value.slice (Cd.hA c) (Cd.hn c) (Cd.hc c), Value.slice (Cd.mA c) (Cd.mn c) (Cd.mc c), Value.slice (Cd.lA c) (Cd.ln c) (Cd.lc c)]), (Value.agg #[Value.int IntKind.i64 (VT.k v), Value.int IntKind.i64 (VT.n v), Value.int IntKind.i64 (VT.d v), Value.int IntKind.u8 (VT.b v), Value.string (VT.s v), Value.int IntKind.i64 (VT.p v)])] w fun e w' => e = .returned (.bool (vvT L c v)) ∧ Below w.heap.size w w' := by
 have HS := Lib.hid hS
 have HP := Lib.hid hp
 have HN := Lib.hid hn
 have OK := Lib.hid hok
 have hcn := hok.ib
 clear hS hp hn hok
 obtain ⟨r, hr⟩ : ∃ r, vvT L c v = r := ⟨_, rfl⟩
 have HR := Lib.hid hr
 rw [hr]
 clear hr
 obtain ⟨A9, hA⟩ : ∃ A, c.iA = A := ⟨_, rfl⟩
 have HA := Lib.hid hA
 clear hA
 go_enter Tryz.func163, Tryz.ntmps163
 go_upto_region 1 with fail
 obtain ⟨H0, H1, hB⟩ := two_laid9 w (.cells #[.int .i64 c.st, .int .i64 c.lo, .slice c.iA c.n c.ic, .slice c.hA c.hn c.hc, .slice c.mA c.mn c.mc, .slice c.lA c.ln c.lc] 28) (.cells #[.int .i64 v.k, .int .i64 v.n, .int .i64 v.d, .int .u8 v.b, .string v.s, .int .i64 v.p] 116)
 generalize (w.alloc (.cells #[.int .i64 c.st, .int .i64 c.lo, .slice c.iA c.n c.ic, .slice c.hA c.hn c.hc, .slice c.mA c.mn c.mc, .slice c.lA c.ln c.lc] 28)).alloc (.cells #[.int .i64 v.k, .int .i64 v.n, .int .i64 v.d, .int .u8 v.b, .string v.s, .int .i64 v.p] 116) = W at H0 H1 hB ⊢
 have RB := Lib.hid H0
 have XB := Lib.hid H1
 have HP1 := Lib.hid (HP.out.up hB)
 have OK1 := Lib.hid (OK.out.up hB)
 have HB := Lib.hid hB
 clear H0 H1 hB
 obtain ⟨r0, r1, r2, r3, r4, r5⟩ := six_cells RB.out
 obtain ⟨b0, b1, b2, b3, b4, b5⟩ := six_cells XB.out
 have yr := lt_heap RB.out
 have yb := lt_heap XB.out
 cases hty : tyE v.ty tyZ with
 | false =>
  have H := Lib.hid (vv_1 (L := L) (c := c) hty)
  have e1 := fun w => ty_neP (show tyE ⟨v.d, v.b, v.s⟩ ⟨0, 0, ⟨#[]⟩⟩ = false from hty) w
  go_wp2
  go_ret
  exact ⟨by rw [← HR.out, H.out]; rfl, HB.out⟩
 | true =>
  have e1 := fun w => ty_neP (show tyE ⟨v.d, v.b, v.s⟩ ⟨0, 0, ⟨#[]⟩⟩ = true from hty) w
  have HTY := Lib.hid hty
  clear hty
  go_upto_region 3 with fail
  clear e1
  by_cases h0 : v.k = 0
  ·
   have H := Lib.hid (show r = ((v.n == 0) && (v.p == 0)) by rw [← HR.out, kn_v HTY.out, kn_p0 (by omega), vk_n5 (by omega)])
   rw [h0] at b0
   clear h0
   cases hn0 : (v.n == 0) with
   | false => go_wp2; go_ret; exact ⟨by rw [H.out, hn0]; rfl, HB.out⟩
   | true =>
    cases hp0 : (v.p == 0) with
    | false => go_wp2; go_ret; exact ⟨by rw [H.out, hn0, hp0]; rfl, HB.out⟩
    | true => go_wp2; go_ret; exact ⟨by rw [H.out, hn0, hp0]; rfl, HB.out⟩
  by_cases h1 : v.k = 1
  ·
   have H := Lib.hid (show r = ((v.n == 0) && (v.p == 0)) by rw [← HR.out, kn_v HTY.out, kn_p0 (by omega), vk_n5 (by omega)])
   rw [h1] at b0
   clear h0 h1
   cases hn0 : (v.n == 0) with
   | false => go_wp2; go_ret; exact ⟨by rw [H.out, hn0]; rfl, HB.out⟩
   | true =>
    cases hp0 : (v.p == 0) with
    | false => go_wp2; go_ret; exact ⟨by rw [H.out, hn0, hp0]; rfl, HB.out⟩
    | true => go_wp2; go_ret; exact ⟨by rw [H.out, hn0, hp0]; rfl, HB.out⟩
  by_cases h2 : v.k = 2
  ·
   have H := Lib.hid (show r = ((v.n == 0) && (v.p == 0)) by rw [← HR.out, kn_v HTY.out, kn_p0 (by omega), vk_n5 (by omega)])
   rw [h2] at b0
   clear h0 h1 h2
   cases hn0 : (v.n == 0) with
   | false => go_wp2; go_ret; exact ⟨by rw [H.out, hn0]; rfl, HB.out⟩
   | true =>
    cases hp0 : (v.p == 0) with
    | false => go_wp2; go_ret; exact ⟨by rw [H.out, hn0, hp0]; rfl, HB.out⟩
    | true => go_wp2; go_ret; exact ⟨by rw [H.out, hn0, hp0]; rfl, HB.out⟩
  by_cases h3 : v.k = 3
  ·
   have H := Lib.hid (show r = ((v.n == 0) && (v.p == 0)) by rw [← HR.out, kn_v HTY.out, kn_p0 (by omega), vk_n5 (by omega)])
   rw [h3] at b0
   clear h0 h1 h2 h3
   cases hn0 : (v.n == 0) with
   | false => go_wp2; go_ret; exact ⟨by rw [H.out, hn0]; rfl, HB.out⟩
   | true =>
    cases hp0 : (v.p == 0) with
    | false => go_wp2; go_ret; exact ⟨by rw [H.out, hn0, hp0]; rfl, HB.out⟩
    | true => go_wp2; go_ret; exact ⟨by rw [H.out, hn0, hp0]; rfl, HB.out⟩
  by_cases h4 : v.k = 4
  ·
   obtain ⟨bb, hbb⟩ : ∃ b, rfB L v.p (!false) = b := ⟨_, rfl⟩
   have HRB := Lib.hid hbb
   clear hbb
   have H := Lib.hid (show r = ((v.n == 0) && bb) by rw [← HR.out, kn_v HTY.out, kn_p4 (b := !false) (by omega) (by rw [h4]; rfl), vk_n5 (by omega), HRB.out])
   rw [h4] at b0
   clear h0 h1 h2 h3 h4
   cases hn0 : (v.n == 0) with
   | false => go_wp2; go_ret; exact ⟨by rw [H.out, hn0]; rfl, HB.out⟩
   | true =>
    go_wp2_with (go_at_call 181; (with_reducible refine (r9typed_any v.p false _ HS.out HN.out hN HP1.out).mono ?_); rintro e w2 ⟨rfl, hb2⟩; rw [show rfB L v.p (!false) = bb from HRB.out])
    go_ret
    exact ⟨by rw [H.out, hn0]; rfl, below_on HB.out hb2⟩
  by_cases h6 : v.k = 6
  ·
   obtain ⟨bb, hbb⟩ : ∃ b, rfB L v.p (!true) = b := ⟨_, rfl⟩
   have HRB := Lib.hid hbb
   clear hbb
   have H := Lib.hid (show r = ((v.n == 0) && bb) by rw [← HR.out, kn_v HTY.out, kn_p4 (b := !true) (by omega) (by rw [h6]; rfl), vk_n5 (by omega), HRB.out])
   rw [h6] at b0
   clear h0 h1 h2 h3 h4 h6
   cases hn0 : (v.n == 0) with
   | false => go_wp2; go_ret; exact ⟨by rw [H.out, hn0]; rfl, HB.out⟩
   | true =>
    go_wp2_with (go_at_call 181; (with_reducible refine (r9typed_any v.p true _ HS.out HN.out hN HP1.out).mono ?_); rintro e w2 ⟨rfl, hb2⟩; rw [show rfB L v.p (!true) = bb from HRB.out])
    go_ret
    exact ⟨by rw [H.out, hn0]; rfl, below_on HB.out hb2⟩
  by_cases h5 : v.k = 5
  ·
   have H5 := Lib.hid h5
   rw [h5] at b0
   obtain ⟨bb, hbb⟩ : ∃ b, rfB L v.p (!true) = b := ⟨_, rfl⟩
   have HRB := Lib.hid hbb
   clear hbb
   have H := Lib.hid (show r = (vkB c v && bb) by rw [← HR.out, kn_v HTY.out, kn_p4 (b := !true) (by omega) (by rw [H5.out]; rfl), HRB.out])
   clear h0 h1 h2 h3 h4 h5 h6
   have hex2 : exB c.n v.n = decide (0 ≤ v.n ∧ v.n < (c.n : Int)) := rfl
   cases hex : exB c.n v.n with
   | false =>
    have HVK := Lib.hid (vk_5a H5.out hex)
    rw [hex] at hex2
    have hex3 := of_decide_eq_false hex2.symm
    clear hex hex2
    by_cases hneg : 0 ≤ v.n
    ·
     have hlt : ¬ v.n < (c.n : Int) := fun e => hex3 ⟨hneg, e⟩
     clear hex3
     go_wp2
     go_ret
     exact ⟨by rw [H.out, HVK.out]; rfl, HB.out⟩
    ·
     clear hex3
     go_wp2
     go_ret
     exact ⟨by rw [H.out, HVK.out]; rfl, HB.out⟩
   | true =>
    rw [hex] at hex2
    obtain ⟨ht0, ht1⟩ := of_decide_eq_true hex2.symm
    clear hex2
    obtain ⟨i, hi⟩ := get_someF (l := c.is) (k := v.n.toNat) (by rw [OK1.out.il]; omega)
    have HVK := Lib.hid (vk_5b H5.out hex hi)
    clear hex
    have hiw := OK1.out.iw
    rw [HA.out] at hiw r2
    rcases hiw with h0 | ⟨g, o, rfl, hg, hcell⟩
    ·
     rw [h0] at hi; simp at hi
    ·
     obtain ⟨_, a0, _⟩ := hcell v.n.toNat _ hi
     clear hcell hi
     obtain ⟨vn, hv2⟩ : ∃ vn : Nat, v.n = (vn : Int) := ⟨v.n.toNat, by omega⟩
     rw [hv2] at b1 ht0 ht1
     have hv3 : v.n.toNat = vn := by rw [hv2]; exact Int.toNat_natCast _
     rw [hv3] at a0
     clear hv2 hv3
     cases hop : (i.op == 67) with
     | false => go_wp2; go_ret; exact ⟨by rw [H.out, HVK.out, hop]; rfl, HB.out⟩
     | true =>
      go_wp2_with (go_at_call 181; (with_reducible refine (r9typed_any v.p true _ HS.out HN.out hN HP1.out).mono ?_); rintro e w2 ⟨rfl, hb2⟩; rw [show rfB L v.p (!true) = bb from HRB.out])
      go_ret
      exact ⟨by rw [H.out, HVK.out, hop]; rfl, below_on HB.out hb2⟩
  ·
   have H := Lib.hid (show r = false by rw [← HR.out, kn_v HTY.out, kn_po (by omega) (by omega), Bool.and_false])
   have f0 : (v.k == 0) = false := by simpa using h0
   have f1 : (v.k == 1) = false := by simpa using h1
   have f2 : (v.k == 2) = false := by simpa using h2
   have f3 : (v.k == 3) = false := by simpa using h3
   have f4 : (v.k == 4) = false := by simpa using h4
   have f5 : (v.k == 5) = false := by simpa using h5
   have f6 : (v.k == 6) = false := by simpa using h6
   clear h0 h1 h2 h3 h4 h5 h6
   go_wp2
   go_ret
   exact ⟨by rw [H.out]; rfl, HB.out⟩
end Go.Proofs.YtalejaklggnnpaaGreatDoor.I
