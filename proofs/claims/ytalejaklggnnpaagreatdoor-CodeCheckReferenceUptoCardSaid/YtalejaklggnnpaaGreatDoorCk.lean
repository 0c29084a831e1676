import Derived.Test.YtalejaklggnnpaaGreatDoorCj
/- Layer 9: validMap, validHandler. -/
namespace Go.Proofs.YtalejaklggnnpaaGreatDoor.I
open Go.ChangeShapes Go.WideShapes Go.ChangeAt Go.RowKit Go.PlainAid
set_option linter.unusedSimpArgs false
set_option linter.unusedVariables false
theorem three_laid9 (w : World) (o1 o2 o3 : Obj) : (((w.alloc o1).alloc o2).alloc o3).heap[w.heap.size]? = some o1 ∧ (((w.alloc o1).alloc o2).alloc o3).heap[w.heap.size + 1]? = some o2 ∧ (((w.alloc o1).alloc o2).alloc o3).heap[w.heap.size + 1 + 1]? = some o3 ∧ Below w.heap.size w (((w.alloc o1).alloc o2).alloc o3) := by
 obtain ⟨h1, h2, hb⟩ := two_laid9 w o1 o2
 refine ⟨laid_old h1, laid_old h2, ?_, below_al hb _⟩
 have := World.alloc_heap_new ((w.alloc o1).alloc o2) o3
 simpa using this
theorem four_cells9 {W : World} {B : Nat} {a b c d : Value} {t : TypeId} (hh : W.heap[B]? = some (.cells #[a, b, c, d] t)) :
  W.cell? ⟨B, 0, none⟩ = some a ∧ W.cell? ⟨B, 1, none⟩ = some b ∧ W.cell? ⟨B, 2, none⟩ = some c ∧ W.cell? ⟨B, 3, none⟩ = some d := by
 refine ⟨?_, ?_, ?_, ?_⟩ <;> simp [World.cell?, hh]
def mpB (L : List Cn) (c : Cd) (x : Int) (f : FM) : Bool :=
 if exB c.n x = false ∨ c.lo < f.n1 ∨ c.st < f.n2 then false else !f.P.any (nvB L c) && !f.Q.any (nvB L c)
theorem mp_1 {L : List Cn} {c : Cd} {x : Int} {f : FM} (h : exB c.n x = false ∨ c.lo < f.n1 ∨ c.st < f.n2) : mpB L c x f = false := by unfold mpB; rw [if_pos h]
theorem mp_2 {L : List Cn} {c : Cd} {x : Int} {f : FM} (h : ¬ (exB c.n x = false ∨ c.lo < f.n1 ∨ c.st < f.n2)) : mpB L c x f = (!f.P.any (nvB L c) && !f.Q.any (nvB L c)) := by unfold mpB; rw [if_neg h]
set_option maxRecDepth 100000 in
set_option maxHeartbeats 16000000 in
theorem cvp_any {A : Option Addr} {n cap : Nat} {L : List Cn} (c : Cd) (x : Int) (f : FM) (w : World) (hS : Fits L) (hn : L.length = n) (hN : n ≤ 100000) (hp : Pool w w.heap.size A L) (hok : c.c9 w) (hf : f.ok w) :
  Calls Tryz.prog 27 #[.slice A n cap, (Value.agg #[Value.int IntKind.i64 (Cd.st c), Value.int IntKind.i64 (Cd.lo c), Value.slice (Cd.iA c) (Cd.n c) (Cd.ic c), Value.slice (Cd.hA c) (Cd.hn c) (Cd.hc c), Value.slice (Cd.mA c) (Cd.mn c) (Cd.mc c), Value.slice (Cd.lA c) (Cd.ln c) (Cd.lc c)]), .agg #[.int .i64 x, .slice f.A1 f.n1 f.c1, .slice f.A2 f.n2 f.c2, .bool f.u]] w fun e w' => e = .returned (.bool (mpB L c x f)) ∧ Below w.heap.size w w' := by
 have hl1 := hf.l1
 have hx1 := hf.x1
 have hl2 := hf.l2
 have hx2 := hf.x2
 have K1 := Lib.hid (fun (B1 B2 : Nat) (W : World) (hW : Below w.heap.size w W) (hc : Cap A n cap c B1 B2 W) => cfv_any (c2 := f.c1) c B1 B2 W hS hn hN (hp.up hW) (hok.up hW) hc (hf.vp.up hW) hf.lp (by omega))
 have K2 := Lib.hid (fun (B1 B2 : Nat) (W : World) (hW : Below w.heap.size w W) (hc : Cap A n cap c B1 B2 W) => cfv_any (c2 := f.c2) c B1 B2 W hS hn hN (hp.up hW) (hok.up hW) hc (hf.vq.up hW) hf.lq (by omega))
 obtain ⟨r, hr⟩ : ∃ r, mpB L c x f = r := ⟨_, rfl⟩
 have HR := Lib.hid hr
 rw [hr]
 obtain ⟨b1, h1⟩ : ∃ b, f.P.any (nvB L c) = b := ⟨_, rfl⟩
 obtain ⟨b2, h2⟩ : ∃ b, f.Q.any (nvB L c) = b := ⟨_, rfl⟩
 have HB1 := Lib.hid h1
 have HB2 := Lib.hid h2
 rw [h1] at K1
 rw [h2] at K2
 clear hS hn hN hp hok hf hr h1 h2
 go_enter Tryz.func27, Tryz.ntmps27
 go_upto_region 1 with fail
 obtain ⟨H0, H1, H2, hB⟩ := three_laid9 w (.cells #[.slice A n cap] 22) (.cells #[.int .i64 c.st, .int .i64 c.lo, .slice c.iA c.n c.ic, .slice c.hA c.hn c.hc, .slice c.mA c.mn c.mc, .slice c.lA c.ln c.lc] 28) (.cells #[.int .i64 x, .slice f.A1 f.n1 f.c1, .slice f.A2 f.n2 f.c2, .bool f.u] 64)
 generalize ((w.alloc (.cells #[.slice A n cap] 22)).alloc (.cells #[.int .i64 c.st, .int .i64 c.lo, .slice c.iA c.n c.ic, .slice c.hA c.hn c.hc, .slice c.mA c.mn c.mc, .slice c.lA c.ln c.lc] 28)).alloc (.cells #[.int .i64 x, .slice f.A1 f.n1 f.c1, .slice f.A2 f.n2 f.c2, .bool f.u] 64) = W at H0 H1 H2 hB ⊢
 have RP := Lib.hid H0
 have RB := Lib.hid H1
 have XB := Lib.hid H2
 have HB := Lib.hid hB
 clear H0 H1 H2 hB
 obtain ⟨r0, r1, r2, r3, r4, r5⟩ := six_cells RB.out
 obtain ⟨a0, a1, a2, a3⟩ := four_cells9 XB.out
 have yr := lt_heap RB.out
 have yb := lt_heap XB.out
 cases hex : exB c.n x with
 | false =>
  have HET := Lib.hid hex
  have H := Lib.hid (mp_1 (L := L) (c := c) (f := f) (Or.inl hex))
  clear hex
  go_wp2_with (go_at_call 28; (with_reducible refine (cex_gen _ _).mono ?_); rintro e w2 ⟨rfl, hb2⟩; rw [HET.out]; obtain ⟨hc2, hf2⟩ := bcell hb2; have hz2 := hb2.size; have hz3 := Nat.lt_of_lt_of_le yr hz2; have hz4 := Nat.lt_of_lt_of_le yb hz2)
  go_ret
  exact ⟨by rw [← HR.out, H.out]; rfl, below_on HB.out hb2⟩
 | true =>
  have HET := Lib.hid hex
  by_cases h3 : c.lo < f.n1
  ·
   have H := Lib.hid (mp_1 (L := L) (x := x) (Or.inr (Or.inl h3)))
   clear hex
   go_wp2_with (go_at_call 28; (with_reducible refine (cex_gen _ _).mono ?_); rintro e w2 ⟨rfl, hb2⟩; rw [HET.out]; obtain ⟨hc2, hf2⟩ := bcell hb2; have hz2 := hb2.size; have hz3 := Nat.lt_of_lt_of_le yr hz2; have hz4 := Nat.lt_of_lt_of_le yb hz2)
   go_ret
   exact ⟨by rw [← HR.out, H.out]; rfl, below_on HB.out hb2⟩
  ·
   by_cases h4 : c.st < f.n2
   ·
    have H := Lib.hid (mp_1 (L := L) (x := x) (Or.inr (Or.inr h4)))
    clear hex
    go_wp2_with (go_at_call 28; (with_reducible refine (cex_gen _ _).mono ?_); rintro e w2 ⟨rfl, hb2⟩; rw [HET.out]; obtain ⟨hc2, hf2⟩ := bcell hb2; have hz2 := hb2.size; have hz3 := Nat.lt_of_lt_of_le yr hz2; have hz4 := Nat.lt_of_lt_of_le yb hz2)
    go_ret
    exact ⟨by rw [← HR.out, H.out]; rfl, below_on HB.out hb2⟩
   ·
    have H := Lib.hid (mp_2 (L := L) (c := c) (x := x) (f := f) (by rw [hex]; rintro (e | e | e); cases e; exact h3 e; exact h4 e))
    have H9 := Lib.hid (show r = (!b1 && !b2) by rw [← HR.out, H.out, HB1.out, HB2.out])
    clear hex
    go_upto_region 4 with (go_at_call 28; (with_reducible refine (cex_gen _ _).mono ?_); rintro e w2 ⟨rfl, hb2⟩; rw [HET.out]; obtain ⟨hc2, hf2⟩ := bcell hb2; have hz2 := hb2.size; have hz3 := Nat.lt_of_lt_of_le yr hz2; have hz4 := Nat.lt_of_lt_of_le yb hz2)
    have XB2 := Lib.hid ((hb2.block _ yb).trans XB.out)
    have HBw := Lib.hid (below_on HB.out hb2)
    have HC := Lib.hid (Cap.mk (A := A) (n := n) (cap := cap) (c := c) (B1 := w.heap.size) (B2 := w.heap.size + 1) ((hb2.block _ (lt_heap RP.out)).trans RP.out) ((hb2.block _ yr).trans RB.out))
    clear r0 r1 r2 r3 r4 r5 a0 a1 a2 a3 yr yb RP RB XB HB
    try clear hc2 hf2 hz2 hz3 hz4
    obtain ⟨a0, a1, a2, a3⟩ := four_cells9 XB2.out
    have yb := lt_heap XB2.out
    cases b1 with
    | true =>
     go_wp2_with (go_at_call 66; (with_reducible refine (K1.out _ _ _ HBw.out HC.out).mono ?_); rintro e w3 ⟨rfl, hb3⟩)
     go_ret
     exact ⟨by rw [H9.out]; rfl, below_on HBw.out hb3⟩
    | false =>
     go_wp2_with (first | (go_at_call 66; (with_reducible refine (K1.out _ _ _ HBw.out HC.out).mono ?_); rintro e w3 ⟨rfl, hb3⟩; obtain ⟨hc3, hf3⟩ := bcell hb3; have hz3 := hb3.size; have hz4 := Nat.lt_of_lt_of_le yb hz3) | (go_at_call 66; (with_reducible refine (K2.out _ _ _ (below_on HBw.out hb3) (HC.out.up hb3)).mono ?_); rintro e w4 ⟨rfl, hb4⟩))
     go_ret
     exact ⟨by rw [H9.out]; rfl, below_on (below_on HBw.out hb3) hb4⟩
def hlB (L : List Cn) (c : Cd) (h : Hd) : Bool :=
 if h.f < 0 ∨ h.t ≤ h.f ∨ (c.n : Int) < h.t ∨ exB c.n h.g = false ∨ ¬ h.s.toList = [] then false else if h.k = 0 then true else decide (nmE L h.k 7 = 0) && !arB (nmS L h.k 7)
theorem hl_1 {L : List Cn} {c : Cd} {h : Hd} (e : h.f < 0 ∨ h.t ≤ h.f ∨ (c.n : Int) < h.t ∨ exB c.n h.g = false ∨ ¬ h.s.toList = []) : hlB L c h = false := by unfold hlB; rw [if_pos e]
theorem hl_2 {L : List Cn} {c : Cd} {h : Hd} (e : ¬ (h.f < 0 ∨ h.t ≤ h.f ∨ (c.n : Int) < h.t ∨ exB c.n h.g = false ∨ ¬ h.s.toList = [])) (e1 : h.k = 0) : hlB L c h = true := by unfold hlB; rw [if_neg e, if_pos e1]
theorem hl_3 {L : List Cn} {c : Cd} {h : Hd} (e : ¬ (h.f < 0 ∨ h.t ≤ h.f ∨ (c.n : Int) < h.t ∨ exB c.n h.g = false ∨ ¬ h.s.toList = [])) (e1 : ¬ h.k = 0) (e2 : ¬ nmE L h.k 7 = 0) : hlB L c h = false := by unfold hlB; rw [if_neg e, if_neg e1, decide_eq_false e2]; rfl
theorem hl_4 {L : List Cn} {c : Cd} {h : Hd} {b : Bool} (e : ¬ (h.f < 0 ∨ h.t ≤ h.f ∨ (c.n : Int) < h.t ∨ exB c.n h.g = false ∨ ¬ h.s.toList = [])) (e1 : ¬ h.k = 0) (e2 : nmE L h.k 7 = 0) (e3 : arB (nmS L h.k 7) = b) : hlB L c h = !b := by unfold hlB; rw [if_neg e, if_neg e1, decide_eq_true e2, e3]; rfl
set_option maxRecDepth 100000 in
set_option maxHeartbeats 16000000 in
theorem cvh_any {A : Option Addr} {n cap : Nat} {L : List Cn} (c : Cd) (h : Hd) (w : World) (hn : L.length = n) (hN : n ≤ 100000) (hp : Pool w w.heap.size A L) :
  Calls Tryz.prog 26 #[.slice A n cap, (Value.agg #[Value.int IntKind.i64 (Cd.st c), Value.int IntKind.i64 (Cd.lo c), Value.slice (Cd.iA c) (Cd.n c) (Cd.ic c), Value.slice (Cd.hA c) (Cd.hn c) (Cd.hc c), Value.slice (Cd.mA c) (Cd.mn c) (Cd.mc c), Value.slice (Cd.lA c) (Cd.ln c) (Cd.lc c)]), .agg #[.int .i64 h.f, .int .i64 h.t, .int .i64 h.g, .int .i64 h.k, .string h.s]] w fun e w' => e = .returned (.bool (hlB L c h)) ∧ Below w.heap.size w w' := by
 have HP := Lib.hid hp
 have HN := Lib.hid hn
 clear hp hn
 obtain ⟨r, hr⟩ : ∃ r, hlB L c h = r := ⟨_, rfl⟩
 have HR := Lib.hid hr
 rw [hr]
 clear hr
 go_enter Tryz.func26, Tryz.ntmps26
 go_upto_region 1 with fail
 obtain ⟨H0, H1, hB⟩ := two_laid9 w (.cells #[.int .i64 c.st, .int .i64 c.lo, .slice c.iA c.n c.ic, .slice c.hA c.hn c.hc, .slice c.mA c.mn c.mc, .slice c.lA c.ln c.lc] 28) (.cells #[.int .i64 h.f, .int .i64 h.t, .int .i64 h.g, .int .i64 h.k, .string h.s] 58)
 generalize (w.alloc (.cells #[.int .i64 c.st, .int .i64 c.lo, .slice c.iA c.n c.ic, .slice c.hA c.hn c.hc, .slice c.mA c.mn c.mc, .slice c.lA c.ln c.lc] 28)).alloc (.cells #[.int .i64 h.f, .int .i64 h.t, .int .i64 h.g, .int .i64 h.k, .string h.s] 58) = W at H0 H1 hB ⊢
 have RB := Lib.hid H0
 have XB := Lib.hid H1
 have HP1 := Lib.hid (HP.out.up hB)
 have HB := Lib.hid hB
 clear H0 H1 hB
 obtain ⟨r0, r1, r2, r3, r4, r5⟩ := six_cells RB.out
 obtain ⟨b0, b1, b2, b3, b4, _⟩ := five_cells XB.out
 have yr := lt_heap RB.out
 have yb := lt_heap XB.out
 by_cases h1 : h.f < 0
 ·
  have H := Lib.hid (hl_1 (L := L) (c := c) (Or.inl h1))
  go_wp2
  go_ret
  exact ⟨by rw [← HR.out, H.out]; rfl, HB.out⟩
 ·
  by_cases h2 : h.t ≤ h.f
  ·
   have H := Lib.hid (hl_1 (L := L) (c := c) (Or.inr (Or.inl h2)))
   go_wp2
   go_ret
   exact ⟨by rw [← HR.out, H.out]; rfl, HB.out⟩
  ·
   by_cases h3 : (c.n : Int) < h.t
   ·
    have H := Lib.hid (hl_1 (L := L) (c := c) (Or.inr (Or.inr (Or.inl h3))))
    go_wp2
    go_ret
    exact ⟨by rw [← HR.out, H.out]; rfl, HB.out⟩
   ·
    cases hex : exB c.n h.g with
    | false =>
     have HET := Lib.hid hex
     have H := Lib.hid (hl_1 (L := L) (c := c) (Or.inr (Or.inr (Or.inr (Or.inl hex)))))
     clear hex
     go_wp2_with (go_at_call 28; (with_reducible refine (cex_gen _ _).mono ?_); rintro e w2 ⟨rfl, hb2⟩; rw [HET.out]; obtain ⟨hc2, hf2⟩ := bcell hb2; have hz2 := hb2.size; have hz3 := Nat.lt_of_lt_of_le yr hz2; have hz4 := Nat.lt_of_lt_of_le yb hz2)
     go_ret
     exact ⟨by rw [← HR.out, H.out]; rfl, below_on HB.out hb2⟩
    | true =>
     have HET := Lib.hid hex
     by_cases h5 : h.s.toList = []
     ·
      have HNO := Lib.hid (show ¬ (h.f < 0 ∨ h.t ≤ h.f ∨ (c.n : Int) < h.t ∨ exB c.n h.g = false ∨ ¬ h.s.toList = []) by rw [hex]; rintro (e | e | e | e | e); exact h1 e; exact h2 e; exact h3 e; cases e; exact e h5)
      clear hex
      go_upto_region 3 with (go_at_call 28; (with_reducible refine (cex_gen _ _).mono ?_); rintro e w2 ⟨rfl, hb2⟩; rw [HET.out]; obtain ⟨hc2, hf2⟩ := bcell hb2; have hz2 := hb2.size; have hz3 := Nat.lt_of_lt_of_le yr hz2; have hz4 := Nat.lt_of_lt_of_le yb hz2)
      have XB2 := Lib.hid ((hb2.block _ yb).trans XB.out)
      have HBw := Lib.hid (below_on HB.out hb2)
      have HP2 := Lib.hid (HP1.out.up hb2)
      clear r0 r1 r2 r3 r4 r5 b0 b1 b2 b3 b4 yr yb RB XB HB HP1 h1 h2 h3 h5
      try clear hc2 hf2 hz2 hz3 hz4
      obtain ⟨b0, b1, b2, b3, b4, _⟩ := five_cells XB2.out
      have yb := lt_heap XB2.out
      obtain ⟨k, hk⟩ : ∃ k, h.k = k := ⟨_, rfl⟩
      have HK := Lib.hid hk
      rw [hk] at b3
      clear hk
      by_cases hk0 : k = 0
      ·
       have H := Lib.hid (hl_2 (L := L) HNO.out (by rw [HK.out]; exact hk0))
       rw [hk0] at b3
       go_wp2
       go_ret
       exact ⟨by rw [← HR.out, H.out]; rfl, HBw.out⟩
      ·
       have ek : (k == 0) = false := by simpa using hk0
       obtain ⟨ne, hne⟩ : ∃ x, nmE L k 7 = x := ⟨_, rfl⟩
       have HNE := Lib.hid hne
       obtain ⟨ns, hns⟩ : ∃ x, nmS L k 7 = x := ⟨_, rfl⟩
       have HNS := Lib.hid hns
       clear hne hns
       by_cases hn0 : ne = 0
       ·
        have H := Lib.hid (hl_4 (L := L) HNO.out (by rw [HK.out]; exact hk0) (by rw [HK.out, HNE.out]; exact hn0) (by rw [HK.out, HNS.out]))
        rw [hn0] at HNE
        go_wp2_with (first | (go_at_call 62; refine (cn_any k HN.out hN HP2.out _ (Below.refl _ _)).mono ?_; rintro e w3 ⟨rfl, hb3⟩; rw [HNE.out, HNS.out]) | (go_at_call 63; refine (ar_any _ _).mono ?_; rintro e w' ⟨rfl, rfl⟩))
        go_ret
        exact ⟨by rw [← HR.out, H.out]; rfl, below_on HBw.out hb3⟩
       ·
        have H := Lib.hid (hl_3 (L := L) HNO.out (by rw [HK.out]; exact hk0) (by rw [HK.out, HNE.out]; exact hn0))
        have en : (ne == 0) = false := by simpa using hn0
        go_wp2_with (go_at_call 62; refine (cn_any k HN.out hN HP2.out _ (Below.refl _ _)).mono ?_; rintro e w3 ⟨rfl, hb3⟩; rw [HNE.out, HNS.out])
        go_ret
        exact ⟨by rw [← HR.out, H.out]; rfl, below_on HBw.out hb3⟩
     ·
      have H := Lib.hid (hl_1 (L := L) (c := c) (Or.inr (Or.inr (Or.inr (Or.inr h5)))))
      have e5 : h.s.toList.isEmpty = false := by
       cases hh : h.s.toList with
       | nil => exact absurd hh h5
       | cons _ _ => rfl
      clear hex
      go_wp2_with (go_at_call 28; (with_reducible refine (cex_gen _ _).mono ?_); rintro e w2 ⟨rfl, hb2⟩; rw [HET.out]; obtain ⟨hc2, hf2⟩ := bcell hb2; have hz2 := hb2.size; have hz3 := Nat.lt_of_lt_of_le yr hz2; have hz4 := Nat.lt_of_lt_of_le yb hz2)
      go_ret
      exact ⟨by rw [← HR.out, H.out]; rfl, below_on HB.out hb2⟩
end Go.Proofs.YtalejaklggnnpaaGreatDoor.I
