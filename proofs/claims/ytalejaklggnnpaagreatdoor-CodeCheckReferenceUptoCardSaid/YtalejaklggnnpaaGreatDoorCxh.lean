import Derived.Test.YtalejaklggnnpaaGreatDoorCxg
import Derived.Test.YtalejaklggnnpaaGreatDoorCl
import Derived.BigQuiet
/- Layer 9, the reference: mapped. (gen/cxg.py) -/
namespace Go.Proofs.YtalejaklggnnpaaGreatDoor.I
open Go.ChangeShapes Go.WideShapes Go.ChangeAt Go.RowKit Go.PlainAid
set_option linter.unusedSimpArgs false
set_option linter.unusedVariables false
set_option maxRecDepth 100000 in
set_option maxHeartbeats 20000000 in
theorem r9mapped_any {A : Option Addr} {n cap : Nat} {L : List Cn} {ms : List SM} (c : Cd) (j : Nat) (w : World) (hS : Fits L) (hn : L.length = n) (hN : n ≤ 100000) (hp : Pool w w.heap.size A L) (hok : c.c9 w) (hml : ms.length = c.mn) (hM : c.mn ≤ 1000000) (hw : SMs w c.mA ms) (hj : j < c.mn) :
  Calls Tryz.prog 75 #[.slice A n cap, (Value.agg #[Value.int IntKind.i64 (Cd.st c), Value.int IntKind.i64 (Cd.lo c), Value.slice (Cd.iA c) (Cd.n c) (Cd.ic c), Value.slice (Cd.hA c) (Cd.hn c) (Cd.hc c), Value.slice (Cd.mA c) (Cd.mn c) (Cd.mc c), Value.slice (Cd.lA c) (Cd.ln c) (Cd.lc c)]), .int .i64 (j : Int)] w fun e w' => e = .returned (.bool (!smP L c ms j)) ∧ Below w.heap.size w w' := by
 have hB : Below w.heap.size w w := Below.refl _ _
 have hcn := hok.ib
 have KP := Lib.hid (fun (A2 : Option Addr) (m c2 : Nat) (P : List VT) (W : World) (hW : Below w.heap.size w W) => r9places_any (cap := cap) (A2 := A2) (m := m) (c2 := c2) (P := P) c W hS hn hN (hp.up hW) (hok.up hW))
 have HML := Lib.hid hml
 have HW := Lib.hid hw
 obtain ⟨r, hr⟩ : ∃ r, smP L c ms j = r := ⟨_, rfl⟩
 have HR := Lib.hid hr
 rw [hr]
 obtain ⟨mA, hmA⟩ : ∃ A, c.mA = A := ⟨_, rfl⟩
 have HMA := Lib.hid hmA
 clear hS hn hN hp hok hml hw hr hmA
 go_enter Tryz.func75, Tryz.ntmps75
 go_upto_region 1 with fail
 have R := World.alloc_heap_new w (.cells #[.int .i64 c.st, .int .i64 c.lo, .slice c.iA c.n c.ic, .slice c.hA c.hn c.hc, .slice c.mA c.mn c.mc, .slice c.lA c.ln c.lc] 28)
 replace hB := below_al hB (.cells #[.int .i64 c.st, .int .i64 c.lo, .slice c.iA c.n c.ic, .slice c.hA c.hn c.hc, .slice c.mA c.mn c.mc, .slice c.lA c.ln c.lc] 28)
 generalize w.alloc (.cells #[.int .i64 c.st, .int .i64 c.lo, .slice c.iA c.n c.ic, .slice c.hA c.hn c.hc, .slice c.mA c.mn c.mc, .slice c.lA c.ln c.lc] 28) = W1 at R hB ⊢
 obtain ⟨r0, r1, r2, r3, r4, r5⟩ := six_cells R
 have y1 := lt_heap R
 replace R := Lib.hid R
 have hmw := HW.out.up hB
 have HB := Lib.hid hB
 rw [HMA.out] at hmw r4
 clear hB HW
 obtain ⟨m, hm⟩ := get_someF (l := ms) (k := j) (by rw [HML.out]; exact hj)
 rcases hmw with h0 | ⟨g, o, rfl, hg, hcell⟩
 ·
  rw [h0] at hm; simp at hm
 ·
  obtain ⟨fok, a0, a1, a2, a3⟩ := hcell j m hm
  have hj0 : (0 : Int) ≤ (j : Int) := by omega
  have hj1 : (j : Int) < (c.mn : Int) := by omega
  go_upto_region 2 with fail
  have hX2 := World.alloc_heap_new W1 (.cells #[.int .i64 m.x, .slice m.f.A1 m.f.n1 m.f.c1, .slice m.f.A2 m.f.n2 m.f.c2, .bool m.f.u] 64)
  have hbl := below_al (Below.refl _ W1) (.cells #[.int .i64 m.x, .slice m.f.A1 m.f.n1 m.f.c1, .slice m.f.A2 m.f.n2 m.f.c2, .bool m.f.u] 64)
  generalize hbb : W1.heap.size = b at hX2 ⊢
  generalize W1.alloc (.cells #[.int .i64 m.x, .slice m.f.A1 m.f.n1 m.f.c1, .slice m.f.A2 m.f.n2 m.f.c2, .bool m.f.u] 64) = W2 at hX2 hbl ⊢
  have XB := Lib.hid hX2
  have RB2 := Lib.hid ((hbl.block _ y1).trans R.out)
  have HB2 := Lib.hid (below_on HB.out hbl)
  have FOK2 := Lib.hid (fok.up hbl)
  have HCW := Lib.hid (fun (a : Addr) (ha : a.block < W1.heap.size) => hbl.cell (p := a) ha)
  have hgg : g < W2.heap.size := Nat.lt_of_lt_of_le hg hbl.size
  have HCELL := Lib.hid hcell
  have HM := Lib.hid hm
  clear hX2 hbb a0 a1 a2 a3 r0 r1 r2 r3 r4 r5 hbl fok hcell
  clear y1
  obtain ⟨b0, b1, b2, b3⟩ := four_cells9 XB.out
  obtain ⟨r0, r1, r2, r3, r4, r5⟩ := six_cells RB2.out
  rw [HMA.out] at r4
  have yb := lt_heap XB.out
  have yr := lt_heap RB2.out
  by_cases hz : j = 0
  ·
   have HSM := Lib.hid (show smP L c ms j = !mpB L c m.x m.f by subst hz; exact smP_0 (L := L) (c := c) hm)
   have hgt : ¬ (0 : Int) < (j : Int) := by omega
   have hgn : ¬ 0 < j := by omega
   clear hz
   by_cases c0 : m.x < 0
   ·
    have H := Lib.hid (show smP L c ms j = true by rw [HSM.out]; rw [mp_1 (Or.inl (show exB c.n m.x = false from decide_eq_false (by omega)))]; rfl)
    clear HM hm
    go_quiet (fail)
    go_wp2
    go_ret
    exact ⟨by rw [← HR.out, H.out]; rfl, below_dr HB2.out _⟩
   ·
    by_cases c1 : (c.n : Int) ≤ m.x
    ·
     have H := Lib.hid (show smP L c ms j = true by rw [HSM.out]; rw [mp_1 (Or.inl (show exB c.n m.x = false from decide_eq_false (by omega)))]; rfl)
     clear HM hm
     go_quiet (fail)
     go_wp2
     go_ret
     exact ⟨by rw [← HR.out, H.out]; rfl, below_dr HB2.out _⟩
    ·
     by_cases c2 : c.lo < (m.f.n1 : Int)
     ·
      have H := Lib.hid (show smP L c ms j = true by rw [HSM.out]; rw [mp_1 (Or.inr (Or.inl c2))]; rfl)
      clear HM hm
      go_quiet (fail)
      go_wp2
      go_ret
      exact ⟨by rw [← HR.out, H.out]; rfl, below_dr HB2.out _⟩
     ·
      by_cases c3 : c.st < (m.f.n2 : Int)
      ·
       have H := Lib.hid (show smP L c ms j = true by rw [HSM.out]; rw [mp_1 (Or.inr (Or.inr c3))]; rfl)
       clear HM hm
       go_quiet (fail)
       go_wp2
       go_ret
       exact ⟨by rw [← HR.out, H.out]; rfl, below_dr HB2.out _⟩
      ·
       have HEX := Lib.hid (show exB c.n m.x = true from decide_eq_true (by omega))
       have HVAL := Lib.hid (mp_2 (L := L) (c := c) (x := m.x) (f := m.f) (by rw [HEX.out]; rintro (e | e | e); cases e; exact c2 e; exact c3 e))
       go_quiet (fail)
       have HBD := Lib.hid (below_dr HB2.out nq)
       have RD := Lib.hid (show (W2.drewN nq).heap[w.heap.size]? = _ from RB2.out)
       have XD := Lib.hid (show (W2.drewN nq).heap[b]? = _ from XB.out)
       have FD := Lib.hid (show m.f.ok (W2.drewN nq) from FOK2.out.up (below_dr (Below.refl _ W2) nq))
       clear r0 r1 r2 r3 r4 r5 b0 b1 b2 b3 yb yr c0 c1 c2 c3 HM hm hgg HCW HCELL
       generalize W2.drewN nq = wd at HBD RD XD FD ⊢
       obtain ⟨b0, b1, b2, b3⟩ := four_cells9 XD.out
       obtain ⟨r0, r1, r2, r3, r4, r5⟩ := six_cells RD.out
       have yb := lt_heap XD.out
       have yr := lt_heap RD.out
       obtain ⟨v1, hv1⟩ : ∃ r, m.f.P.any (nvB L c) = r := ⟨_, rfl⟩
       obtain ⟨v2, hv2⟩ : ∃ r, m.f.Q.any (nvB L c) = r := ⟨_, rfl⟩
       have K1 := Lib.hid (fun (W : World) (hW : Below wd.heap.size wd W) => by
        have := KP.out _ _ m.f.c1 _ W (below_on HBD.out hW) (FD.out.up hW).vp FD.out.lp (Nat.le_trans FD.out.l1 FD.out.x1)
        rw [hv1] at this
        exact this)
       have K2 := Lib.hid (fun (W : World) (hW : Below wd.heap.size wd W) => by
        have := KP.out _ _ m.f.c2 _ W (below_on HBD.out hW) (FD.out.up hW).vq FD.out.lq (Nat.le_trans FD.out.l2 FD.out.x2)
        rw [hv2] at this
        exact this)
       have H := Lib.hid (show r = !(!v1 && !v2) by rw [← HR.out, HSM.out, HVAL.out, hv1, hv2])
       clear hv1 hv2
       cases v1 with
       | true =>
        go_wp2_with (go_at_call 127; (with_reducible refine (K1.out _ (Below.refl _ _)).mono ?_); rintro e w3 ⟨rfl, hb3⟩; have yr3 := Nat.lt_of_lt_of_le yr hb3.size; have yb3 := Nat.lt_of_lt_of_le yb hb3.size; clear r0 r1 r2 r3 r4 r5 b0 b1 b2 b3; have hrr := (hb3.block _ yr).trans RD.out; obtain ⟨r0, r1, r2, r3, r4, r5⟩ := six_cells hrr; have hff := (hb3.block _ yb).trans XD.out; obtain ⟨b0, b1, b2, b3⟩ := four_cells9 hff)
        go_ret
        exact ⟨by rw [H.out]; rfl, below_on HBD.out hb3⟩
       | false =>
        go_wp2_with (first | (go_at_call 127; (with_reducible refine (K1.out _ (Below.refl _ _)).mono ?_); rintro e w3 ⟨rfl, hb3⟩; have yr3 := Nat.lt_of_lt_of_le yr hb3.size; have yb3 := Nat.lt_of_lt_of_le yb hb3.size; clear r0 r1 r2 r3 r4 r5 b0 b1 b2 b3; have hrr := (hb3.block _ yr).trans RD.out; obtain ⟨r0, r1, r2, r3, r4, r5⟩ := six_cells hrr; have hff := (hb3.block _ yb).trans XD.out; obtain ⟨b0, b1, b2, b3⟩ := four_cells9 hff) | (go_at_call 127; (with_reducible refine (K2.out _ hb3).mono ?_); rintro e w4 ⟨rfl, hb4⟩))
        go_ret
        exact ⟨by rw [H.out]; cases v2 <;> rfl, below_on HBD.out (below_on hb3 hb4)⟩
  ·
   obtain ⟨q, hq⟩ : ∃ q, j = q + 1 := ⟨j - 1, by omega⟩
   obtain ⟨p, hpp⟩ := get_someF (l := ms) (k := q) (by rw [HML.out]; omega)
   obtain ⟨_, e0, _⟩ := HCELL.out q p hpp
   replace e0 := (HCW.out ⟨g, o + q * 4, none⟩ hg).trans e0
   have HSM := Lib.hid (show smP L c ms j = (decide (m.x ≤ p.x) || !mpB L c m.x m.f) by subst hq; exact smP_s (L := L) (c := c) hm hpp)
   have hw1 : IntKind.i64.wrap ((j : Int) - 1) = (q : Int) := by subst hq; simp [IntKind.wrap, IntKind.bits, IntKind.signed]; omega
   have hq0 : (0 : Int) ≤ (q : Int) := by omega
   have hq1 : (q : Int) < (c.mn : Int) := by omega
   have hgt : (0 : Int) < (j : Int) := by omega
   have hgn : 0 < j := by omega
   clear hpp hz hq
   by_cases hle : m.x ≤ p.x
   ·
    have H := Lib.hid (show smP L c ms j = true by rw [HSM.out, decide_eq_true hle]; rfl)
    clear HM hm
    by_cases c0 : m.x < 0
    ·
     go_quiet (fail)
     go_wp2
     go_ret
     exact ⟨by rw [← HR.out, H.out]; rfl, below_dr HB2.out _⟩
    ·
     by_cases c1 : (c.n : Int) ≤ m.x
     ·
      go_quiet (fail)
      go_wp2
      go_ret
      exact ⟨by rw [← HR.out, H.out]; rfl, below_dr HB2.out _⟩
     ·
      go_quiet (fail)
      go_wp2
      go_ret
      exact ⟨by rw [← HR.out, H.out]; rfl, below_dr HB2.out _⟩
   ·
    by_cases c0 : m.x < 0
    ·
     have H := Lib.hid (show smP L c ms j = true by rw [HSM.out, decide_eq_false hle, Bool.false_or]; rw [mp_1 (Or.inl (show exB c.n m.x = false from decide_eq_false (by omega)))]; rfl)
     clear HM hm
     go_quiet (fail)
     go_wp2
     go_ret
     exact ⟨by rw [← HR.out, H.out]; rfl, below_dr HB2.out _⟩
    ·
     by_cases c1 : (c.n : Int) ≤ m.x
     ·
      have H := Lib.hid (show smP L c ms j = true by rw [HSM.out, decide_eq_false hle, Bool.false_or]; rw [mp_1 (Or.inl (show exB c.n m.x = false from decide_eq_false (by omega)))]; rfl)
      clear HM hm
      go_quiet (fail)
      go_wp2
      go_ret
      exact ⟨by rw [← HR.out, H.out]; rfl, below_dr HB2.out _⟩
     ·
      by_cases c2 : c.lo < (m.f.n1 : Int)
      ·
       have H := Lib.hid (show smP L c ms j = true by rw [HSM.out, decide_eq_false hle, Bool.false_or]; rw [mp_1 (Or.inr (Or.inl c2))]; rfl)
       clear HM hm
       go_quiet (fail)
       go_wp2
       go_ret
       exact ⟨by rw [← HR.out, H.out]; rfl, below_dr HB2.out _⟩
      ·
       by_cases c3 : c.st < (m.f.n2 : Int)
       ·
        have H := Lib.hid (show smP L c ms j = true by rw [HSM.out, decide_eq_false hle, Bool.false_or]; rw [mp_1 (Or.inr (Or.inr c3))]; rfl)
        clear HM hm
        go_quiet (fail)
        go_wp2
        go_ret
        exact ⟨by rw [← HR.out, H.out]; rfl, below_dr HB2.out _⟩
       ·
        have HEX := Lib.hid (show exB c.n m.x = true from decide_eq_true (by omega))
        have HVAL := Lib.hid (mp_2 (L := L) (c := c) (x := m.x) (f := m.f) (by rw [HEX.out]; rintro (e | e | e); cases e; exact c2 e; exact c3 e))
        go_quiet (fail)
        have HBD := Lib.hid (below_dr HB2.out nq)
        have RD := Lib.hid (show (W2.drewN nq).heap[w.heap.size]? = _ from RB2.out)
        have XD := Lib.hid (show (W2.drewN nq).heap[b]? = _ from XB.out)
        have FD := Lib.hid (show m.f.ok (W2.drewN nq) from FOK2.out.up (below_dr (Below.refl _ W2) nq))
        clear r0 r1 r2 r3 r4 r5 b0 b1 b2 b3 yb yr c0 c1 c2 c3 HM hm hgg HCW HCELL
        generalize W2.drewN nq = wd at HBD RD XD FD ⊢
        obtain ⟨b0, b1, b2, b3⟩ := four_cells9 XD.out
        obtain ⟨r0, r1, r2, r3, r4, r5⟩ := six_cells RD.out
        have yb := lt_heap XD.out
        have yr := lt_heap RD.out
        obtain ⟨v1, hv1⟩ : ∃ r, m.f.P.any (nvB L c) = r := ⟨_, rfl⟩
        obtain ⟨v2, hv2⟩ : ∃ r, m.f.Q.any (nvB L c) = r := ⟨_, rfl⟩
        have K1 := Lib.hid (fun (W : World) (hW : Below wd.heap.size wd W) => by
         have := KP.out _ _ m.f.c1 _ W (below_on HBD.out hW) (FD.out.up hW).vp FD.out.lp (Nat.le_trans FD.out.l1 FD.out.x1)
         rw [hv1] at this
         exact this)
        have K2 := Lib.hid (fun (W : World) (hW : Below wd.heap.size wd W) => by
         have := KP.out _ _ m.f.c2 _ W (below_on HBD.out hW) (FD.out.up hW).vq FD.out.lq (Nat.le_trans FD.out.l2 FD.out.x2)
         rw [hv2] at this
         exact this)
        have H := Lib.hid (show r = !(!v1 && !v2) by rw [← HR.out, HSM.out, decide_eq_false hle, Bool.false_or, HVAL.out, hv1, hv2])
        clear hv1 hv2
        cases v1 with
        | true =>
         go_wp2_with (go_at_call 127; (with_reducible refine (K1.out _ (Below.refl _ _)).mono ?_); rintro e w3 ⟨rfl, hb3⟩; have yr3 := Nat.lt_of_lt_of_le yr hb3.size; have yb3 := Nat.lt_of_lt_of_le yb hb3.size; clear r0 r1 r2 r3 r4 r5 b0 b1 b2 b3; have hrr := (hb3.block _ yr).trans RD.out; obtain ⟨r0, r1, r2, r3, r4, r5⟩ := six_cells hrr; have hff := (hb3.block _ yb).trans XD.out; obtain ⟨b0, b1, b2, b3⟩ := four_cells9 hff)
         go_ret
         exact ⟨by rw [H.out]; rfl, below_on HBD.out hb3⟩
        | false =>
         go_wp2_with (first | (go_at_call 127; (with_reducible refine (K1.out _ (Below.refl _ _)).mono ?_); rintro e w3 ⟨rfl, hb3⟩; have yr3 := Nat.lt_of_lt_of_le yr hb3.size; have yb3 := Nat.lt_of_lt_of_le yb hb3.size; clear r0 r1 r2 r3 r4 r5 b0 b1 b2 b3; have hrr := (hb3.block _ yr).trans RD.out; obtain ⟨r0, r1, r2, r3, r4, r5⟩ := six_cells hrr; have hff := (hb3.block _ yb).trans XD.out; obtain ⟨b0, b1, b2, b3⟩ := four_cells9 hff) | (go_at_call 127; (with_reducible refine (K2.out _ hb3).mono ?_); rintro e w4 ⟨rfl, hb4⟩))
         go_ret
         exact ⟨by rw [H.out]; cases v2 <;> rfl, below_on HBD.out (below_on hb3 hb4)⟩
end Go.Proofs.YtalejaklggnnpaaGreatDoor.I
