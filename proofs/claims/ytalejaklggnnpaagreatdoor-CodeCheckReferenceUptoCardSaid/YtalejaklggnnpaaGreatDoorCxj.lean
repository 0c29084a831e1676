import Derived.Test.YtalejaklggnnpaaGreatDoorCxh
import Derived.BigQuiet
/- Layer 9, the reference: rest. (gen/cxg.py) -/
namespace Go.Proofs.YtalejaklggnnpaaGreatDoor.I
open Go.ChangeShapes Go.WideShapes Go.ChangeAt Go.RowKit Go.PlainAid
set_option linter.unusedSimpArgs false
set_option linter.unusedVariables false
theorem below_dr9x {w W : World} (h : Below w.heap.size w W) (q : Nat) : Below w.heap.size w (W.drewN q) := ⟨h.os, h.tape, h.output, h.size, h.block⟩
set_option maxRecDepth 100000 in
set_option maxHeartbeats 40000000 in
theorem r9rest_any {A : Option Addr} {n cap : Nat} {L : List Cn} (c : Cd) (ms : List SM) (ls : List (Int × Int)) (w : World) (hV : Valid L) (hS : Fits L) (hn : L.length = n) (hN : n ≤ 100000) (hp : Pool w w.heap.size A L) (hok : c.m9 w ms ls) (g1 : szE L c = 0) (g2 : c.is.any (nzI L c) = false) (g3 : lastT c = true) :
  Calls Tryz.prog 32 #[.slice A n cap, (Value.agg #[Value.int IntKind.i64 (Cd.st c), Value.int IntKind.i64 (Cd.lo c), Value.slice (Cd.iA c) (Cd.n c) (Cd.ic c), Value.slice (Cd.hA c) (Cd.hn c) (Cd.hc c), Value.slice (Cd.mA c) (Cd.mn c) (Cd.mc c), Value.slice (Cd.lA c) (Cd.ln c) (Cd.lc c)])] w fun e w' => e = .returned (.tuple #[.int .i64 (ckC L c ms ls).1, .int .i64 (ckC L c ms ls).2]) ∧ Below w.heap.size w w' := by
 have hB : Below w.heap.size w w := Below.refl _ _
 have OK := Lib.hid hok
 have HP := Lib.hid hp
 have HN := Lib.hid hn
 have HS := Lib.hid hS
 have HVV := Lib.hid hV
 have HE := Lib.hid g1
 have HAN := Lib.hid g2
 have HLS := Lib.hid g3
 have hcn := hok.c9.ib
 have hch := hok.c9.hb
 have hcm := hok.mb
 have hcl := hok.lb
 clear hok hp hn hS hV g1 g2 g3
 obtain ⟨r, hr⟩ : ∃ r, ckC L c ms ls = r := ⟨_, rfl⟩
 have HR := Lib.hid hr
 rw [hr]
 clear hr
 obtain ⟨r1', r2'⟩ := r
 obtain ⟨hA, hhA⟩ : ∃ A, c.hA = A := ⟨_, rfl⟩
 have HHA := Lib.hid hhA
 obtain ⟨lA, hlA⟩ : ∃ A, c.lA = A := ⟨_, rfl⟩
 have HLA := Lib.hid hlA
 clear hhA hlA
 go_enter Tryz.func32, Tryz.ntmps32
 go_upto_region 1 with fail
 have R := World.alloc_heap_new w (.cells #[.int .i64 c.st, .int .i64 c.lo, .slice c.iA c.n c.ic, .slice c.hA c.hn c.hc, .slice c.mA c.mn c.mc, .slice c.lA c.ln c.lc] 28)
 replace hB := below_al hB (.cells #[.int .i64 c.st, .int .i64 c.lo, .slice c.iA c.n c.ic, .slice c.hA c.hn c.hc, .slice c.mA c.mn c.mc, .slice c.lA c.ln c.lc] 28)
 generalize w.alloc (.cells #[.int .i64 c.st, .int .i64 c.lo, .slice c.iA c.n c.ic, .slice c.hA c.hn c.hc, .slice c.mA c.mn c.mc, .slice c.lA c.ln c.lc] 28) = W1 at R hB ⊢
 obtain ⟨r0, r1, r2, r3, r4, r5⟩ := six_cells R
 have y1 := lt_heap R
 replace R := Lib.hid R
 have HP1 := Lib.hid (HP.out.up hB)
 have OK1 := Lib.hid (OK.out.up hB)
 have HB := Lib.hid hB
 clear hB
 by_cases h32 : 32 < c.hn
 ·
  have H := Lib.hid (cc_4 (ms := ms) (ls := ls) HE.out HAN.out HLS.out h32)
  go_wp2
  go_ret2
  obtain ⟨q1, q2⟩ := pq9 HR.out H.out
  exact ⟨by rw [q1, q2]; rfl, HB.out⟩
 ·
  have H32 := Lib.hid h32
  rw [HHA.out] at r3
  go_upto_region 3 with fail
  go_wp2
  clear r0 r1 r2 r3 r4 r5
  go_loopw [6] (fun z wr => ∃ j : Nat, j ≤ c.hn ∧ z = .int .i64 j ∧ (c.hs.take j).any (nhB L c) = false ∧ Below W1.heap.size W1 wr) (fun z _ => c.hn - (intOf z).toNat)
  case atStart => exact ⟨0, Nat.zero_le _, rfl, rfl, Below.refl _ _⟩
  case round =>
   obtain ⟨j, hj, rfl, hall, hbr⟩ := hrel
   have HALL := Lib.hid hall
   have HBR := Lib.hid hbr
   have RBr := Lib.hid ((hbr.block _ y1).trans R.out)
   have OKr := Lib.hid (OK1.out.up hbr)
   have HPr := Lib.hid (HP1.out.up hbr)
   have hhw := OKr.out.c9.hw
   rw [HHA.out] at hhw
   clear hall hbr
   obtain ⟨r0, r1, r2, r3, r4, r5⟩ := six_cells RBr.out
   rw [HHA.out] at r3
   have yr := lt_heap RBr.out
   by_cases hlt : j < c.hn
   ·
    obtain ⟨h, hh⟩ := get_someF (l := c.hs) (k := j) (by rw [OKr.out.c9.hl]; exact hlt)
    rcases hhw with h0 | ⟨g, o, rfl, hg, hcell⟩
    ·
     rw [h0] at hh; simp at hh
    ·
     obtain ⟨a0, a1, a2, a3, a4⟩ := hcell j h hh
     have HIK := Lib.hid hh
     have HAT := Lib.hid (any_take (p := nhB L c) hh)
     have hj0 : (0 : Int) ≤ (j : Int) := by omega
     have hj1 : (j : Int) < (c.hn : Int) := by omega
     clear hcell hh
     cases hh : hlB L c h with
     | true =>
      have HHB := Lib.hid hh
      have HZ := Lib.hid (show nhB L c h = false by unfold nhB; rw [hh]; rfl)
      clear hh
      go_upto_region 6 with fail
      go_region_held3 (fun w' => w'.cell? ⟨w.heap.size, 0, none⟩ = some (.int .i64 c.st) ∧ w'.cell? ⟨w.heap.size, 1, none⟩ = some (.int .i64 c.lo) ∧ w'.cell? ⟨w.heap.size, 2, none⟩ = some (.slice c.iA c.n c.ic) ∧ w'.cell? ⟨w.heap.size, 3, none⟩ = some (.slice (some ⟨g, o, none⟩) c.hn c.hc) ∧ w'.cell? ⟨w.heap.size, 4, none⟩ = some (.slice c.mA c.mn c.mc) ∧ w'.cell? ⟨w.heap.size, 5, none⟩ = some (.slice c.lA c.ln c.lc) ∧ w'.cell? ⟨g, o + j * 5, none⟩ = some (.int .i64 h.f) ∧ w'.cell? ⟨g, o + j * 5 + 1, none⟩ = some (.int .i64 h.t) ∧ w'.cell? ⟨g, o + j * 5 + 2, none⟩ = some (.int .i64 h.g) ∧ w'.cell? ⟨g, o + j * 5 + 3, none⟩ = some (.int .i64 h.k) ∧ w'.cell? ⟨g, o + j * 5 + 4, none⟩ = some (.string h.s) ∧ w.heap.size < w'.heap.size ∧ g < w'.heap.size ∧ Below wr.heap.size wr w') (((try go_split_ands); (repeat' apply And.intro) <;> (first | assumption | exact (Below.refl _ _).drew | (first | exact below_on (w := wr) (by assumption) hq | exact Below.drew (by assumption) | assumption) | exact (Below.cell hq (by first | omega | (simp; omega))).trans (by assumption) | (have := hq.size; omega) | (simp; omega) | go_keep)))
       ((go_at_call 74; (with_reducible refine (r9row_any c h _ HVV.out HS.out HN.out hN (HPr.out.up (by first | assumption | (go_split_ands; assumption)))).mono ?_); rintro e w2 ⟨rfl, hq⟩; rw [HHB.out]))
      go_split_ands
      have hend : Below wr.heap.size wr w2 := by assumption
      go_wp2
      exact ⟨⟨j + 1, hlt, by go_num, by rw [HAT.out, HALL.out, HZ.out]; rfl, below_on HBR.out hend⟩, by simp [intOf]; omega⟩
     | false =>
      have HHB := Lib.hid hh
      have H := Lib.hid (cc_5 (ms := ms) (ls := ls) HE.out HAN.out HLS.out H32.out HALL.out HIK.out (show nhB L c h = true by unfold nhB; rw [hh]; rfl))
      clear hh
      go_upto_region 6 with fail
      go_region_held3 (fun w' => w'.cell? ⟨w.heap.size, 0, none⟩ = some (.int .i64 c.st) ∧ w'.cell? ⟨w.heap.size, 1, none⟩ = some (.int .i64 c.lo) ∧ w'.cell? ⟨w.heap.size, 2, none⟩ = some (.slice c.iA c.n c.ic) ∧ w'.cell? ⟨w.heap.size, 3, none⟩ = some (.slice (some ⟨g, o, none⟩) c.hn c.hc) ∧ w'.cell? ⟨w.heap.size, 4, none⟩ = some (.slice c.mA c.mn c.mc) ∧ w'.cell? ⟨w.heap.size, 5, none⟩ = some (.slice c.lA c.ln c.lc) ∧ w'.cell? ⟨g, o + j * 5, none⟩ = some (.int .i64 h.f) ∧ w'.cell? ⟨g, o + j * 5 + 1, none⟩ = some (.int .i64 h.t) ∧ w'.cell? ⟨g, o + j * 5 + 2, none⟩ = some (.int .i64 h.g) ∧ w'.cell? ⟨g, o + j * 5 + 3, none⟩ = some (.int .i64 h.k) ∧ w'.cell? ⟨g, o + j * 5 + 4, none⟩ = some (.string h.s) ∧ w.heap.size < w'.heap.size ∧ g < w'.heap.size ∧ Below wr.heap.size wr w') (((try go_split_ands); (repeat' apply And.intro) <;> (first | assumption | exact (Below.refl _ _).drew | (first | exact below_on (w := wr) (by assumption) hq | exact Below.drew (by assumption) | assumption) | exact (Below.cell hq (by first | omega | (simp; omega))).trans (by assumption) | (have := hq.size; omega) | (simp; omega) | go_keep)))
       ((go_at_call 74; (with_reducible refine (r9row_any c h _ HVV.out HS.out HN.out hN (HPr.out.up (by first | assumption | (go_split_ands; assumption)))).mono ?_); rintro e w2 ⟨rfl, hq⟩; rw [HHB.out]))
      go_split_ands
      have hend : Below wr.heap.size wr w2 := by assumption
      go_wp2
      go_ret2
      obtain ⟨q1, q2⟩ := pq9 HR.out H.out
      exact ⟨by rw [q1, q2]; rfl, below_on HB.out (below_on HBR.out hend)⟩
   ·
    obtain ⟨hnj⟩ : c.hn = j := by omega
    have HAH := Lib.hid (show c.hs.any (nhB L c) = false by have h9 := HALL.out; rw [List.take_of_length_le (by rw [OK.out.c9.hl]; exact Nat.le_refl _)] at h9; exact h9)
    clear hhw
    go_upto_region 8 with fail
    have HB2 := Lib.hid (below_on HB.out HBR.out)
    have OK2 := Lib.hid OKr.out
    have HP2 := Lib.hid HPr.out
    have RB2 := Lib.hid RBr.out
    clear r0 r1 r2 r3 r4 r5 HBR OKr HPr RBr HALL
    obtain ⟨w2, hw2⟩ : ∃ w2, w2 = wr := ⟨_, rfl⟩
    subst hw2
    go_wp2
    go_loopw [7] (fun z wr => ∃ j : Nat, j ≤ c.mn ∧ z = .int .i64 j ∧ (List.range j).any (smP L c ms) = false ∧ Below w2.heap.size w2 wr) (fun z _ => c.mn - (intOf z).toNat)
    case atStart => exact ⟨0, Nat.zero_le _, rfl, rfl, Below.refl _ _⟩
    case round =>
     obtain ⟨j, hj, rfl, hall, hbr⟩ := hrel
     have HALL := Lib.hid hall
     have HBR := Lib.hid hbr
     have RBr := Lib.hid ((hbr.block _ (lt_heap RB2.out)).trans RB2.out)
     have OKr := Lib.hid (OK2.out.up hbr)
     have HPr := Lib.hid (HP2.out.up hbr)
     clear hall hbr
     obtain ⟨r0, r1, r2, r3, r4, r5⟩ := six_cells RBr.out
     have yr := lt_heap RBr.out
     by_cases hlt : j < c.mn
     ·
      have hj0 : (0 : Int) ≤ (j : Int) := by omega
      have hj1 : (j : Int) < (c.mn : Int) := by omega
      cases hh : smP L c ms j with
      | false =>
       have HHB := Lib.hid hh
       have HSU := Lib.hid (ra_succ HALL.out hh)
       clear hh
       go_wp2_with (go_at_call 75; (with_reducible refine (r9mapped_any c j _ HS.out HN.out hN HPr.out OKr.out.c9 OKr.out.ml hcm OKr.out.mw hlt).mono ?_); rintro e w3 ⟨rfl, hb3⟩; rw [HHB.out])
       exact ⟨⟨j + 1, hlt, by go_num, HSU.out, below_on HBR.out hb3⟩, by simp [intOf]; omega⟩
      | true =>
       have HHB := Lib.hid hh
       have H := Lib.hid (cc_6 (ls := ls) HE.out HAN.out HLS.out H32.out HAH.out HALL.out hlt hh)
       clear hh
       go_wp2_with (go_at_call 75; (with_reducible refine (r9mapped_any c j _ HS.out HN.out hN HPr.out OKr.out.c9 OKr.out.ml hcm OKr.out.mw hlt).mono ?_); rintro e w3 ⟨rfl, hb3⟩; rw [HHB.out])
       go_ret2
       obtain ⟨q1, q2⟩ := pq9 HR.out H.out
       exact ⟨by rw [q1, q2]; rfl, below_on HB2.out (below_on HBR.out hb3)⟩
     ·
      obtain ⟨hnj2⟩ : c.mn = j := by omega
      have HSMS := Lib.hid (show (List.range c.mn).any (smP L c ms) = false from HALL.out)
      go_upto_region 13 with fail
      have HB3 := Lib.hid (below_on HB2.out HBR.out)
      have OK3 := Lib.hid OKr.out
      have RB3 := Lib.hid RBr.out
      clear r0 r1 r2 r3 r4 r5 yr HBR OKr HPr RBr HALL
      obtain ⟨w4, hw4⟩ : ∃ w4, w4 = wr := ⟨_, rfl⟩
      subst hw4
      go_wp2
      go_loopw [8] (fun z wr => ∃ j : Nat, j ≤ c.ln ∧ z = .int .i64 j ∧ (List.range j).any (lnP c ls) = false ∧ Below w4.heap.size w4 wr) (fun z _ => c.ln - (intOf z).toNat)
      case atStart => exact ⟨0, Nat.zero_le _, rfl, rfl, Below.refl _ _⟩
      case round =>
       obtain ⟨j, hj, rfl, hall, hbr⟩ := hrel
       have HALL := Lib.hid hall
       have HBR := Lib.hid hbr
       have RBr := Lib.hid ((hbr.block _ (lt_heap RB3.out)).trans RB3.out)
       have OKr := Lib.hid (OK3.out.up hbr)
       have hmw := OKr.out.lw
       rw [HLA.out] at hmw
       clear hall hbr
       obtain ⟨r0, r1, r2, r3, r4, r5⟩ := six_cells RBr.out
       rw [HLA.out] at r5
       have yr := lt_heap RBr.out
       by_cases hlt : j < c.ln
       ·
        obtain ⟨m, hm⟩ := get_someF (l := ls) (k := j) (by rw [OKr.out.ll]; exact hlt)
        rcases hmw with h0 | ⟨g, o, rfl, hg, hcell⟩
        ·
         rw [h0] at hm; simp at hm
        ·
         obtain ⟨a0, a1⟩ := hcell j m hm
         have hj0 : (0 : Int) ≤ (j : Int) := by omega
         have hj1 : (j : Int) < (c.ln : Int) := by omega
         have HCELL := Lib.hid hcell
         clear hcell
         go_upto_region 17 with fail
         have hX2 := World.alloc_heap_new wr (.cells #[.int .i64 m.1, .int .i64 m.2] 67)
         have hbl := below_al (Below.refl _ wr) (.cells #[.int .i64 m.1, .int .i64 m.2] 67)
         generalize hbb : wr.heap.size = b at hX2 ⊢
         generalize wr.alloc (.cells #[.int .i64 m.1, .int .i64 m.2] 67) = W2 at hX2 hbl ⊢
         have XB := Lib.hid hX2
         have RB4 := Lib.hid ((hbl.block _ yr).trans RBr.out)
         have HBR2 := Lib.hid (below_on HBR.out hbl)
         have HCW := Lib.hid (fun (a : Addr) (ha : a.block < wr.heap.size) => hbl.cell (p := a) ha)
         have hgg : g < W2.heap.size := Nat.lt_of_lt_of_le hg hbl.size
         clear hX2 hbb a0 a1 r0 r1 r2 r3 r4 r5 yr hbl
         obtain ⟨b0, b1⟩ := two_cells9 XB.out
         obtain ⟨r0, r1, r2, r3, r4, r5⟩ := six_cells RB4.out
         rw [HLA.out] at r5
         have yb := lt_heap XB.out
         have yr := lt_heap RB4.out
         by_cases hz : j = 0
         ·
          have HSM := Lib.hid (show lnP c ls j = (!exB c.n m.1 || (decide (m.2 < 0) || decide (65535 < m.2))) by subst hz; exact lnP_0 (c := c) hm)
          have hgt : ¬ (0 : Int) < (j : Int) := by omega
          have hgn : ¬ 0 < j := by omega
          clear hz
          by_cases c0 : m.1 < 0
          ·
           have H := Lib.hid (cc_7 (k := j) HE.out HAN.out HLS.out H32.out HAH.out HSMS.out HALL.out hlt (by rw [HSM.out]; rw [show exB c.n m.1 = false from decide_eq_false (by omega)]; rfl))
           clear hm
           go_quiet (fail)
           go_wp2
           go_ret2
           obtain ⟨q1, q2⟩ := pq9 HR.out H.out
           exact ⟨by rw [q1, q2]; rfl, below_on HB3.out (below_dr9x HBR2.out _)⟩
          ·
           by_cases c1 : (c.n : Int) ≤ m.1
           ·
            have H := Lib.hid (cc_7 (k := j) HE.out HAN.out HLS.out H32.out HAH.out HSMS.out HALL.out hlt (by rw [HSM.out]; rw [show exB c.n m.1 = false from decide_eq_false (by omega)]; rfl))
            clear hm
            go_quiet (fail)
            go_wp2
            go_ret2
            obtain ⟨q1, q2⟩ := pq9 HR.out H.out
            exact ⟨by rw [q1, q2]; rfl, below_on HB3.out (below_dr9x HBR2.out _)⟩
           ·
            have HEX := Lib.hid (show exB c.n m.1 = true from decide_eq_true (by omega))
            by_cases c2 : m.2 < 0
            ·
             have H := Lib.hid (cc_7 (k := j) HE.out HAN.out HLS.out H32.out HAH.out HSMS.out HALL.out hlt (by rw [HSM.out]; rw [HEX.out, decide_eq_true c2]; rfl))
             clear hm
             go_quiet (fail)
             go_wp2
             go_ret2
             obtain ⟨q1, q2⟩ := pq9 HR.out H.out
             exact ⟨by rw [q1, q2]; rfl, below_on HB3.out (below_dr9x HBR2.out _)⟩
            ·
             by_cases c3 : 65535 < m.2
             ·
              have H := Lib.hid (cc_7 (k := j) HE.out HAN.out HLS.out H32.out HAH.out HSMS.out HALL.out hlt (by rw [HSM.out]; rw [HEX.out, decide_eq_true c3]; simp))
              clear hm
              go_quiet (fail)
              go_wp2
              go_ret2
              obtain ⟨q1, q2⟩ := pq9 HR.out H.out
              exact ⟨by rw [q1, q2]; rfl, below_on HB3.out (below_dr9x HBR2.out _)⟩
             ·
              have HSU := Lib.hid (ra_succ HALL.out (show lnP c ls j = false by rw [HSM.out]; rw [HEX.out, decide_eq_false c2, decide_eq_false c3]; rfl))
              clear hm
              go_quiet (fail)
              go_wp2
              exact ⟨⟨j + 1, hlt, by go_num, HSU.out, below_dr9x HBR2.out _⟩, by simp [intOf]; omega⟩
         ·
          obtain ⟨q, hq⟩ : ∃ q, j = q + 1 := ⟨j - 1, by omega⟩
          obtain ⟨p, hpp⟩ := get_someF (l := ls) (k := q) (by rw [OK.out.ll]; omega)
          obtain ⟨e0, _⟩ := HCELL.out q p hpp
          replace e0 := (HCW.out ⟨g, o + q * 2, none⟩ hg).trans e0
          have HSM := Lib.hid (show lnP c ls j = (decide (m.1 ≤ p.1) || (!exB c.n m.1 || (decide (m.2 < 0) || decide (65535 < m.2)))) by subst hq; exact lnP_s (c := c) hm hpp)
          have hw1 : IntKind.i64.wrap ((j : Int) - 1) = (q : Int) := by subst hq; simp [IntKind.wrap, IntKind.bits, IntKind.signed]; omega
          have hq0 : (0 : Int) ≤ (q : Int) := by omega
          have hq1 : (q : Int) < (c.ln : Int) := by omega
          have hgt : (0 : Int) < (j : Int) := by omega
          have hgn : 0 < j := by omega
          clear hpp hz hq
          by_cases hle : m.1 ≤ p.1
          ·
           have H := Lib.hid (cc_7 (k := j) HE.out HAN.out HLS.out H32.out HAH.out HSMS.out HALL.out hlt (by rw [HSM.out, decide_eq_true hle]; rfl))
           clear hm
           by_cases c0 : m.1 < 0
           ·
            go_quiet (fail)
            go_wp2
            go_ret2
            obtain ⟨q1, q2⟩ := pq9 HR.out H.out
            exact ⟨by rw [q1, q2]; rfl, below_on HB3.out (below_dr9x HBR2.out _)⟩
           ·
            by_cases c1 : (c.n : Int) ≤ m.1
            ·
             go_quiet (fail)
             go_wp2
             go_ret2
             obtain ⟨q1, q2⟩ := pq9 HR.out H.out
             exact ⟨by rw [q1, q2]; rfl, below_on HB3.out (below_dr9x HBR2.out _)⟩
            ·
             go_quiet (fail)
             go_wp2
             go_ret2
             obtain ⟨q1, q2⟩ := pq9 HR.out H.out
             exact ⟨by rw [q1, q2]; rfl, below_on HB3.out (below_dr9x HBR2.out _)⟩
          ·
           by_cases c0 : m.1 < 0
           ·
            have H := Lib.hid (cc_7 (k := j) HE.out HAN.out HLS.out H32.out HAH.out HSMS.out HALL.out hlt (by rw [HSM.out, decide_eq_false hle, Bool.false_or]; rw [show exB c.n m.1 = false from decide_eq_false (by omega)]; rfl))
            clear hm
            go_quiet (fail)
            go_wp2
            go_ret2
            obtain ⟨q1, q2⟩ := pq9 HR.out H.out
            exact ⟨by rw [q1, q2]; rfl, below_on HB3.out (below_dr9x HBR2.out _)⟩
           ·
            by_cases c1 : (c.n : Int) ≤ m.1
            ·
             have H := Lib.hid (cc_7 (k := j) HE.out HAN.out HLS.out H32.out HAH.out HSMS.out HALL.out hlt (by rw [HSM.out, decide_eq_false hle, Bool.false_or]; rw [show exB c.n m.1 = false from decide_eq_false (by omega)]; rfl))
             clear hm
             go_quiet (fail)
             go_wp2
             go_ret2
             obtain ⟨q1, q2⟩ := pq9 HR.out H.out
             exact ⟨by rw [q1, q2]; rfl, below_on HB3.out (below_dr9x HBR2.out _)⟩
            ·
             have HEX := Lib.hid (show exB c.n m.1 = true from decide_eq_true (by omega))
             by_cases c2 : m.2 < 0
             ·
              have H := Lib.hid (cc_7 (k := j) HE.out HAN.out HLS.out H32.out HAH.out HSMS.out HALL.out hlt (by rw [HSM.out, decide_eq_false hle, Bool.false_or]; rw [HEX.out, decide_eq_true c2]; rfl))
              clear hm
              go_quiet (fail)
              go_wp2
              go_ret2
              obtain ⟨q1, q2⟩ := pq9 HR.out H.out
              exact ⟨by rw [q1, q2]; rfl, below_on HB3.out (below_dr9x HBR2.out _)⟩
             ·
              by_cases c3 : 65535 < m.2
              ·
               have H := Lib.hid (cc_7 (k := j) HE.out HAN.out HLS.out H32.out HAH.out HSMS.out HALL.out hlt (by rw [HSM.out, decide_eq_false hle, Bool.false_or]; rw [HEX.out, decide_eq_true c3]; simp))
               clear hm
               go_quiet (fail)
               go_wp2
               go_ret2
               obtain ⟨q1, q2⟩ := pq9 HR.out H.out
               exact ⟨by rw [q1, q2]; rfl, below_on HB3.out (below_dr9x HBR2.out _)⟩
              ·
               have HSU := Lib.hid (ra_succ HALL.out (show lnP c ls j = false by rw [HSM.out, decide_eq_false hle, Bool.false_or]; rw [HEX.out, decide_eq_false c2, decide_eq_false c3]; rfl))
               clear hm
               go_quiet (fail)
               go_wp2
               exact ⟨⟨j + 1, hlt, by go_num, HSU.out, below_dr9x HBR2.out _⟩, by simp [intOf]; omega⟩
       ·
        obtain ⟨hnj3⟩ : c.ln = j := by omega
        have H := Lib.hid (cc_8 HE.out HAN.out HLS.out H32.out HAH.out HSMS.out HALL.out)
        go_wp2
        go_ret2
        obtain ⟨q1, q2⟩ := pq9 HR.out H.out
        exact ⟨by rw [q1, q2]; rfl, below_on HB3.out HBR.out⟩
end Go.Proofs.YtalejaklggnnpaaGreatDoor.I
