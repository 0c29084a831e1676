import Derived.Test.YtalejaklggnnpaaGreatDoorCxh
import Derived.Test.YtalejaklggnnpaaGreatDoorInOfr
/- Layer 9, the reference: head. (gen/cxg.py) -/
namespace Go.Proofs.YtalejaklggnnpaaGreatDoor.I
open Go.ChangeShapes Go.WideShapes Go.ChangeAt Go.RowKit Go.PlainAid
set_option linter.unusedSimpArgs false
set_option linter.unusedVariables false
set_option maxRecDepth 100000 in
set_option maxHeartbeats 8000000 in
theorem r9head_any {A : Option Addr} {n cap : Nat} {L : List Cn} (c : Cd) (w : World) (hS : Short L) (hn : L.length = n) (hN : n ≤ 100000) (hp : Pool w w.heap.size A L) (hok : c.c9 w) :
  Calls Tryz.prog 29 #[.slice A n cap, (Value.agg #[Value.int IntKind.i64 (Cd.st c), Value.int IntKind.i64 (Cd.lo c), Value.slice (Cd.iA c) (Cd.n c) (Cd.ic c), Value.slice (Cd.hA c) (Cd.hn c) (Cd.hc c), Value.slice (Cd.mA c) (Cd.mn c) (Cd.mc c), Value.slice (Cd.lA c) (Cd.ln c) (Cd.lc c)])] w fun e w' => e = .returned (.int .i64 (szE L c)) ∧ Below w.heap.size w w' := by
 have hB : Below w.heap.size w w := Below.refl _ _
 have OK := Lib.hid hok
 have HP := Lib.hid hp
 have HN := Lib.hid hn
 have hcn := hok.ib
 have HS := Lib.hid hS
 clear hok hp hn hS
 obtain ⟨ce, hce⟩ : ∃ ce, chE L = ce := ⟨_, rfl⟩
 have HCE := Lib.hid hce
 obtain ⟨r, hr⟩ : ∃ r, szE L c = r := ⟨_, rfl⟩
 have HR := Lib.hid hr
 rw [hr]
 clear hce hr
 go_enter Tryz.func29, Tryz.ntmps29
 go_upto_region 1 with fail
 have R := World.alloc_heap_new w (.cells #[.int .i64 c.st, .int .i64 c.lo, .slice c.iA c.n c.ic, .slice c.hA c.hn c.hc, .slice c.mA c.mn c.mc, .slice c.lA c.ln c.lc] 28)
 replace hB := below_al hB (.cells #[.int .i64 c.st, .int .i64 c.lo, .slice c.iA c.n c.ic, .slice c.hA c.hn c.hc, .slice c.mA c.mn c.mc, .slice c.lA c.ln c.lc] 28)
 generalize w.alloc (.cells #[.int .i64 c.st, .int .i64 c.lo, .slice c.iA c.n c.ic, .slice c.hA c.hn c.hc, .slice c.mA c.mn c.mc, .slice c.lA c.ln c.lc] 28) = W1 at R hB ⊢
 obtain ⟨r0, r1, r2, r3, r4, r5⟩ := six_cells R
 have y1 := lt_heap R
 replace R := Lib.hid R
 have HP1 := Lib.hid (HP.out.up hB)
 have OK1 := Lib.hid (OK.out.up hB)
 cases hE : (ce != 0) with
 | true =>
  have H1 := Lib.hid (sz_1 (c := c) (show (chE L != 0) = true by rw [HCE.out]; exact hE))
  go_wp2_with (go_at_call 67; refine (rcheck_any HS.out HN.out hN HP1.out _ (Below.refl _ _)).mono ?_; rintro e w1 ⟨rfl, hb1⟩; rw [HCE.out])
  go_ret
  exact ⟨by rw [← HR.out, H1.out, HCE.out]; rfl, below_on hB hb1⟩
 | false =>
  have HE := Lib.hid (show (chE L != 0) = false by rw [HCE.out]; exact hE)
  go_upto_region 4 with (go_at_call 67; refine (rcheck_any HS.out HN.out hN HP1.out _ (Below.refl _ _)).mono ?_; rintro e w1 ⟨rfl, hb1⟩; rw [HCE.out])
  have HB := Lib.hid (below_on hB hb1)
  have OK2 := Lib.hid (OK1.out.up hb1)
  have RB := Lib.hid ((hb1.block _ y1).trans R.out)
  clear r0 r1 r2 r3 r4 r5 y1 R hb1 hB HP1 OK1 hE
  clear W1
  obtain ⟨r0, r1, r2, r3, r4, r5⟩ := six_cells RB.out
  have y1 := lt_heap RB.out
  by_cases a1 : c.st < 0
  ·
   have H := Lib.hid (sz_2 HE.out (szB_yes (Or.inl a1)))
   go_wp2
   go_ret
   exact ⟨by rw [← HR.out, H.out]; rfl, HB.out⟩
  ·
   by_cases a2 : 32 < c.st
   ·
    have H := Lib.hid (sz_2 HE.out (szB_yes (Or.inr (Or.inl a2))))
    go_wp2
    go_ret
    exact ⟨by rw [← HR.out, H.out]; rfl, HB.out⟩
   ·
    by_cases a3 : c.lo < 0
    ·
     have H := Lib.hid (sz_2 HE.out (szB_yes (Or.inr (Or.inr (Or.inl a3)))))
     go_wp2
     go_ret
     exact ⟨by rw [← HR.out, H.out]; rfl, HB.out⟩
    ·
     by_cases a4 : 32 < c.lo
     ·
      have H := Lib.hid (sz_2 HE.out (szB_yes (Or.inr (Or.inr (Or.inr a4)))))
      go_wp2
      go_ret
      exact ⟨by rw [← HR.out, H.out]; rfl, HB.out⟩
     ·
      have HZ := Lib.hid (szB_no a1 a2 a3 a4)
      go_upto_region 6 with fail
      by_cases a5 : c.n = 0
      ·
       have H := Lib.hid (sz_3 HE.out HZ.out (Or.inl a5))
       rw [a5] at r2
       go_wp2
       go_ret
       exact ⟨by rw [← HR.out, H.out]; rfl, HB.out⟩
      ·
       by_cases a6 : 1000 < c.n
       ·
        have H := Lib.hid (sz_3 HE.out HZ.out (Or.inr a6))
        go_wp2
        go_ret
        exact ⟨by rw [← HR.out, H.out]; rfl, HB.out⟩
       ·
        have HZ2 := Lib.hid (show ¬ (c.n = 0 ∨ 1000 < c.n) by omega)
        have hc1 : c.n ≤ 1000 := by omega
        have h5 : ((c.n : Int) == 0) = false := by simpa using a5
        cases hal : alV c.is with
        | false =>
         have HAL := Lib.hid hal
         have H := Lib.hid (sz_5 HE.out HZ.out HZ2.out (by rw [hal]; rintro ⟨_, e⟩; cases e))
         clear hal
         go_wp2_with (go_at_call 68; refine (r9all_any OK2.out.il (by omega) _ OK2.out.iw).mono ?_; rintro e w3 ⟨rfl, hb3⟩; rw [HAL.out])
         go_ret
         exact ⟨by rw [← HR.out, H.out]; rfl, below_on HB.out hb3⟩
        | true =>
         have HAL := Lib.hid hal
         clear hal
         go_upto_region 9 with (go_at_call 68; refine (r9all_any OK2.out.il (by omega) _ OK2.out.iw).mono ?_; rintro e w3 ⟨rfl, hb3⟩; rw [HAL.out])
         have HB3 := Lib.hid (below_on HB.out hb3)
         have OK3 := Lib.hid (OK2.out.up hb3)
         have RB3 := Lib.hid ((hb3.block _ y1).trans RB.out)
         clear r0 r1 r2 r3 r4 r5 y1 hb3 HB OK2 RB
         obtain ⟨r0, r1, r2, r3, r4, r5⟩ := six_cells RB3.out
         have y1 := lt_heap RB3.out
         obtain ⟨oe, hoe⟩ : ∃ oe, ofE c.is = oe := ⟨_, rfl⟩
         have HOE := Lib.hid hoe
         clear hoe
         by_cases a7 : oe = 8
         ·
          have H := Lib.hid (sz_4 HE.out HZ.out HZ2.out ⟨by rw [HOE.out]; exact a7, HAL.out⟩)
          rw [a7] at HOE
          go_wp2_with (go_at_call 40; refine (roffs_any OK3.out.il hc1 OK3.out.iw _ (Below.refl _ _)).mono ?_; rintro e w4 ⟨A3, c3, rfl, _, _, _, _, hb4⟩; rw [HOE.out])
          go_ret
          exact ⟨by rw [← HR.out, H.out]; rfl, below_on HB3.out hb4⟩
         ·
          have H := Lib.hid (sz_5 HE.out HZ.out HZ2.out (by rw [HOE.out]; rintro ⟨e, _⟩; exact a7 e))
          have e7 : (oe == 8) = false := by simpa using a7
          go_wp2_with (go_at_call 40; refine (roffs_any OK3.out.il hc1 OK3.out.iw _ (Below.refl _ _)).mono ?_; rintro e w4 ⟨A3, c3, rfl, _, _, _, _, hb4⟩; rw [HOE.out])
          go_ret
          exact ⟨by rw [← HR.out, H.out]; rfl, below_on HB3.out hb4⟩
end Go.Proofs.YtalejaklggnnpaaGreatDoor.I
