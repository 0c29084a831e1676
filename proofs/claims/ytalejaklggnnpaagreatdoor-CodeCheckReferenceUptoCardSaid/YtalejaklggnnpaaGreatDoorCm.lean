import Derived.Test.YtalejaklggnnpaaGreatDoorCl
import Derived.Test.YtalejaklggnnpaaGreatDoorReg
/- Layer 9: Check. -/
namespace Go.Proofs.YtalejaklggnnpaaGreatDoor.I
open Go.ChangeShapes Go.WideShapes Go.ChangeAt Go.RowKit Go.PlainAid
set_option linter.unusedSimpArgs false
set_option linter.unusedVariables false
abbrev tf0_21 : Array Bool := #[false, false, false, false, false, false, false, false, false, false, false, false, false, false, false, false, false, false, false, false, false]
abbrev tf0_31 : Array Bool := #[false, false, false, false, false, false, false, false, false, false, false, false, false, false, false, false, false, false, false, false, false, false, false, false, false, false, false, false, false, false, false]
abbrev tf10_21 : Array Bool := #[true, true, true, true, true, true, true, true, true, true, false, false, false, false, false, false, false, false, false, false, false]
abbrev tf10_31 : Array Bool := #[true, true, true, true, true, true, true, true, true, true, false, false, false, false, false, false, false, false, false, false, false, false, false, false, false, false, false, false, false, false, false]
abbrev tf11_21 : Array Bool := #[true, true, true, true, true, true, true, true, true, true, true, false, false, false, false, false, false, false, false, false, false]
abbrev tf11_31 : Array Bool := #[true, true, true, true, true, true, true, true, true, true, true, false, false, false, false, false, false, false, false, false, false, false, false, false, false, false, false, false, false, false, false]
abbrev tf12_21 : Array Bool := #[true, true, true, true, true, true, true, true, true, true, true, true, false, false, false, false, false, false, false, false, false]
abbrev tf12_31 : Array Bool := #[true, true, true, true, true, true, true, true, true, true, true, true, false, false, false, false, false, false, false, false, false, false, false, false, false, false, false, false, false, false, false]
abbrev tf13_21 : Array Bool := #[true, true, true, true, true, true, true, true, true, true, true, true, true, false, false, false, false, false, false, false, false]
abbrev tf13_31 : Array Bool := #[true, true, true, true, true, true, true, true, true, true, true, true, true, false, false, false, false, false, false, false, false, false, false, false, false, false, false, false, false, false, false]
abbrev tf14_21 : Array Bool := #[true, true, true, true, true, true, true, true, true, true, true, true, true, true, false, false, false, false, false, false, false]
abbrev tf14_31 : Array Bool := #[true, true, true, true, true, true, true, true, true, true, true, true, true, true, false, false, false, false, false, false, false, false, false, false, false, false, false, false, false, false, false]
abbrev tf15_21 : Array Bool := #[true, true, true, true, true, true, true, true, true, true, true, true, true, true, true, false, false, false, false, false, false]
abbrev tf15_31 : Array Bool := #[true, true, true, true, true, true, true, true, true, true, true, true, true, true, true, false, false, false, false, false, false, false, false, false, false, false, false, false, false, false, false]
abbrev tf16_21 : Array Bool := #[true, true, true, true, true, true, true, true, true, true, true, true, true, true, true, true, false, false, false, false, false]
abbrev tf16_31 : Array Bool := #[true, true, true, true, true, true, true, true, true, true, true, true, true, true, true, true, false, false, false, false, false, false, false, false, false, false, false, false, false, false, false]
abbrev tf17_21 : Array Bool := #[true, true, true, true, true, true, true, true, true, true, true, true, true, true, true, true, true, false, false, false, false]
abbrev tf17_31 : Array Bool := #[true, true, true, true, true, true, true, true, true, true, true, true, true, true, true, true, true, false, false, false, false, false, false, false, false, false, false, false, false, false, false]
abbrev tf18_21 : Array Bool := #[true, true, true, true, true, true, true, true, true, true, true, true, true, true, true, true, true, true, false, false, false]
abbrev tf18_31 : Array Bool := #[true, true, true, true, true, true, true, true, true, true, true, true, true, true, true, true, true, true, false, false, false, false, false, false, false, false, false, false, false, false, false]
abbrev tf19_21 : Array Bool := #[true, true, true, true, true, true, true, true, true, true, true, true, true, true, true, true, true, true, true, false, false]
abbrev tf19_31 : Array Bool := #[true, true, true, true, true, true, true, true, true, true, true, true, true, true, true, true, true, true, true, false, false, false, false, false, false, false, false, false, false, false, false]
abbrev tf1_21 : Array Bool := #[true, false, false, false, false, false, false, false, false, false, false, false, false, false, false, false, false, false, false, false, false]
abbrev tf1_31 : Array Bool := #[true, false, false, false, false, false, false, false, false, false, false, false, false, false, false, false, false, false, false, false, false, false, false, false, false, false, false, false, false, false, false]
abbrev tf20_21 : Array Bool := #[true, true, true, true, true, true, true, true, true, true, true, true, true, true, true, true, true, true, true, true, false]
abbrev tf20_31 : Array Bool := #[true, true, true, true, true, true, true, true, true, true, true, true, true, true, true, true, true, true, true, true, false, false, false, false, false, false, false, false, false, false, false]
abbrev tf21_21 : Array Bool := #[true, true, true, true, true, true, true, true, true, true, true, true, true, true, true, true, true, true, true, true, true]
abbrev tf21_31 : Array Bool := #[true, true, true, true, true, true, true, true, true, true, true, true, true, true, true, true, true, true, true, true, true, false, false, false, false, false, false, false, false, false, false]
abbrev tf22_31 : Array Bool := #[true, true, true, true, true, true, true, true, true, true, true, true, true, true, true, true, true, true, true, true, true, true, false, false, false, false, false, false, false, false, false]
abbrev tf23_31 : Array Bool := #[true, true, true, true, true, true, true, true, true, true, true, true, true, true, true, true, true, true, true, true, true, true, true, false, false, false, false, false, false, false, false]
abbrev tf24_31 : Array Bool := #[true, true, true, true, true, true, true, true, true, true, true, true, true, true, true, true, true, true, true, true, true, true, true, true, false, false, false, false, false, false, false]
abbrev tf25_31 : Array Bool := #[true, true, true, true, true, true, true, true, true, true, true, true, true, true, true, true, true, true, true, true, true, true, true, true, true, false, false, false, false, false, false]
abbrev tf26_31 : Array Bool := #[true, true, true, true, true, true, true, true, true, true, true, true, true, true, true, true, true, true, true, true, true, true, true, true, true, true, false, false, false, false, false]
abbrev tf27_31 : Array Bool := #[true, true, true, true, true, true, true, true, true, true, true, true, true, true, true, true, true, true, true, true, true, true, true, true, true, true, true, false, false, false, false]
abbrev tf28_31 : Array Bool := #[true, true, true, true, true, true, true, true, true, true, true, true, true, true, true, true, true, true, true, true, true, true, true, true, true, true, true, true, false, false, false]
abbrev tf29_31 : Array Bool := #[true, true, true, true, true, true, true, true, true, true, true, true, true, true, true, true, true, true, true, true, true, true, true, true, true, true, true, true, true, false, false]
abbrev tf2_21 : Array Bool := #[true, true, false, false, false, false, false, false, false, false, false, false, false, false, false, false, false, false, false, false, false]
abbrev tf2_31 : Array Bool := #[true, true, false, false, false, false, false, false, false, false, false, false, false, false, false, false, false, false, false, false, false, false, false, false, false, false, false, false, false, false, false]
abbrev tf30_31 : Array Bool := #[true, true, true, true, true, true, true, true, true, true, true, true, true, true, true, true, true, true, true, true, true, true, true, true, true, true, true, true, true, true, false]
abbrev tf31_31 : Array Bool := #[true, true, true, true, true, true, true, true, true, true, true, true, true, true, true, true, true, true, true, true, true, true, true, true, true, true, true, true, true, true, true]
abbrev tf3_21 : Array Bool := #[true, true, true, false, false, false, false, false, false, false, false, false, false, false, false, false, false, false, false, false, false]
abbrev tf3_31 : Array Bool := #[true, true, true, false, false, false, false, false, false, false, false, false, false, false, false, false, false, false, false, false, false, false, false, false, false, false, false, false, false, false, false]
abbrev tf4_21 : Array Bool := #[true, true, true, true, false, false, false, false, false, false, false, false, false, false, false, false, false, false, false, false, false]
abbrev tf4_31 : Array Bool := #[true, true, true, true, false, false, false, false, false, false, false, false, false, false, false, false, false, false, false, false, false, false, false, false, false, false, false, false, false, false, false]
abbrev tf5_21 : Array Bool := #[true, true, true, true, true, false, false, false, false, false, false, false, false, false, false, false, false, false, false, false, false]
abbrev tf5_31 : Array Bool := #[true, true, true, true, true, false, false, false, false, false, false, false, false, false, false, false, false, false, false, false, false, false, false, false, false, false, false, false, false, false, false]
abbrev tf6_21 : Array Bool := #[true, true, true, true, true, true, false, false, false, false, false, false, false, false, false, false, false, false, false, false, false]
abbrev tf6_31 : Array Bool := #[true, true, true, true, true, true, false, false, false, false, false, false, false, false, false, false, false, false, false, false, false, false, false, false, false, false, false, false, false, false, false]
abbrev tf7_21 : Array Bool := #[true, true, true, true, true, true, true, false, false, false, false, false, false, false, false, false, false, false, false, false, false]
abbrev tf7_31 : Array Bool := #[true, true, true, true, true, true, true, false, false, false, false, false, false, false, false, false, false, false, false, false, false, false, false, false, false, false, false, false, false, false, false]
abbrev tf8_21 : Array Bool := #[true, true, true, true, true, true, true, true, false, false, false, false, false, false, false, false, false, false, false, false, false]
abbrev tf8_31 : Array Bool := #[true, true, true, true, true, true, true, true, false, false, false, false, false, false, false, false, false, false, false, false, false, false, false, false, false, false, false, false, false, false, false]
abbrev tf9_21 : Array Bool := #[true, true, true, true, true, true, true, true, true, false, false, false, false, false, false, false, false, false, false, false, false]
abbrev tf9_31 : Array Bool := #[true, true, true, true, true, true, true, true, true, false, false, false, false, false, false, false, false, false, false, false, false, false, false, false, false, false, false, false, false, false, false]
set_option maxRecDepth 100000 in
set_option maxHeartbeats 40000000 in
theorem chk9_any {A : Option Addr} {n cap : Nat} {L : List Cn} (c : Cd) (ms : List SM) (ls : List (Int × Int)) (w : World) (hS : Fits L) (hn : L.length = n) (hN : n ≤ 100000) (hp : Pool w w.heap.size A L) (hok : c.m9 w ms ls) :
  Calls Tryz.prog 10 #[.slice A n cap, (Value.agg #[Value.int IntKind.i64 (Cd.st c), Value.int IntKind.i64 (Cd.lo c), Value.slice (Cd.iA c) (Cd.n c) (Cd.ic c), Value.slice (Cd.hA c) (Cd.hn c) (Cd.hc c), Value.slice (Cd.mA c) (Cd.mn c) (Cd.mc c), Value.slice (Cd.lA c) (Cd.ln c) (Cd.lc c)])] w fun e w' => e = .returned (.tuple #[.int .i64 (ckC L c ms ls).1, .int .i64 (ckC L c ms ls).2]) ∧ Below w.heap.size w w' := by
 have hB : Below w.heap.size w w := Below.refl _ _
 have OK := Lib.hid hok
 have HP := Lib.hid hp
 have HN := Lib.hid hn
 have HS := Lib.hid hS
 have hcn := hok.c9.ib
 have hch := hok.c9.hb
 have hcm := hok.mb
 have hcl := hok.lb
 clear hok hp hn hS
 obtain ⟨r, hr⟩ : ∃ r, ckC L c ms ls = r := ⟨_, rfl⟩
 have HR := Lib.hid hr
 rw [hr]
 clear hr
 obtain ⟨r1', r2'⟩ := r
 obtain ⟨sz, hsz⟩ : ∃ x, szE L c = x := ⟨_, rfl⟩
 have HSZ := Lib.hid hsz
 clear hsz
 obtain ⟨iA, hiA⟩ : ∃ A, c.iA = A := ⟨_, rfl⟩
 have HIA := Lib.hid hiA
 obtain ⟨hA, hhA⟩ : ∃ A, c.hA = A := ⟨_, rfl⟩
 have HHA := Lib.hid hhA
 obtain ⟨mA, hmA⟩ : ∃ A, c.mA = A := ⟨_, rfl⟩
 have HMA := Lib.hid hmA
 obtain ⟨lA, hlA⟩ : ∃ A, c.lA = A := ⟨_, rfl⟩
 have HLA := Lib.hid hlA
 clear hiA hhA hmA hlA
 go_enter Tryz.func10, Tryz.ntmps10
 go_upto_region 1 with fail
 have R := World.alloc_heap_new w (.cells #[.int .i64 c.st, .int .i64 c.lo, .slice c.iA c.n c.ic, .slice c.hA c.hn c.hc, .slice c.mA c.mn c.mc, .slice c.lA c.ln c.lc] 28)
 replace hB := below_al hB (.cells #[.int .i64 c.st, .int .i64 c.lo, .slice c.iA c.n c.ic, .slice c.hA c.hn c.hc, .slice c.mA c.mn c.mc, .slice c.lA c.ln c.lc] 28)
 generalize w.alloc (.cells #[.int .i64 c.st, .int .i64 c.lo, .slice c.iA c.n c.ic, .slice c.hA c.hn c.hc, .slice c.mA c.mn c.mc, .slice c.lA c.ln c.lc] 28) = W1 at R hB ⊢
 obtain ⟨r0, r1, r2, r3, r4, r5⟩ := six_cells R
 have y1 := lt_heap R
 replace R := Lib.hid R
 have HP1 := Lib.hid (HP.out.up hB)
 have OK1 := Lib.hid (OK.out.up hB)
 by_cases hE : sz = 0
 ·
  have HE := Lib.hid (show szE L c = 0 by rw [HSZ.out]; exact hE)
  rw [hE] at HSZ
  clear hE
  go_upto_region 4 with (go_at_call 23; refine (sz_any c _ HS.out HN.out hN HP1.out OK1.out.c9).mono ?_; rintro e w1 ⟨rfl, hb1⟩; rw [HSZ.out])
  have HB := Lib.hid (below_on hB hb1)
  have RB := Lib.hid ((hb1.block _ y1).trans R.out)
  have HP2 := Lib.hid (HP1.out.up hb1)
  have OK2 := Lib.hid (OK1.out.up hb1)
  clear r0 r1 r2 r3 r4 r5 y1 R hb1 hB HP1 OK1
  clear W1
  obtain ⟨r0, r1, r2, r3, r4, r5⟩ := six_cells RB.out
  have yr := lt_heap RB.out
  rw [HIA.out] at r2
  go_upto_region 5 with fail
  clear r0 r1 r2 r3 r4 r5 yr
  go_loopw [26] (fun z wr => ∃ k : Nat, k ≤ c.n ∧ z = .int .i64 k ∧ (c.is.take k).any (nzI L c) = false ∧ Below w1.heap.size w1 wr) (fun z _ => c.n - (intOf z).toNat)
  case atStart => exact ⟨0, Nat.zero_le _, rfl, rfl, Below.refl _ _⟩
  case round =>
   obtain ⟨k, hk, rfl, hall, hbr⟩ := hrel
   have HALL := Lib.hid hall
   have HBR := Lib.hid hbr
   have RBr := Lib.hid ((hbr.block _ (lt_heap RB.out)).trans RB.out)
   have OKr := Lib.hid (OK2.out.up hbr)
   have HPr := Lib.hid (HP2.out.up hbr)
   have hiw := OKr.out.c9.iw
   rw [HIA.out] at hiw
   clear hall hbr
   obtain ⟨r0, r1, r2, r3, r4, r5⟩ := six_cells RBr.out
   have yr := lt_heap RBr.out
   by_cases hlt : k < c.n
   ·
    obtain ⟨i, hi⟩ := get_someF (l := c.is) (k := k) (by rw [OKr.out.c9.il]; exact hlt)
    rcases hiw with h0 | ⟨g, o, rfl, hg, hcell⟩
    ·
     rw [h0] at hi; simp at hi
    ·
     obtain ⟨iok, a0, a1, a2, a3, a4, a5, a6, a7, a8, a9⟩ := hcell k _ hi
     have HIK := Lib.hid hi
     have HIM := Lib.hid (List.mem_of_getElem? hi)
     have HAT := Lib.hid (any_take (p := nzI L c) hi)
     have hk0 : (0 : Int) ≤ (k : Int) := by omega
     have hk1 : (k : Int) < (c.n : Int) := by omega
     have IOK := Lib.hid iok
     clear hcell iok hi
     go_upto_region 7 with fail
     have hX2 := World.alloc_heap_new wr (.cells #[.int .i64 i.op, .int .i64 i.a, .int .i64 i.b, .int .i64 i.t, .slice i.kA i.kn i.kc, .slice i.tA i.tn i.tc, .string i.r1, .string i.r2, .string i.r3, .string i.s] 50)
     have hbl := below_al (Below.refl _ wr) (.cells #[.int .i64 i.op, .int .i64 i.a, .int .i64 i.b, .int .i64 i.t, .slice i.kA i.kn i.kc, .slice i.tA i.tn i.tc, .string i.r1, .string i.r2, .string i.r3, .string i.s] 50)
     generalize hbb : wr.heap.size = b at hX2 ⊢
     generalize wr.alloc (.cells #[.int .i64 i.op, .int .i64 i.a, .int .i64 i.b, .int .i64 i.t, .slice i.kA i.kn i.kc, .slice i.tA i.tn i.tc, .string i.r1, .string i.r2, .string i.r3, .string i.s] 50) = W2 at hX2 hbl ⊢
     have XB := Lib.hid hX2
     have RB2 := Lib.hid ((hbl.block _ yr).trans RBr.out)
     have HBR2 := Lib.hid (below_on HBR.out hbl)
     have HP3 := Lib.hid (HPr.out.up hbl)
     have IOK3 := Lib.hid (IOK.out.up hbl)
     clear hX2 hbb a0 a1 a2 a3 a4 a5 a6 a7 a8 a9 hg r0 r1 r2 r3 r4 r5 yr hbl IOK HPr
     obtain ⟨b0, b1, b2, b3, b4, b5, b6, b7, b8, b9⟩ := ten_cells XB.out
     obtain ⟨r0, r1, r2, r3, r4, r5⟩ := six_cells RB2.out
     have yb := lt_heap XB.out
     have yr := lt_heap RB2.out
     obtain ⟨ie, hie⟩ : ∃ x, inE L c i = x := ⟨_, rfl⟩
     have HIE := Lib.hid hie
     clear hie
     by_cases hi0 : ie = 0
     ·
      have HZ := Lib.hid (show nzI L c i = false by unfold nzI; rw [HIE.out]; simpa using hi0)
      rw [hi0] at HIE
      go_wp2_with (go_at_call 24; refine (cin_any c i _ HS.out HN.out hN HP3.out IOK3.out (OK.out.c9.nz i HIM.out) (OK.out.c9.tn i HIM.out)).mono ?_; rintro e w3 ⟨rfl, hb3⟩; rw [HIE.out])
      exact ⟨⟨k + 1, hlt, by go_num, by rw [HAT.out, HALL.out, HZ.out]; rfl, below_on HBR2.out hb3⟩, by simp [intOf]; omega⟩
     ·
      have H := Lib.hid (cc_2 (ms := ms) (ls := ls) HE.out HALL.out HIK.out (show nzI L c i = true by unfold nzI; rw [HIE.out]; simpa using hi0))
      have ei : (ie != 0) = true := by simpa using hi0
      go_wp2_with (go_at_call 24; refine (cin_any c i _ HS.out HN.out hN HP3.out IOK3.out (OK.out.c9.nz i HIM.out) (OK.out.c9.tn i HIM.out)).mono ?_; rintro e w3 ⟨rfl, hb3⟩; rw [HIE.out])
      go_ret2
      obtain ⟨q1, q2⟩ := pq9 HR.out H.out
      exact ⟨by rw [q1, q2, HIE.out]; rfl, below_on HB.out (below_on HBR2.out hb3)⟩
   ·
    obtain ⟨hnk⟩ : c.n = k := by omega
    have HAN := Lib.hid (show c.is.any (nzI L c) = false by have h9 := HALL.out; rw [List.take_of_length_le (by rw [OK.out.c9.il]; exact Nat.le_refl _)] at h9; exact h9)
    clear hiw
    by_cases hn0 : c.n = 0
    ·
     exact absurd (szn HE.out) (by omega)
    ·
     have hw1 : IntKind.i64.wrap ((c.n : Int) - 1) = (c.n : Int) - 1 := by simp [IntKind.wrap, IntKind.bits, IntKind.signed]; omega
     obtain ⟨q, hq⟩ : ∃ q : Nat, c.n = q + 1 := ⟨c.n - 1, by omega⟩
     obtain ⟨i, hi⟩ := get_someF (l := c.is) (k := q) (by rw [OK.out.c9.il]; omega)
     have HLT := Lib.hid (show lastT c = termB i.op by unfold lastT; rw [hq, Nat.add_sub_cancel, hi])
     have hqn : (c.n : Int) - 1 = (q : Int) := by omega
     have hqb : q < c.n := by omega
     clear hq
     have hiw := OKr.out.c9.iw
     rw [HIA.out] at hiw r2
     rw [hqn] at hw1
     rcases hiw with h0 | ⟨g, o, rfl, hg, hcell⟩
     ·
      rw [h0] at hi; simp at hi
     ·
      obtain ⟨_, a0, _⟩ := hcell q _ hi
      clear hcell hi
      have hq0 : (0 : Int) ≤ (q : Int) := by omega
      have hq1 : (q : Int) < (c.n : Int) := by omega
      clear hqb
      cases htm : termB i.op with
      | false =>
       have HTM := Lib.hid htm
       have H := Lib.hid (cc_3 (ms := ms) (ls := ls) HE.out HAN.out (by rw [HLT.out]; exact htm))
       clear htm
       go_wp2_with (go_at_call 25; refine (term_any _ _).mono ?_; rintro e w' ⟨rfl, rfl⟩; rw [HTM.out])
       go_ret2
       obtain ⟨q1, q2⟩ := pq9 HR.out H.out
       exact ⟨by rw [q1, q2, hqn]; rfl, below_on HB.out HBR.out⟩
      | true =>
       have HTM := Lib.hid htm
       have HLS := Lib.hid (show lastT c = true by rw [HLT.out]; exact htm)
       clear htm
       go_upto_region 14 with (go_at_call 25; refine (term_any _ _).mono ?_; rintro e w' ⟨rfl, rfl⟩; rw [HTM.out])
       by_cases h32 : 32 < c.hn
       ·
        have H := Lib.hid (cc_4 (ms := ms) (ls := ls) HE.out HAN.out HLS.out h32)
        go_wp2
        go_ret2
        obtain ⟨q1, q2⟩ := pq9 HR.out H.out
        exact ⟨by rw [q1, q2]; rfl, below_on HB.out HBR.out⟩
       ·
        have H32 := Lib.hid h32
        rw [HHA.out] at r3
        go_upto_region 17 with fail
        have HB3 := Lib.hid (below_on HB.out HBR.out)
        have OK3 := Lib.hid OKr.out
        have HP3 := Lib.hid HPr.out
        have RB3 := Lib.hid RBr.out
        clear r0 r1 r2 r3 r4 r5 yr a0 hg HBR OKr HPr RBr OK2 HP2 RB HALL HB
        obtain ⟨w2, hw2⟩ : ∃ w2, w2 = wr := ⟨_, rfl⟩
        subst hw2
        go_loopw [60] (fun z wr => ∃ j : Nat, j ≤ c.hn ∧ z = .int .i64 j ∧ (c.hs.take j).any (nhB L c) = false ∧ Below w2.heap.size w2 wr) (fun z _ => c.hn - (intOf z).toNat)
        case atStart => exact ⟨0, Nat.zero_le _, rfl, rfl, Below.refl _ _⟩
        case round =>
         obtain ⟨j, hj, rfl, hall, hbr⟩ := hrel
         have HALL := Lib.hid hall
         have HBR := Lib.hid hbr
         have RBr := Lib.hid ((hbr.block _ (lt_heap RB3.out)).trans RB3.out)
         have OKr := Lib.hid (OK3.out.up hbr)
         have HPr := Lib.hid (HP3.out.up hbr)
         have hhw := OKr.out.c9.hw
         rw [HHA.out] at hhw
         clear hall hbr
         obtain ⟨r0, r1, r2, r3, r4, r5⟩ := six_cells RBr.out
         have yr := lt_heap RBr.out
         by_cases hlt : j < c.hn
         ·
          obtain ⟨h, hh⟩ := get_someF (l := c.hs) (k := j) (by rw [OKr.out.c9.hl]; exact hlt)
          rcases hhw with h0 | ⟨g, o, rfl, hg, hcell⟩
          ·
           rw [h0] at hh; simp at hh
          ·
           obtain ⟨a0, a1, a2, a3, a4⟩ := hcell j h hh
           have HIK := Lib.hid hh
           have HAT := Lib.hid (any_take (p := nhB L c) hh)
           have hj0 : (0 : Int) ≤ (j : Int) := by omega
           have hj1 : (j : Int) < (c.hn : Int) := by omega
           clear hcell hh
           go_upto_region 19 with fail
           have hX2 := World.alloc_heap_new wr (.cells #[.int .i64 h.f, .int .i64 h.t, .int .i64 h.g, .int .i64 h.k, .string h.s] 58)
           have hbl := below_al (Below.refl _ wr) (.cells #[.int .i64 h.f, .int .i64 h.t, .int .i64 h.g, .int .i64 h.k, .string h.s] 58)
           generalize hbb : wr.heap.size = b at hX2 ⊢
           generalize wr.alloc (.cells #[.int .i64 h.f, .int .i64 h.t, .int .i64 h.g, .int .i64 h.k, .string h.s] 58) = W2 at hX2 hbl ⊢
           have XB := Lib.hid hX2
           have RB2 := Lib.hid ((hbl.block _ yr).trans RBr.out)
           have HBR2 := Lib.hid (below_on HBR.out hbl)
           have HP4 := Lib.hid (HPr.out.up hbl)
           clear hX2 hbb a0 a1 a2 a3 a4 hg r0 r1 r2 r3 r4 r5 yr hbl HPr
           obtain ⟨b0, b1, b2, b3, b4, _⟩ := five_cells XB.out
           obtain ⟨r0, r1, r2, r3, r4, r5⟩ := six_cells RB2.out
           have yb := lt_heap XB.out
           have yr := lt_heap RB2.out
           cases hh : hlB L c h with
           | true =>
            have HHB := Lib.hid hh
            have HZ := Lib.hid (show nhB L c h = false by unfold nhB; rw [hh]; rfl)
            clear hh
            go_wp2_with (go_at_call 26; refine (cvh_any c h _ HN.out hN HP4.out).mono ?_; rintro e w3 ⟨rfl, hb3⟩; rw [HHB.out])
            exact ⟨⟨j + 1, hlt, by go_num, by rw [HAT.out, HALL.out, HZ.out]; rfl, below_on HBR2.out hb3⟩, by simp [intOf]; omega⟩
           | false =>
            have HHB := Lib.hid hh
            have H := Lib.hid (cc_5 (ms := ms) (ls := ls) HE.out HAN.out HLS.out H32.out HALL.out HIK.out (show nhB L c h = true by unfold nhB; rw [hh]; rfl))
            clear hh
            go_wp2_with (go_at_call 26; refine (cvh_any c h _ HN.out hN HP4.out).mono ?_; rintro e w3 ⟨rfl, hb3⟩; rw [HHB.out])
            go_ret2
            obtain ⟨q1, q2⟩ := pq9 HR.out H.out
            exact ⟨by rw [q1, q2]; rfl, below_on HB3.out (below_on HBR2.out hb3)⟩
         ·
          obtain ⟨hnj⟩ : c.hn = j := by omega
          have HAH := Lib.hid (show c.hs.any (nhB L c) = false by have h9 := HALL.out; rw [List.take_of_length_le (by rw [OK.out.c9.hl]; exact Nat.le_refl _)] at h9; exact h9)
          clear hhw
          rw [HMA.out] at r4
          go_upto_region 23 with fail
          have HB4 := Lib.hid (below_on HB3.out HBR.out)
          have OK4 := Lib.hid OKr.out
          have HP4 := Lib.hid HPr.out
          have RB4 := Lib.hid RBr.out
          clear r0 r1 r2 r3 r4 r5 yr HBR OKr HPr RBr OK3 HP3 RB3 HALL HB3
          obtain ⟨w3, hw3⟩ : ∃ w3, w3 = wr := ⟨_, rfl⟩
          subst hw3
          go_loopw [75] (fun z wr => ∃ j : Nat, j ≤ c.mn ∧ z = .int .i64 j ∧ (List.range j).any (smP L c ms) = false ∧ Below w3.heap.size w3 wr) (fun z _ => c.mn - (intOf z).toNat)
          case atStart => exact ⟨0, Nat.zero_le _, rfl, rfl, Below.refl _ _⟩
          case round =>
           obtain ⟨j, hj, rfl, hall, hbr⟩ := hrel
           have HALL := Lib.hid hall
           have HBR := Lib.hid hbr
           have RBr := Lib.hid ((hbr.block _ (lt_heap RB4.out)).trans RB4.out)
           have OKr := Lib.hid (OK4.out.up hbr)
           have HPr := Lib.hid (HP4.out.up hbr)
           have hmw := OKr.out.mw
           rw [HMA.out] at hmw
           clear hall hbr
           obtain ⟨r0, r1, r2, r3, r4, r5⟩ := six_cells RBr.out
           have yr := lt_heap RBr.out
           by_cases hlt : j < c.mn
           ·
            obtain ⟨m, hm⟩ := get_someF (l := ms) (k := j) (by rw [OKr.out.ml]; exact hlt)
            rcases hmw with h0 | ⟨g, o, rfl, hg, hcell⟩
            ·
             rw [h0] at hm; simp at hm
            ·
             obtain ⟨fok, a0, a1, a2, a3⟩ := hcell j m hm
             have hj0 : (0 : Int) ≤ (j : Int) := by omega
             have hj1 : (j : Int) < (c.mn : Int) := by omega
             have FOK := Lib.hid fok
             have HCELL := Lib.hid hcell
             clear hcell fok
             go_upto_region 25 with fail
             have hX2 := World.alloc_heap_new wr (.cells #[.int .i64 m.x, .slice m.f.A1 m.f.n1 m.f.c1, .slice m.f.A2 m.f.n2 m.f.c2, .bool m.f.u] 64)
             have hbl := below_al (Below.refl _ wr) (.cells #[.int .i64 m.x, .slice m.f.A1 m.f.n1 m.f.c1, .slice m.f.A2 m.f.n2 m.f.c2, .bool m.f.u] 64)
             generalize hbb : wr.heap.size = b at hX2 ⊢
             generalize wr.alloc (.cells #[.int .i64 m.x, .slice m.f.A1 m.f.n1 m.f.c1, .slice m.f.A2 m.f.n2 m.f.c2, .bool m.f.u] 64) = W2 at hX2 hbl ⊢
             have XB := Lib.hid hX2
             have RB2 := Lib.hid ((hbl.block _ yr).trans RBr.out)
             have HBR2 := Lib.hid (below_on HBR.out hbl)
             have KV := Lib.hid (fun (W : World) (hW : Below W2.heap.size W2 W) => cvp_any (cap := cap) c m.x m.f W HS.out HN.out hN (HPr.out.up (below_on hbl hW)) (OKr.out.c9.up (below_on hbl hW)) (FOK.out.up (below_on hbl hW)))
             have HCW := Lib.hid (fun (a : Addr) (ha : a.block < wr.heap.size) => hbl.cell (p := a) ha)
             have hgg : g < W2.heap.size := Nat.lt_of_lt_of_le hg hbl.size
             clear hX2 hbb a0 a1 a2 a3 r0 r1 r2 r3 r4 r5 yr hbl
             have yb := lt_heap XB.out
             have yr := lt_heap RB2.out
             obtain ⟨mp, hmp⟩ : ∃ x, mpB L c m.x m.f = x := ⟨_, rfl⟩
             have HMP := Lib.hid hmp
             rw [hmp, HMA.out] at KV
             clear hmp
             cases j with
             | zero =>
              have HSM := Lib.hid (show smP L c ms 0 = !mp by rw [smP_0 hm, HMP.out])
              clear hm
              cases mp with
              | true =>
               refine regN_start (N := 20) (S := (fun W' : World => Below W2.heap.size W2 W')) (by kernel_rfl) ?_
               change wpAnyN _ _ _ _ _ _ _ tf0_21 _ (World.drew _)
               have hS0 := (show (fun W' : World => Below W2.heap.size W2 W') W2.drew from (Below.refl _ _).drew)
               refine regN_takeC [14, 2, 1] (i := 0) (d := (some 80)) (v := ?v101x1) (l2 := tf1_21) rfl rfl rfl (by kernel_rfl) (by kernel_rfl) (by kernel_rfl) (by kernel_rfl) (fun _ _ _ h => h) (by rfl) ?hv101x1 hS0 ?h101x1
               case hv101x1 => intro u hSu; clear hSu; go_simp; (try with_reducible rfl)
               (try simp only [Act.put, List.setIfInBounds_toArray, List.set_cons_zero, List.set_cons_succ])
               refine regN_takeC [14, 2] (i := 1) (d := (some 81)) (v := ?v101x2) (l2 := tf2_21) rfl rfl rfl (by kernel_rfl) (by kernel_rfl) (by kernel_rfl) (by kernel_rfl) (fun _ _ _ h => h) (by rfl) ?hv101x2 hS0 ?h101x2
               case hv101x2 => intro u hSu; clear hSu; go_simp; (try with_reducible rfl)
               (try simp only [Act.put, List.setIfInBounds_toArray, List.set_cons_zero, List.set_cons_succ])
               refine regN_takeC [14] (i := 2) (d := (some 82)) (v := ?v101x3) (l2 := tf3_21) rfl rfl rfl (by kernel_rfl) (by kernel_rfl) (by kernel_rfl) (by kernel_rfl) (fun _ _ _ h => h) (by rfl) ?hv101x3 hS0 ?h101x3
               case hv101x3 => intro u hSu; clear hSu; go_simp; (try with_reducible rfl)
               (try simp only [Act.put, List.setIfInBounds_toArray, List.set_cons_zero, List.set_cons_succ])
               refine regN_skipC [14, 13, 12, 4] (i := 3) (d := (some 83)) (l2 := tf4_21) rfl rfl rfl (by kernel_rfl) (by kernel_rfl) (by kernel_rfl) (by kernel_rfl) (fun _ _ _ h => h) (by rfl) hS0 ?_
               (try simp only [Act.put, List.setIfInBounds_toArray, List.set_cons_zero, List.set_cons_succ])
               refine regN_skipC [14, 13, 12] (i := 4) (d := (some 84)) (l2 := tf5_21) rfl rfl rfl (by kernel_rfl) (by kernel_rfl) (by kernel_rfl) (by kernel_rfl) (fun _ _ _ h => h) (by rfl) hS0 ?_
               (try simp only [Act.put, List.setIfInBounds_toArray, List.set_cons_zero, List.set_cons_succ])
               refine regN_skipC [14, 13, 12, 11, 10, 9, 6] (i := 5) (d := (some 85)) (l2 := tf6_21) rfl rfl rfl (by kernel_rfl) (by kernel_rfl) (by kernel_rfl) (by kernel_rfl) (fun _ _ _ h => h) (by rfl) hS0 ?_
               (try simp only [Act.put, List.setIfInBounds_toArray, List.set_cons_zero, List.set_cons_succ])
               refine regN_skipC [14, 13, 12, 11, 10, 9] (i := 6) (d := (some 86)) (l2 := tf7_21) rfl rfl rfl (by kernel_rfl) (by kernel_rfl) (by kernel_rfl) (by kernel_rfl) (fun _ _ _ h => h) (by rfl) hS0 ?_
               (try simp only [Act.put, List.setIfInBounds_toArray, List.set_cons_zero, List.set_cons_succ])
               refine regN_skipC [14, 13, 12, 11, 10, 9, 8] (i := 7) (d := (some 87)) (l2 := tf8_21) rfl rfl rfl (by kernel_rfl) (by kernel_rfl) (by kernel_rfl) (by kernel_rfl) (fun _ _ _ h => h) (by rfl) hS0 ?_
               (try simp only [Act.put, List.setIfInBounds_toArray, List.set_cons_zero, List.set_cons_succ])
               refine regN_skipC [14, 13, 12, 11, 10, 9] (i := 8) (d := (some 88)) (l2 := tf9_21) rfl rfl rfl (by kernel_rfl) (by kernel_rfl) (by kernel_rfl) (by kernel_rfl) (fun _ _ _ h => h) (by rfl) hS0 ?_
               (try simp only [Act.put, List.setIfInBounds_toArray, List.set_cons_zero, List.set_cons_succ])
               refine regN_skipC [14, 13, 12, 11, 10] (i := 9) (d := (some 89)) (l2 := tf10_21) rfl rfl rfl (by kernel_rfl) (by kernel_rfl) (by kernel_rfl) (by kernel_rfl) (fun _ _ _ h => h) (by rfl) hS0 ?_
               (try simp only [Act.put, List.setIfInBounds_toArray, List.set_cons_zero, List.set_cons_succ])
               refine regN_skipC [14, 13, 12, 11] (i := 10) (d := (some 90)) (l2 := tf11_21) rfl rfl rfl (by kernel_rfl) (by kernel_rfl) (by kernel_rfl) (by kernel_rfl) (fun _ _ _ h => h) (by rfl) hS0 ?_
               (try simp only [Act.put, List.setIfInBounds_toArray, List.set_cons_zero, List.set_cons_succ])
               refine regN_skipC [14, 13, 12] (i := 11) (d := (some 91)) (l2 := tf12_21) rfl rfl rfl (by kernel_rfl) (by kernel_rfl) (by kernel_rfl) (by kernel_rfl) (fun _ _ _ h => h) (by rfl) hS0 ?_
               (try simp only [Act.put, List.setIfInBounds_toArray, List.set_cons_zero, List.set_cons_succ])
               refine regN_skipC [14, 13] (i := 12) (d := (some 92)) (l2 := tf13_21) rfl rfl rfl (by kernel_rfl) (by kernel_rfl) (by kernel_rfl) (by kernel_rfl) (fun _ _ _ h => h) (by rfl) hS0 ?_
               (try simp only [Act.put, List.setIfInBounds_toArray, List.set_cons_zero, List.set_cons_succ])
               refine regN_takeC [14] (i := 13) (d := (some 93)) (v := ?v101x4) (l2 := tf14_21) rfl rfl rfl (by kernel_rfl) (by kernel_rfl) (by kernel_rfl) (by kernel_rfl) (fun _ _ _ h => h) (by rfl) ?hv101x4 hS0 ?h101x4
               case hv101x4 => intro u hSu; clear hSu; go_simp; (try with_reducible rfl)
               (try simp only [Act.put, List.setIfInBounds_toArray, List.set_cons_zero, List.set_cons_succ])
               refine regN_take (i := 14) (d := (some 94)) (v := ?v101x5) (l2 := tf15_21) rfl rfl rfl (by kernel_rfl) (by kernel_rfl) (by kernel_rfl) (by kernel_rfl) (fun _ _ _ h => h) (by rfl) ?hv101x5 hS0 ?h101x5
               case hv101x5 => intro u hSu; clear hSu; go_simp; (try with_reducible rfl)
               (try simp only [Act.put, List.setIfInBounds_toArray, List.set_cons_zero, List.set_cons_succ])
               refine regN_takeC [19, 18] (i := 15) (d := (some 95)) (v := ?v101x6) (l2 := tf16_21) rfl rfl rfl (by kernel_rfl) (by kernel_rfl) (by kernel_rfl) (by kernel_rfl) (fun _ _ _ h => h) (by rfl) ?hv101x6 hS0 ?h101x6
               case hv101x6 => intro u hSu; clear hSu; go_simp; (try with_reducible rfl)
               (try simp only [Act.put, List.setIfInBounds_toArray, List.set_cons_zero, List.set_cons_succ])
               refine regN_takeC [19, 18] (i := 16) (d := (some 96)) (v := ?v101x7) (l2 := tf17_21) rfl rfl rfl (by kernel_rfl) (by kernel_rfl) (by kernel_rfl) (by kernel_rfl) (fun _ _ _ h => h) (by rfl) ?hv101x7 hS0 ?h101x7
               case hv101x7 => intro u hSu; have s0 := (Below.block hSu _ yr).trans RB2.out; have s1 := (Below.block hSu _ yb).trans XB.out; obtain ⟨x0, x1, x2, x3, x4, x5⟩ := six_cells s0; obtain ⟨z0, z1, z2, z3⟩ := four_cells9 s1; have n0 := lt_heap s0; have n1 := lt_heap s1; (try rw [HMA.out] at x4); clear s0 s1; go_simp; (try with_reducible rfl)
               (try simp only [Act.put, List.setIfInBounds_toArray, List.set_cons_zero, List.set_cons_succ])
               refine regN_takeC [19, 18] (i := 17) (d := (some 97)) (v := ?v101x8) (l2 := tf18_21) rfl rfl rfl (by kernel_rfl) (by kernel_rfl) (by kernel_rfl) (by kernel_rfl) (fun _ _ _ h => h) (by rfl) ?hv101x8 hS0 ?h101x8
               case hv101x8 => intro u hSu; have s0 := (Below.block hSu _ yr).trans RB2.out; have s1 := (Below.block hSu _ yb).trans XB.out; obtain ⟨x0, x1, x2, x3, x4, x5⟩ := six_cells s0; obtain ⟨z0, z1, z2, z3⟩ := four_cells9 s1; have n0 := lt_heap s0; have n1 := lt_heap s1; (try rw [HMA.out] at x4); clear s0 s1; go_simp; (try with_reducible rfl)
               (try simp only [Act.put, List.setIfInBounds_toArray, List.set_cons_zero, List.set_cons_succ])
               refine regN_ready (rs := [18]) (by kernel_rfl) (by simp) ?_
               refine (AllN.cons (i := 18) (l2 := tf19_21) rfl rfl (fun K hK => ?_) AllN.nil)
               go_simp
               go_at_call 27
               (with_reducible refine (KV.out _ (Below.refl _ _).drew).mono ?_)
               rintro e w10 ⟨rfl, hb10⟩
               have HBN := Lib.hid (below_on (show Below W2.heap.size W2 _ from (Below.refl _ _).drew) hb10)
               clear hb10
               go_simp
               have hS1 : ((fun W' : World => Below W2.heap.size W2 W') : World → Prop) _ := (show (fun W' : World => Below W2.heap.size W2 W') _ from HBN.out)
               refine hK _ _ (fun _ => hS1) ?_
               clear hK K
               (try simp only [Act.put, List.setIfInBounds_toArray, List.set_cons_zero, List.set_cons_succ])
               refine regN_take (i := 19) (d := (some 99)) (v := ?v101x9) (l2 := tf20_21) rfl rfl rfl (by kernel_rfl) (by kernel_rfl) (by kernel_rfl) (by kernel_rfl) (fun _ _ _ h => h) (by rfl) ?hv101x9 hS1 ?h101x9
               case hv101x9 => intro u hSu; clear hSu; go_simp; (try with_reducible rfl)
               (try simp only [Act.put, List.setIfInBounds_toArray, List.set_cons_zero, List.set_cons_succ])
               refine regN_ready (rs := [20]) (by kernel_rfl) (by simp) ?_
               refine (AllN.cons (i := 20) (l2 := tf21_21) rfl rfl (fun K hK => ?_) AllN.nil)
               go_simp
               refine hK _ _ (fun h => absurd rfl h) ?_
               clear hK K
               (try simp only [Act.put, List.setIfInBounds_toArray, List.set_cons_zero, List.set_cons_succ])
               refine regN_done (by kernel_rfl) ?_ _
               go_wp2
               exact ⟨⟨0 + 1, hlt, by go_num, ra_succ HALL.out HSM.out, below_on HBR2.out HBN.out⟩, by simp [intOf]; omega⟩
              | false =>
               have H := Lib.hid (cc_6 (ls := ls) (k := 0) HE.out HAN.out HLS.out H32.out HAH.out HALL.out hlt HSM.out)
               refine regN_start (N := 20) (S := (fun W' : World => Below W2.heap.size W2 W')) (by kernel_rfl) ?_
               change wpAnyN _ _ _ _ _ _ _ tf0_21 _ (World.drew _)
               have hS0 := (show (fun W' : World => Below W2.heap.size W2 W') W2.drew from (Below.refl _ _).drew)
               refine regN_takeC [14, 2, 1] (i := 0) (d := (some 80)) (v := ?v102x1) (l2 := tf1_21) rfl rfl rfl (by kernel_rfl) (by kernel_rfl) (by kernel_rfl) (by kernel_rfl) (fun _ _ _ h => h) (by rfl) ?hv102x1 hS0 ?h102x1
               case hv102x1 => intro u hSu; clear hSu; go_simp; (try with_reducible rfl)
               (try simp only [Act.put, List.setIfInBounds_toArray, List.set_cons_zero, List.set_cons_succ])
               refine regN_takeC [14, 2] (i := 1) (d := (some 81)) (v := ?v102x2) (l2 := tf2_21) rfl rfl rfl (by kernel_rfl) (by kernel_rfl) (by kernel_rfl) (by kernel_rfl) (fun _ _ _ h => h) (by rfl) ?hv102x2 hS0 ?h102x2
               case hv102x2 => intro u hSu; clear hSu; go_simp; (try with_reducible rfl)
               (try simp only [Act.put, List.setIfInBounds_toArray, List.set_cons_zero, List.set_cons_succ])
               refine regN_takeC [14] (i := 2) (d := (some 82)) (v := ?v102x3) (l2 := tf3_21) rfl rfl rfl (by kernel_rfl) (by kernel_rfl) (by kernel_rfl) (by kernel_rfl) (fun _ _ _ h => h) (by rfl) ?hv102x3 hS0 ?h102x3
               case hv102x3 => intro u hSu; clear hSu; go_simp; (try with_reducible rfl)
               (try simp only [Act.put, List.setIfInBounds_toArray, List.set_cons_zero, List.set_cons_succ])
               refine regN_skipC [14, 13, 12, 4] (i := 3) (d := (some 83)) (l2 := tf4_21) rfl rfl rfl (by kernel_rfl) (by kernel_rfl) (by kernel_rfl) (by kernel_rfl) (fun _ _ _ h => h) (by rfl) hS0 ?_
               (try simp only [Act.put, List.setIfInBounds_toArray, List.set_cons_zero, List.set_cons_succ])
               refine regN_skipC [14, 13, 12] (i := 4) (d := (some 84)) (l2 := tf5_21) rfl rfl rfl (by kernel_rfl) (by kernel_rfl) (by kernel_rfl) (by kernel_rfl) (fun _ _ _ h => h) (by rfl) hS0 ?_
               (try simp only [Act.put, List.setIfInBounds_toArray, List.set_cons_zero, List.set_cons_succ])
               refine regN_skipC [14, 13, 12, 11, 10, 9, 6] (i := 5) (d := (some 85)) (l2 := tf6_21) rfl rfl rfl (by kernel_rfl) (by kernel_rfl) (by kernel_rfl) (by kernel_rfl) (fun _ _ _ h => h) (by rfl) hS0 ?_
               (try simp only [Act.put, List.setIfInBounds_toArray, List.set_cons_zero, List.set_cons_succ])
               refine regN_skipC [14, 13, 12, 11, 10, 9] (i := 6) (d := (some 86)) (l2 := tf7_21) rfl rfl rfl (by kernel_rfl) (by kernel_rfl) (by kernel_rfl) (by kernel_rfl) (fun _ _ _ h => h) (by rfl) hS0 ?_
               (try simp only [Act.put, List.setIfInBounds_toArray, List.set_cons_zero, List.set_cons_succ])
               refine regN_skipC [14, 13, 12, 11, 10, 9, 8] (i := 7) (d := (some 87)) (l2 := tf8_21) rfl rfl rfl (by kernel_rfl) (by kernel_rfl) (by kernel_rfl) (by kernel_rfl) (fun _ _ _ h => h) (by rfl) hS0 ?_
               (try simp only [Act.put, List.setIfInBounds_toArray, List.set_cons_zero, List.set_cons_succ])
               refine regN_skipC [14, 13, 12, 11, 10, 9] (i := 8) (d := (some 88)) (l2 := tf9_21) rfl rfl rfl (by kernel_rfl) (by kernel_rfl) (by kernel_rfl) (by kernel_rfl) (fun _ _ _ h => h) (by rfl) hS0 ?_
               (try simp only [Act.put, List.setIfInBounds_toArray, List.set_cons_zero, List.set_cons_succ])
               refine regN_skipC [14, 13, 12, 11, 10] (i := 9) (d := (some 89)) (l2 := tf10_21) rfl rfl rfl (by kernel_rfl) (by kernel_rfl) (by kernel_rfl) (by kernel_rfl) (fun _ _ _ h => h) (by rfl) hS0 ?_
               (try simp only [Act.put, List.setIfInBounds_toArray, List.set_cons_zero, List.set_cons_succ])
               refine regN_skipC [14, 13, 12, 11] (i := 10) (d := (some 90)) (l2 := tf11_21) rfl rfl rfl (by kernel_rfl) (by kernel_rfl) (by kernel_rfl) (by kernel_rfl) (fun _ _ _ h => h) (by rfl) hS0 ?_
               (try simp only [Act.put, List.setIfInBounds_toArray, List.set_cons_zero, List.set_cons_succ])
               refine regN_skipC [14, 13, 12] (i := 11) (d := (some 91)) (l2 := tf12_21) rfl rfl rfl (by kernel_rfl) (by kernel_rfl) (by kernel_rfl) (by kernel_rfl) (fun _ _ _ h => h) (by rfl) hS0 ?_
               (try simp only [Act.put, List.setIfInBounds_toArray, List.set_cons_zero, List.set_cons_succ])
               refine regN_skipC [14, 13] (i := 12) (d := (some 92)) (l2 := tf13_21) rfl rfl rfl (by kernel_rfl) (by kernel_rfl) (by kernel_rfl) (by kernel_rfl) (fun _ _ _ h => h) (by rfl) hS0 ?_
               (try simp only [Act.put, List.setIfInBounds_toArray, List.set_cons_zero, List.set_cons_succ])
               refine regN_takeC [14] (i := 13) (d := (some 93)) (v := ?v102x4) (l2 := tf14_21) rfl rfl rfl (by kernel_rfl) (by kernel_rfl) (by kernel_rfl) (by kernel_rfl) (fun _ _ _ h => h) (by rfl) ?hv102x4 hS0 ?h102x4
               case hv102x4 => intro u hSu; clear hSu; go_simp; (try with_reducible rfl)
               (try simp only [Act.put, List.setIfInBounds_toArray, List.set_cons_zero, List.set_cons_succ])
               refine regN_take (i := 14) (d := (some 94)) (v := ?v102x5) (l2 := tf15_21) rfl rfl rfl (by kernel_rfl) (by kernel_rfl) (by kernel_rfl) (by kernel_rfl) (fun _ _ _ h => h) (by rfl) ?hv102x5 hS0 ?h102x5
               case hv102x5 => intro u hSu; clear hSu; go_simp; (try with_reducible rfl)
               (try simp only [Act.put, List.setIfInBounds_toArray, List.set_cons_zero, List.set_cons_succ])
               refine regN_takeC [19, 18] (i := 15) (d := (some 95)) (v := ?v102x6) (l2 := tf16_21) rfl rfl rfl (by kernel_rfl) (by kernel_rfl) (by kernel_rfl) (by kernel_rfl) (fun _ _ _ h => h) (by rfl) ?hv102x6 hS0 ?h102x6
               case hv102x6 => intro u hSu; clear hSu; go_simp; (try with_reducible rfl)
               (try simp only [Act.put, List.setIfInBounds_toArray, List.set_cons_zero, List.set_cons_succ])
               refine regN_takeC [19, 18] (i := 16) (d := (some 96)) (v := ?v102x7) (l2 := tf17_21) rfl rfl rfl (by kernel_rfl) (by kernel_rfl) (by kernel_rfl) (by kernel_rfl) (fun _ _ _ h => h) (by rfl) ?hv102x7 hS0 ?h102x7
               case hv102x7 => intro u hSu; have s0 := (Below.block hSu _ yr).trans RB2.out; have s1 := (Below.block hSu _ yb).trans XB.out; obtain ⟨x0, x1, x2, x3, x4, x5⟩ := six_cells s0; obtain ⟨z0, z1, z2, z3⟩ := four_cells9 s1; have n0 := lt_heap s0; have n1 := lt_heap s1; (try rw [HMA.out] at x4); clear s0 s1; go_simp; (try with_reducible rfl)
               (try simp only [Act.put, List.setIfInBounds_toArray, List.set_cons_zero, List.set_cons_succ])
               refine regN_takeC [19, 18] (i := 17) (d := (some 97)) (v := ?v102x8) (l2 := tf18_21) rfl rfl rfl (by kernel_rfl) (by kernel_rfl) (by kernel_rfl) (by kernel_rfl) (fun _ _ _ h => h) (by rfl) ?hv102x8 hS0 ?h102x8
               case hv102x8 => intro u hSu; have s0 := (Below.block hSu _ yr).trans RB2.out; have s1 := (Below.block hSu _ yb).trans XB.out; obtain ⟨x0, x1, x2, x3, x4, x5⟩ := six_cells s0; obtain ⟨z0, z1, z2, z3⟩ := four_cells9 s1; have n0 := lt_heap s0; have n1 := lt_heap s1; (try rw [HMA.out] at x4); clear s0 s1; go_simp; (try with_reducible rfl)
               (try simp only [Act.put, List.setIfInBounds_toArray, List.set_cons_zero, List.set_cons_succ])
               refine regN_ready (rs := [18]) (by kernel_rfl) (by simp) ?_
               refine (AllN.cons (i := 18) (l2 := tf19_21) rfl rfl (fun K hK => ?_) AllN.nil)
               go_simp
               go_at_call 27
               (with_reducible refine (KV.out _ (Below.refl _ _).drew).mono ?_)
               rintro e w10 ⟨rfl, hb10⟩
               have HBN := Lib.hid (below_on (show Below W2.heap.size W2 _ from (Below.refl _ _).drew) hb10)
               clear hb10
               go_simp
               have hS1 : ((fun W' : World => Below W2.heap.size W2 W') : World → Prop) _ := (show (fun W' : World => Below W2.heap.size W2 W') _ from HBN.out)
               refine hK _ _ (fun _ => hS1) ?_
               clear hK K
               (try simp only [Act.put, List.setIfInBounds_toArray, List.set_cons_zero, List.set_cons_succ])
               refine regN_take (i := 19) (d := (some 99)) (v := ?v102x9) (l2 := tf20_21) rfl rfl rfl (by kernel_rfl) (by kernel_rfl) (by kernel_rfl) (by kernel_rfl) (fun _ _ _ h => h) (by rfl) ?hv102x9 hS1 ?h102x9
               case hv102x9 => intro u hSu; clear hSu; go_simp; (try with_reducible rfl)
               (try simp only [Act.put, List.setIfInBounds_toArray, List.set_cons_zero, List.set_cons_succ])
               refine regN_ready (rs := [20]) (by kernel_rfl) (by simp) ?_
               refine (AllN.cons (i := 20) (l2 := tf21_21) rfl rfl (fun K hK => ?_) AllN.nil)
               go_simp
               refine hK _ _ (fun h => absurd rfl h) ?_
               clear hK K
               (try simp only [Act.put, List.setIfInBounds_toArray, List.set_cons_zero, List.set_cons_succ])
               refine regN_done (by kernel_rfl) ?_ _
               go_wp2
               go_ret2
               obtain ⟨q1, q2⟩ := pq9 HR.out H.out
               exact ⟨by rw [q1, q2]; rfl, below_on HB4.out (below_on HBR2.out HBN.out)⟩
             | succ q =>
              obtain ⟨p, hp⟩ := get_someF (l := ms) (k := q) (by rw [OKr.out.ml]; omega)
              obtain ⟨_, e0, _⟩ := HCELL.out q p hp
              replace e0 := (HCW.out ⟨g, o + q * 4, none⟩ hg).trans e0
              have HSM := Lib.hid (show smP L c ms (q + 1) = (decide (m.x ≤ p.x) || !mp) by rw [smP_s hm hp, HMP.out])
              have hw1 : IntKind.i64.wrap (q : Int) = (q : Int) := by simp [IntKind.wrap, IntKind.bits, IntKind.signed]; omega
              have hq0 : (0 : Int) ≤ (q : Int) := by omega
              have hq1 : (q : Int) < (c.mn : Int) := by omega
              have hgt : (0 : Int) < (q : Int) + 1 := by omega
              rw [Int.natCast_add, Int.natCast_one] at hj0 hj1 ⊢
              clear hm hp
              by_cases hle : m.x ≤ p.x
              ·
               have H := Lib.hid (cc_6 (ls := ls) (k := q + 1) HE.out HAN.out HLS.out H32.out HAH.out HALL.out hlt (by rw [HSM.out, decide_eq_true hle]; rfl))
               refine regN_start (N := 20) (S := (fun W' : World => Below W2.heap.size W2 W')) (by kernel_rfl) ?_
               change wpAnyN _ _ _ _ _ _ _ tf0_21 _ (World.drew _)
               have hS0 := (show (fun W' : World => Below W2.heap.size W2 W') W2.drew from (Below.refl _ _).drew)
               refine regN_takeC [14, 2, 1] (i := 0) (d := (some 80)) (v := ?v103x1) (l2 := tf1_21) rfl rfl rfl (by kernel_rfl) (by kernel_rfl) (by kernel_rfl) (by kernel_rfl) (fun _ _ _ h => h) (by rfl) ?hv103x1 hS0 ?h103x1
               case hv103x1 => intro u hSu; clear hSu; go_simp; (try with_reducible rfl)
               (try simp only [Act.put, List.setIfInBounds_toArray, List.set_cons_zero, List.set_cons_succ])
               refine regN_takeC [14, 2] (i := 1) (d := (some 81)) (v := ?v103x2) (l2 := tf2_21) rfl rfl rfl (by kernel_rfl) (by kernel_rfl) (by kernel_rfl) (by kernel_rfl) (fun _ _ _ h => h) (by rfl) ?hv103x2 hS0 ?h103x2
               case hv103x2 => intro u hSu; clear hSu; go_simp; (try with_reducible rfl)
               (try simp only [Act.put, List.setIfInBounds_toArray, List.set_cons_zero, List.set_cons_succ])
               refine regN_takeC [14] (i := 2) (d := (some 82)) (v := ?v103x3) (l2 := tf3_21) rfl rfl rfl (by kernel_rfl) (by kernel_rfl) (by kernel_rfl) (by kernel_rfl) (fun _ _ _ h => h) (by rfl) ?hv103x3 hS0 ?h103x3
               case hv103x3 => intro u hSu; clear hSu; go_simp; (try with_reducible rfl)
               (try simp only [Act.put, List.setIfInBounds_toArray, List.set_cons_zero, List.set_cons_succ])
               refine regN_takeC [14, 13, 12, 4] (i := 3) (d := (some 83)) (v := ?v103x4) (l2 := tf4_21) rfl rfl rfl (by kernel_rfl) (by kernel_rfl) (by kernel_rfl) (by kernel_rfl) (fun _ _ _ h => h) (by rfl) ?hv103x4 hS0 ?h103x4
               case hv103x4 => intro u hSu; clear hSu; go_simp; (try with_reducible rfl)
               (try simp only [Act.put, List.setIfInBounds_toArray, List.set_cons_zero, List.set_cons_succ])
               refine regN_takeC [14, 13, 12] (i := 4) (d := (some 84)) (v := ?v103x5) (l2 := tf5_21) rfl rfl rfl (by kernel_rfl) (by kernel_rfl) (by kernel_rfl) (by kernel_rfl) (fun _ _ _ h => h) (by rfl) ?hv103x5 hS0 ?h103x5
               case hv103x5 => intro u hSu; have s0 := (Below.block hSu _ yr).trans RB2.out; have s1 := (Below.block hSu _ yb).trans XB.out; obtain ⟨x0, x1, x2, x3, x4, x5⟩ := six_cells s0; obtain ⟨z0, z1, z2, z3⟩ := four_cells9 s1; have n0 := lt_heap s0; have n1 := lt_heap s1; (try rw [HMA.out] at x4); have p0 := (Below.cell hSu (p := ⟨g, o + q * 4, none⟩) hgg).trans e0; clear s0 s1; go_simp; (try with_reducible rfl)
               (try simp only [Act.put, List.setIfInBounds_toArray, List.set_cons_zero, List.set_cons_succ])
               refine regN_takeC [14, 13, 12, 11, 10, 9, 6] (i := 5) (d := (some 85)) (v := ?v103x6) (l2 := tf6_21) rfl rfl rfl (by kernel_rfl) (by kernel_rfl) (by kernel_rfl) (by kernel_rfl) (fun _ _ _ h => h) (by rfl) ?hv103x6 hS0 ?h103x6
               case hv103x6 => intro u hSu; clear hSu; go_simp; (try with_reducible rfl)
               (try simp only [Act.put, List.setIfInBounds_toArray, List.set_cons_zero, List.set_cons_succ])
               refine regN_takeC [14, 13, 12, 11, 10, 9] (i := 6) (d := (some 86)) (v := ?v103x7) (l2 := tf7_21) rfl rfl rfl (by kernel_rfl) (by kernel_rfl) (by kernel_rfl) (by kernel_rfl) (fun _ _ _ h => h) (by rfl) ?hv103x7 hS0 ?h103x7
               case hv103x7 => intro u hSu; have s0 := (Below.block hSu _ yr).trans RB2.out; have s1 := (Below.block hSu _ yb).trans XB.out; obtain ⟨x0, x1, x2, x3, x4, x5⟩ := six_cells s0; obtain ⟨z0, z1, z2, z3⟩ := four_cells9 s1; have n0 := lt_heap s0; have n1 := lt_heap s1; (try rw [HMA.out] at x4); have p0 := (Below.cell hSu (p := ⟨g, o + q * 4, none⟩) hgg).trans e0; clear s0 s1; go_simp; (try with_reducible rfl)
               (try simp only [Act.put, List.setIfInBounds_toArray, List.set_cons_zero, List.set_cons_succ])
               refine regN_takeC [14, 13, 12, 11, 10, 9, 8] (i := 7) (d := (some 87)) (v := ?v103x8) (l2 := tf8_21) rfl rfl rfl (by kernel_rfl) (by kernel_rfl) (by kernel_rfl) (by kernel_rfl) (fun _ _ _ h => h) (by rfl) ?hv103x8 hS0 ?h103x8
               case hv103x8 => intro u hSu; clear hSu; go_simp; (try with_reducible rfl)
               (try simp only [Act.put, List.setIfInBounds_toArray, List.set_cons_zero, List.set_cons_succ])
               refine regN_takeC [14, 13, 12, 11, 10, 9] (i := 8) (d := (some 88)) (v := ?v103x9) (l2 := tf9_21) rfl rfl rfl (by kernel_rfl) (by kernel_rfl) (by kernel_rfl) (by kernel_rfl) (fun _ _ _ h => h) (by rfl) ?hv103x9 hS0 ?h103x9
               case hv103x9 => intro u hSu; clear hSu; go_simp; (try with_reducible rfl)
               (try simp only [Act.put, List.setIfInBounds_toArray, List.set_cons_zero, List.set_cons_succ])
               refine regN_takeC [14, 13, 12, 11, 10] (i := 9) (d := (some 89)) (v := ?v103x10) (l2 := tf10_21) rfl rfl rfl (by kernel_rfl) (by kernel_rfl) (by kernel_rfl) (by kernel_rfl) (fun _ _ _ h => h) (by rfl) ?hv103x10 hS0 ?h103x10
               case hv103x10 => intro u hSu; clear hSu; go_simp; (try with_reducible rfl)
               (try simp only [Act.put, List.setIfInBounds_toArray, List.set_cons_zero, List.set_cons_succ])
               refine regN_takeC [14, 13, 12, 11] (i := 10) (d := (some 90)) (v := ?v103x11) (l2 := tf11_21) rfl rfl rfl (by kernel_rfl) (by kernel_rfl) (by kernel_rfl) (by kernel_rfl) (fun _ _ _ h => h) (by rfl) ?hv103x11 hS0 ?h103x11
               case hv103x11 => intro u hSu; clear hSu; go_simp; (try with_reducible rfl)
               (try simp only [Act.put, List.setIfInBounds_toArray, List.set_cons_zero, List.set_cons_succ])
               refine regN_takeC [14, 13, 12] (i := 11) (d := (some 91)) (v := ?v103x12) (l2 := tf12_21) rfl rfl rfl (by kernel_rfl) (by kernel_rfl) (by kernel_rfl) (by kernel_rfl) (fun _ _ _ h => h) (by rfl) ?hv103x12 hS0 ?h103x12
               case hv103x12 => intro u hSu; have s0 := (Below.block hSu _ yr).trans RB2.out; have s1 := (Below.block hSu _ yb).trans XB.out; obtain ⟨x0, x1, x2, x3, x4, x5⟩ := six_cells s0; obtain ⟨z0, z1, z2, z3⟩ := four_cells9 s1; have n0 := lt_heap s0; have n1 := lt_heap s1; (try rw [HMA.out] at x4); have p0 := (Below.cell hSu (p := ⟨g, o + q * 4, none⟩) hgg).trans e0; clear s0 s1; go_simp; (try with_reducible rfl)
               (try simp only [Act.put, List.setIfInBounds_toArray, List.set_cons_zero, List.set_cons_succ])
               refine regN_takeC [14, 13] (i := 12) (d := (some 92)) (v := ?v103x13) (l2 := tf13_21) rfl rfl rfl (by kernel_rfl) (by kernel_rfl) (by kernel_rfl) (by kernel_rfl) (fun _ _ _ h => h) (by rfl) ?hv103x13 hS0 ?h103x13
               case hv103x13 => intro u hSu; clear hSu; go_simp; (try with_reducible rfl)
               (try simp only [Act.put, List.setIfInBounds_toArray, List.set_cons_zero, List.set_cons_succ])
               refine regN_takeC [14] (i := 13) (d := (some 93)) (v := ?v103x14) (l2 := tf14_21) rfl rfl rfl (by kernel_rfl) (by kernel_rfl) (by kernel_rfl) (by kernel_rfl) (fun _ _ _ h => h) (by rfl) ?hv103x14 hS0 ?h103x14
               case hv103x14 => intro u hSu; clear hSu; go_simp; (try with_reducible rfl)
               (try simp only [Act.put, List.setIfInBounds_toArray, List.set_cons_zero, List.set_cons_succ])
               refine regN_take (i := 14) (d := (some 94)) (v := ?v103x15) (l2 := tf15_21) rfl rfl rfl (by kernel_rfl) (by kernel_rfl) (by kernel_rfl) (by kernel_rfl) (fun _ _ _ h => h) (by rfl) ?hv103x15 hS0 ?h103x15
               case hv103x15 => intro u hSu; clear hSu; go_simp; (try with_reducible rfl)
               (try simp only [Act.put, List.setIfInBounds_toArray, List.set_cons_zero, List.set_cons_succ])
               refine regN_skipC [19, 18] (i := 15) (d := (some 95)) (l2 := tf16_21) rfl rfl rfl (by kernel_rfl) (by kernel_rfl) (by kernel_rfl) (by kernel_rfl) (fun _ _ _ h => h) (by rfl) hS0 ?_
               (try simp only [Act.put, List.setIfInBounds_toArray, List.set_cons_zero, List.set_cons_succ])
               refine regN_skipC [19, 18] (i := 16) (d := (some 96)) (l2 := tf17_21) rfl rfl rfl (by kernel_rfl) (by kernel_rfl) (by kernel_rfl) (by kernel_rfl) (fun _ _ _ h => h) (by rfl) hS0 ?_
               (try simp only [Act.put, List.setIfInBounds_toArray, List.set_cons_zero, List.set_cons_succ])
               refine regN_skipC [19, 18] (i := 17) (d := (some 97)) (l2 := tf18_21) rfl rfl rfl (by kernel_rfl) (by kernel_rfl) (by kernel_rfl) (by kernel_rfl) (fun _ _ _ h => h) (by rfl) hS0 ?_
               (try simp only [Act.put, List.setIfInBounds_toArray, List.set_cons_zero, List.set_cons_succ])
               refine regN_skipC [19] (i := 18) (d := (some 98)) (l2 := tf19_21) rfl rfl rfl (by kernel_rfl) (by kernel_rfl) (by kernel_rfl) (by kernel_rfl) (fun _ _ _ h => h) (by rfl) hS0 ?_
               (try simp only [Act.put, List.setIfInBounds_toArray, List.set_cons_zero, List.set_cons_succ])
               refine regN_skip (i := 19) (d := (some 99)) (l2 := tf20_21) rfl rfl rfl (by kernel_rfl) (by kernel_rfl) (by kernel_rfl) (by kernel_rfl) (fun _ _ _ h => h) (by rfl) hS0 ?_
               (try simp only [Act.put, List.setIfInBounds_toArray, List.set_cons_zero, List.set_cons_succ])
               refine regN_ready (rs := [20]) (by kernel_rfl) (by simp) ?_
               refine (AllN.cons (i := 20) (l2 := tf21_21) rfl rfl (fun K hK => ?_) AllN.nil)
               go_simp
               refine hK _ _ (fun h => absurd rfl h) ?_
               clear hK K
               (try simp only [Act.put, List.setIfInBounds_toArray, List.set_cons_zero, List.set_cons_succ])
               refine regN_done (by kernel_rfl) ?_ _
               go_wp2
               go_ret2
               obtain ⟨q1, q2⟩ := pq9 HR.out H.out
               exact ⟨by rw [q1, q2]; rfl, below_on HB4.out HBR2.out.drew⟩
              ·
               cases mp with
               | true =>
                refine regN_start (N := 20) (S := (fun W' : World => Below W2.heap.size W2 W')) (by kernel_rfl) ?_
                change wpAnyN _ _ _ _ _ _ _ tf0_21 _ (World.drew _)
                have hS0 := (show (fun W' : World => Below W2.heap.size W2 W') W2.drew from (Below.refl _ _).drew)
                refine regN_takeC [14, 2, 1] (i := 0) (d := (some 80)) (v := ?v104x1) (l2 := tf1_21) rfl rfl rfl (by kernel_rfl) (by kernel_rfl) (by kernel_rfl) (by kernel_rfl) (fun _ _ _ h => h) (by rfl) ?hv104x1 hS0 ?h104x1
                case hv104x1 => intro u hSu; clear hSu; go_simp; (try with_reducible rfl)
                (try simp only [Act.put, List.setIfInBounds_toArray, List.set_cons_zero, List.set_cons_succ])
                refine regN_takeC [14, 2] (i := 1) (d := (some 81)) (v := ?v104x2) (l2 := tf2_21) rfl rfl rfl (by kernel_rfl) (by kernel_rfl) (by kernel_rfl) (by kernel_rfl) (fun _ _ _ h => h) (by rfl) ?hv104x2 hS0 ?h104x2
                case hv104x2 => intro u hSu; clear hSu; go_simp; (try with_reducible rfl)
                (try simp only [Act.put, List.setIfInBounds_toArray, List.set_cons_zero, List.set_cons_succ])
                refine regN_takeC [14] (i := 2) (d := (some 82)) (v := ?v104x3) (l2 := tf3_21) rfl rfl rfl (by kernel_rfl) (by kernel_rfl) (by kernel_rfl) (by kernel_rfl) (fun _ _ _ h => h) (by rfl) ?hv104x3 hS0 ?h104x3
                case hv104x3 => intro u hSu; clear hSu; go_simp; (try with_reducible rfl)
                (try simp only [Act.put, List.setIfInBounds_toArray, List.set_cons_zero, List.set_cons_succ])
                refine regN_takeC [14, 13, 12, 4] (i := 3) (d := (some 83)) (v := ?v104x4) (l2 := tf4_21) rfl rfl rfl (by kernel_rfl) (by kernel_rfl) (by kernel_rfl) (by kernel_rfl) (fun _ _ _ h => h) (by rfl) ?hv104x4 hS0 ?h104x4
                case hv104x4 => intro u hSu; clear hSu; go_simp; (try with_reducible rfl)
                (try simp only [Act.put, List.setIfInBounds_toArray, List.set_cons_zero, List.set_cons_succ])
                refine regN_takeC [14, 13, 12] (i := 4) (d := (some 84)) (v := ?v104x5) (l2 := tf5_21) rfl rfl rfl (by kernel_rfl) (by kernel_rfl) (by kernel_rfl) (by kernel_rfl) (fun _ _ _ h => h) (by rfl) ?hv104x5 hS0 ?h104x5
                case hv104x5 => intro u hSu; have s0 := (Below.block hSu _ yr).trans RB2.out; have s1 := (Below.block hSu _ yb).trans XB.out; obtain ⟨x0, x1, x2, x3, x4, x5⟩ := six_cells s0; obtain ⟨z0, z1, z2, z3⟩ := four_cells9 s1; have n0 := lt_heap s0; have n1 := lt_heap s1; (try rw [HMA.out] at x4); have p0 := (Below.cell hSu (p := ⟨g, o + q * 4, none⟩) hgg).trans e0; clear s0 s1; go_simp; (try with_reducible rfl)
                (try simp only [Act.put, List.setIfInBounds_toArray, List.set_cons_zero, List.set_cons_succ])
                refine regN_takeC [14, 13, 12, 11, 10, 9, 6] (i := 5) (d := (some 85)) (v := ?v104x6) (l2 := tf6_21) rfl rfl rfl (by kernel_rfl) (by kernel_rfl) (by kernel_rfl) (by kernel_rfl) (fun _ _ _ h => h) (by rfl) ?hv104x6 hS0 ?h104x6
                case hv104x6 => intro u hSu; clear hSu; go_simp; (try with_reducible rfl)
                (try simp only [Act.put, List.setIfInBounds_toArray, List.set_cons_zero, List.set_cons_succ])
                refine regN_takeC [14, 13, 12, 11, 10, 9] (i := 6) (d := (some 86)) (v := ?v104x7) (l2 := tf7_21) rfl rfl rfl (by kernel_rfl) (by kernel_rfl) (by kernel_rfl) (by kernel_rfl) (fun _ _ _ h => h) (by rfl) ?hv104x7 hS0 ?h104x7
                case hv104x7 => intro u hSu; have s0 := (Below.block hSu _ yr).trans RB2.out; have s1 := (Below.block hSu _ yb).trans XB.out; obtain ⟨x0, x1, x2, x3, x4, x5⟩ := six_cells s0; obtain ⟨z0, z1, z2, z3⟩ := four_cells9 s1; have n0 := lt_heap s0; have n1 := lt_heap s1; (try rw [HMA.out] at x4); have p0 := (Below.cell hSu (p := ⟨g, o + q * 4, none⟩) hgg).trans e0; clear s0 s1; go_simp; (try with_reducible rfl)
                (try simp only [Act.put, List.setIfInBounds_toArray, List.set_cons_zero, List.set_cons_succ])
                refine regN_takeC [14, 13, 12, 11, 10, 9, 8] (i := 7) (d := (some 87)) (v := ?v104x8) (l2 := tf8_21) rfl rfl rfl (by kernel_rfl) (by kernel_rfl) (by kernel_rfl) (by kernel_rfl) (fun _ _ _ h => h) (by rfl) ?hv104x8 hS0 ?h104x8
                case hv104x8 => intro u hSu; clear hSu; go_simp; (try with_reducible rfl)
                (try simp only [Act.put, List.setIfInBounds_toArray, List.set_cons_zero, List.set_cons_succ])
                refine regN_takeC [14, 13, 12, 11, 10, 9] (i := 8) (d := (some 88)) (v := ?v104x9) (l2 := tf9_21) rfl rfl rfl (by kernel_rfl) (by kernel_rfl) (by kernel_rfl) (by kernel_rfl) (fun _ _ _ h => h) (by rfl) ?hv104x9 hS0 ?h104x9
                case hv104x9 => intro u hSu; clear hSu; go_simp; (try with_reducible rfl)
                (try simp only [Act.put, List.setIfInBounds_toArray, List.set_cons_zero, List.set_cons_succ])
                refine regN_takeC [14, 13, 12, 11, 10] (i := 9) (d := (some 89)) (v := ?v104x10) (l2 := tf10_21) rfl rfl rfl (by kernel_rfl) (by kernel_rfl) (by kernel_rfl) (by kernel_rfl) (fun _ _ _ h => h) (by rfl) ?hv104x10 hS0 ?h104x10
                case hv104x10 => intro u hSu; clear hSu; go_simp; (try with_reducible rfl)
                (try simp only [Act.put, List.setIfInBounds_toArray, List.set_cons_zero, List.set_cons_succ])
                refine regN_takeC [14, 13, 12, 11] (i := 10) (d := (some 90)) (v := ?v104x11) (l2 := tf11_21) rfl rfl rfl (by kernel_rfl) (by kernel_rfl) (by kernel_rfl) (by kernel_rfl) (fun _ _ _ h => h) (by rfl) ?hv104x11 hS0 ?h104x11
                case hv104x11 => intro u hSu; clear hSu; go_simp; (try with_reducible rfl)
                (try simp only [Act.put, List.setIfInBounds_toArray, List.set_cons_zero, List.set_cons_succ])
                refine regN_takeC [14, 13, 12] (i := 11) (d := (some 91)) (v := ?v104x12) (l2 := tf12_21) rfl rfl rfl (by kernel_rfl) (by kernel_rfl) (by kernel_rfl) (by kernel_rfl) (fun _ _ _ h => h) (by rfl) ?hv104x12 hS0 ?h104x12
                case hv104x12 => intro u hSu; have s0 := (Below.block hSu _ yr).trans RB2.out; have s1 := (Below.block hSu _ yb).trans XB.out; obtain ⟨x0, x1, x2, x3, x4, x5⟩ := six_cells s0; obtain ⟨z0, z1, z2, z3⟩ := four_cells9 s1; have n0 := lt_heap s0; have n1 := lt_heap s1; (try rw [HMA.out] at x4); have p0 := (Below.cell hSu (p := ⟨g, o + q * 4, none⟩) hgg).trans e0; clear s0 s1; go_simp; (try with_reducible rfl)
                (try simp only [Act.put, List.setIfInBounds_toArray, List.set_cons_zero, List.set_cons_succ])
                refine regN_takeC [14, 13] (i := 12) (d := (some 92)) (v := ?v104x13) (l2 := tf13_21) rfl rfl rfl (by kernel_rfl) (by kernel_rfl) (by kernel_rfl) (by kernel_rfl) (fun _ _ _ h => h) (by rfl) ?hv104x13 hS0 ?h104x13
                case hv104x13 => intro u hSu; clear hSu; go_simp; (try with_reducible rfl)
                (try simp only [Act.put, List.setIfInBounds_toArray, List.set_cons_zero, List.set_cons_succ])
                refine regN_takeC [14] (i := 13) (d := (some 93)) (v := ?v104x14) (l2 := tf14_21) rfl rfl rfl (by kernel_rfl) (by kernel_rfl) (by kernel_rfl) (by kernel_rfl) (fun _ _ _ h => h) (by rfl) ?hv104x14 hS0 ?h104x14
                case hv104x14 => intro u hSu; clear hSu; go_simp; (try with_reducible rfl)
                (try simp only [Act.put, List.setIfInBounds_toArray, List.set_cons_zero, List.set_cons_succ])
                refine regN_take (i := 14) (d := (some 94)) (v := ?v104x15) (l2 := tf15_21) rfl rfl rfl (by kernel_rfl) (by kernel_rfl) (by kernel_rfl) (by kernel_rfl) (fun _ _ _ h => h) (by rfl) ?hv104x15 hS0 ?h104x15
                case hv104x15 => intro u hSu; clear hSu; go_simp; (try with_reducible rfl)
                (try simp only [Act.put, List.setIfInBounds_toArray, List.set_cons_zero, List.set_cons_succ])
                refine regN_takeC [19, 18] (i := 15) (d := (some 95)) (v := ?v104x16) (l2 := tf16_21) rfl rfl rfl (by kernel_rfl) (by kernel_rfl) (by kernel_rfl) (by kernel_rfl) (fun _ _ _ h => h) (by rfl) ?hv104x16 hS0 ?h104x16
                case hv104x16 => intro u hSu; clear hSu; go_simp; (try with_reducible rfl)
                (try simp only [Act.put, List.setIfInBounds_toArray, List.set_cons_zero, List.set_cons_succ])
                refine regN_takeC [19, 18] (i := 16) (d := (some 96)) (v := ?v104x17) (l2 := tf17_21) rfl rfl rfl (by kernel_rfl) (by kernel_rfl) (by kernel_rfl) (by kernel_rfl) (fun _ _ _ h => h) (by rfl) ?hv104x17 hS0 ?h104x17
                case hv104x17 => intro u hSu; have s0 := (Below.block hSu _ yr).trans RB2.out; have s1 := (Below.block hSu _ yb).trans XB.out; obtain ⟨x0, x1, x2, x3, x4, x5⟩ := six_cells s0; obtain ⟨z0, z1, z2, z3⟩ := four_cells9 s1; have n0 := lt_heap s0; have n1 := lt_heap s1; (try rw [HMA.out] at x4); have p0 := (Below.cell hSu (p := ⟨g, o + q * 4, none⟩) hgg).trans e0; clear s0 s1; go_simp; (try with_reducible rfl)
                (try simp only [Act.put, List.setIfInBounds_toArray, List.set_cons_zero, List.set_cons_succ])
                refine regN_takeC [19, 18] (i := 17) (d := (some 97)) (v := ?v104x18) (l2 := tf18_21) rfl rfl rfl (by kernel_rfl) (by kernel_rfl) (by kernel_rfl) (by kernel_rfl) (fun _ _ _ h => h) (by rfl) ?hv104x18 hS0 ?h104x18
                case hv104x18 => intro u hSu; have s0 := (Below.block hSu _ yr).trans RB2.out; have s1 := (Below.block hSu _ yb).trans XB.out; obtain ⟨x0, x1, x2, x3, x4, x5⟩ := six_cells s0; obtain ⟨z0, z1, z2, z3⟩ := four_cells9 s1; have n0 := lt_heap s0; have n1 := lt_heap s1; (try rw [HMA.out] at x4); have p0 := (Below.cell hSu (p := ⟨g, o + q * 4, none⟩) hgg).trans e0; clear s0 s1; go_simp; (try with_reducible rfl)
                (try simp only [Act.put, List.setIfInBounds_toArray, List.set_cons_zero, List.set_cons_succ])
                refine regN_ready (rs := [18]) (by kernel_rfl) (by simp) ?_
                refine (AllN.cons (i := 18) (l2 := tf19_21) rfl rfl (fun K hK => ?_) AllN.nil)
                go_simp
                go_at_call 27
                (with_reducible refine (KV.out _ (Below.refl _ _).drew).mono ?_)
                rintro e w10 ⟨rfl, hb10⟩
                have HBN := Lib.hid (below_on (show Below W2.heap.size W2 _ from (Below.refl _ _).drew) hb10)
                clear hb10
                go_simp
                have hS1 : ((fun W' : World => Below W2.heap.size W2 W') : World → Prop) _ := (show (fun W' : World => Below W2.heap.size W2 W') _ from HBN.out)
                refine hK _ _ (fun _ => hS1) ?_
                clear hK K
                (try simp only [Act.put, List.setIfInBounds_toArray, List.set_cons_zero, List.set_cons_succ])
                refine regN_take (i := 19) (d := (some 99)) (v := ?v104x19) (l2 := tf20_21) rfl rfl rfl (by kernel_rfl) (by kernel_rfl) (by kernel_rfl) (by kernel_rfl) (fun _ _ _ h => h) (by rfl) ?hv104x19 hS1 ?h104x19
                case hv104x19 => intro u hSu; clear hSu; go_simp; (try with_reducible rfl)
                (try simp only [Act.put, List.setIfInBounds_toArray, List.set_cons_zero, List.set_cons_succ])
                refine regN_ready (rs := [20]) (by kernel_rfl) (by simp) ?_
                refine (AllN.cons (i := 20) (l2 := tf21_21) rfl rfl (fun K hK => ?_) AllN.nil)
                go_simp
                refine hK _ _ (fun h => absurd rfl h) ?_
                clear hK K
                (try simp only [Act.put, List.setIfInBounds_toArray, List.set_cons_zero, List.set_cons_succ])
                refine regN_done (by kernel_rfl) ?_ _
                go_wp2
                exact ⟨⟨q + 1 + 1, hlt, by go_num, ra_succ HALL.out (by rw [HSM.out, decide_eq_false hle]; rfl), below_on HBR2.out HBN.out⟩, by simp [intOf]; omega⟩
               | false =>
                have H := Lib.hid (cc_6 (ls := ls) (k := q + 1) HE.out HAN.out HLS.out H32.out HAH.out HALL.out hlt (by rw [HSM.out]; simp))
                refine regN_start (N := 20) (S := (fun W' : World => Below W2.heap.size W2 W')) (by kernel_rfl) ?_
                change wpAnyN _ _ _ _ _ _ _ tf0_21 _ (World.drew _)
                have hS0 := (show (fun W' : World => Below W2.heap.size W2 W') W2.drew from (Below.refl _ _).drew)
                refine regN_takeC [14, 2, 1] (i := 0) (d := (some 80)) (v := ?v105x1) (l2 := tf1_21) rfl rfl rfl (by kernel_rfl) (by kernel_rfl) (by kernel_rfl) (by kernel_rfl) (fun _ _ _ h => h) (by rfl) ?hv105x1 hS0 ?h105x1
                case hv105x1 => intro u hSu; clear hSu; go_simp; (try with_reducible rfl)
                (try simp only [Act.put, List.setIfInBounds_toArray, List.set_cons_zero, List.set_cons_succ])
                refine regN_takeC [14, 2] (i := 1) (d := (some 81)) (v := ?v105x2) (l2 := tf2_21) rfl rfl rfl (by kernel_rfl) (by kernel_rfl) (by kernel_rfl) (by kernel_rfl) (fun _ _ _ h => h) (by rfl) ?hv105x2 hS0 ?h105x2
                case hv105x2 => intro u hSu; clear hSu; go_simp; (try with_reducible rfl)
                (try simp only [Act.put, List.setIfInBounds_toArray, List.set_cons_zero, List.set_cons_succ])
                refine regN_takeC [14] (i := 2) (d := (some 82)) (v := ?v105x3) (l2 := tf3_21) rfl rfl rfl (by kernel_rfl) (by kernel_rfl) (by kernel_rfl) (by kernel_rfl) (fun _ _ _ h => h) (by rfl) ?hv105x3 hS0 ?h105x3
                case hv105x3 => intro u hSu; clear hSu; go_simp; (try with_reducible rfl)
                (try simp only [Act.put, List.setIfInBounds_toArray, List.set_cons_zero, List.set_cons_succ])
                refine regN_takeC [14, 13, 12, 4] (i := 3) (d := (some 83)) (v := ?v105x4) (l2 := tf4_21) rfl rfl rfl (by kernel_rfl) (by kernel_rfl) (by kernel_rfl) (by kernel_rfl) (fun _ _ _ h => h) (by rfl) ?hv105x4 hS0 ?h105x4
                case hv105x4 => intro u hSu; clear hSu; go_simp; (try with_reducible rfl)
                (try simp only [Act.put, List.setIfInBounds_toArray, List.set_cons_zero, List.set_cons_succ])
                refine regN_takeC [14, 13, 12] (i := 4) (d := (some 84)) (v := ?v105x5) (l2 := tf5_21) rfl rfl rfl (by kernel_rfl) (by kernel_rfl) (by kernel_rfl) (by kernel_rfl) (fun _ _ _ h => h) (by rfl) ?hv105x5 hS0 ?h105x5
                case hv105x5 => intro u hSu; have s0 := (Below.block hSu _ yr).trans RB2.out; have s1 := (Below.block hSu _ yb).trans XB.out; obtain ⟨x0, x1, x2, x3, x4, x5⟩ := six_cells s0; obtain ⟨z0, z1, z2, z3⟩ := four_cells9 s1; have n0 := lt_heap s0; have n1 := lt_heap s1; (try rw [HMA.out] at x4); have p0 := (Below.cell hSu (p := ⟨g, o + q * 4, none⟩) hgg).trans e0; clear s0 s1; go_simp; (try with_reducible rfl)
                (try simp only [Act.put, List.setIfInBounds_toArray, List.set_cons_zero, List.set_cons_succ])
                refine regN_takeC [14, 13, 12, 11, 10, 9, 6] (i := 5) (d := (some 85)) (v := ?v105x6) (l2 := tf6_21) rfl rfl rfl (by kernel_rfl) (by kernel_rfl) (by kernel_rfl) (by kernel_rfl) (fun _ _ _ h => h) (by rfl) ?hv105x6 hS0 ?h105x6
                case hv105x6 => intro u hSu; clear hSu; go_simp; (try with_reducible rfl)
                (try simp only [Act.put, List.setIfInBounds_toArray, List.set_cons_zero, List.set_cons_succ])
                refine regN_takeC [14, 13, 12, 11, 10, 9] (i := 6) (d := (some 86)) (v := ?v105x7) (l2 := tf7_21) rfl rfl rfl (by kernel_rfl) (by kernel_rfl) (by kernel_rfl) (by kernel_rfl) (fun _ _ _ h => h) (by rfl) ?hv105x7 hS0 ?h105x7
                case hv105x7 => intro u hSu; have s0 := (Below.block hSu _ yr).trans RB2.out; have s1 := (Below.block hSu _ yb).trans XB.out; obtain ⟨x0, x1, x2, x3, x4, x5⟩ := six_cells s0; obtain ⟨z0, z1, z2, z3⟩ := four_cells9 s1; have n0 := lt_heap s0; have n1 := lt_heap s1; (try rw [HMA.out] at x4); have p0 := (Below.cell hSu (p := ⟨g, o + q * 4, none⟩) hgg).trans e0; clear s0 s1; go_simp; (try with_reducible rfl)
                (try simp only [Act.put, List.setIfInBounds_toArray, List.set_cons_zero, List.set_cons_succ])
                refine regN_takeC [14, 13, 12, 11, 10, 9, 8] (i := 7) (d := (some 87)) (v := ?v105x8) (l2 := tf8_21) rfl rfl rfl (by kernel_rfl) (by kernel_rfl) (by kernel_rfl) (by kernel_rfl) (fun _ _ _ h => h) (by rfl) ?hv105x8 hS0 ?h105x8
                case hv105x8 => intro u hSu; clear hSu; go_simp; (try with_reducible rfl)
                (try simp only [Act.put, List.setIfInBounds_toArray, List.set_cons_zero, List.set_cons_succ])
                refine regN_takeC [14, 13, 12, 11, 10, 9] (i := 8) (d := (some 88)) (v := ?v105x9) (l2 := tf9_21) rfl rfl rfl (by kernel_rfl) (by kernel_rfl) (by kernel_rfl) (by kernel_rfl) (fun _ _ _ h => h) (by rfl) ?hv105x9 hS0 ?h105x9
                case hv105x9 => intro u hSu; clear hSu; go_simp; (try with_reducible rfl)
                (try simp only [Act.put, List.setIfInBounds_toArray, List.set_cons_zero, List.set_cons_succ])
                refine regN_takeC [14, 13, 12, 11, 10] (i := 9) (d := (some 89)) (v := ?v105x10) (l2 := tf10_21) rfl rfl rfl (by kernel_rfl) (by kernel_rfl) (by kernel_rfl) (by kernel_rfl) (fun _ _ _ h => h) (by rfl) ?hv105x10 hS0 ?h105x10
                case hv105x10 => intro u hSu; clear hSu; go_simp; (try with_reducible rfl)
                (try simp only [Act.put, List.setIfInBounds_toArray, List.set_cons_zero, List.set_cons_succ])
                refine regN_takeC [14, 13, 12, 11] (i := 10) (d := (some 90)) (v := ?v105x11) (l2 := tf11_21) rfl rfl rfl (by kernel_rfl) (by kernel_rfl) (by kernel_rfl) (by kernel_rfl) (fun _ _ _ h => h) (by rfl) ?hv105x11 hS0 ?h105x11
                case hv105x11 => intro u hSu; clear hSu; go_simp; (try with_reducible rfl)
                (try simp only [Act.put, List.setIfInBounds_toArray, List.set_cons_zero, List.set_cons_succ])
                refine regN_takeC [14, 13, 12] (i := 11) (d := (some 91)) (v := ?v105x12) (l2 := tf12_21) rfl rfl rfl (by kernel_rfl) (by kernel_rfl) (by kernel_rfl) (by kernel_rfl) (fun _ _ _ h => h) (by rfl) ?hv105x12 hS0 ?h105x12
                case hv105x12 => intro u hSu; have s0 := (Below.block hSu _ yr).trans RB2.out; have s1 := (Below.block hSu _ yb).trans XB.out; obtain ⟨x0, x1, x2, x3, x4, x5⟩ := six_cells s0; obtain ⟨z0, z1, z2, z3⟩ := four_cells9 s1; have n0 := lt_heap s0; have n1 := lt_heap s1; (try rw [HMA.out] at x4); have p0 := (Below.cell hSu (p := ⟨g, o + q * 4, none⟩) hgg).trans e0; clear s0 s1; go_simp; (try with_reducible rfl)
                (try simp only [Act.put, List.setIfInBounds_toArray, List.set_cons_zero, List.set_cons_succ])
                refine regN_takeC [14, 13] (i := 12) (d := (some 92)) (v := ?v105x13) (l2 := tf13_21) rfl rfl rfl (by kernel_rfl) (by kernel_rfl) (by kernel_rfl) (by kernel_rfl) (fun _ _ _ h => h) (by rfl) ?hv105x13 hS0 ?h105x13
                case hv105x13 => intro u hSu; clear hSu; go_simp; (try with_reducible rfl)
                (try simp only [Act.put, List.setIfInBounds_toArray, List.set_cons_zero, List.set_cons_succ])
                refine regN_takeC [14] (i := 13) (d := (some 93)) (v := ?v105x14) (l2 := tf14_21) rfl rfl rfl (by kernel_rfl) (by kernel_rfl) (by kernel_rfl) (by kernel_rfl) (fun _ _ _ h => h) (by rfl) ?hv105x14 hS0 ?h105x14
                case hv105x14 => intro u hSu; clear hSu; go_simp; (try with_reducible rfl)
                (try simp only [Act.put, List.setIfInBounds_toArray, List.set_cons_zero, List.set_cons_succ])
                refine regN_take (i := 14) (d := (some 94)) (v := ?v105x15) (l2 := tf15_21) rfl rfl rfl (by kernel_rfl) (by kernel_rfl) (by kernel_rfl) (by kernel_rfl) (fun _ _ _ h => h) (by rfl) ?hv105x15 hS0 ?h105x15
                case hv105x15 => intro u hSu; clear hSu; go_simp; (try with_reducible rfl)
                (try simp only [Act.put, List.setIfInBounds_toArray, List.set_cons_zero, List.set_cons_succ])
                refine regN_takeC [19, 18] (i := 15) (d := (some 95)) (v := ?v105x16) (l2 := tf16_21) rfl rfl rfl (by kernel_rfl) (by kernel_rfl) (by kernel_rfl) (by kernel_rfl) (fun _ _ _ h => h) (by rfl) ?hv105x16 hS0 ?h105x16
                case hv105x16 => intro u hSu; clear hSu; go_simp; (try with_reducible rfl)
                (try simp only [Act.put, List.setIfInBounds_toArray, List.set_cons_zero, List.set_cons_succ])
                refine regN_takeC [19, 18] (i := 16) (d := (some 96)) (v := ?v105x17) (l2 := tf17_21) rfl rfl rfl (by kernel_rfl) (by kernel_rfl) (by kernel_rfl) (by kernel_rfl) (fun _ _ _ h => h) (by rfl) ?hv105x17 hS0 ?h105x17
                case hv105x17 => intro u hSu; have s0 := (Below.block hSu _ yr).trans RB2.out; have s1 := (Below.block hSu _ yb).trans XB.out; obtain ⟨x0, x1, x2, x3, x4, x5⟩ := six_cells s0; obtain ⟨z0, z1, z2, z3⟩ := four_cells9 s1; have n0 := lt_heap s0; have n1 := lt_heap s1; (try rw [HMA.out] at x4); have p0 := (Below.cell hSu (p := ⟨g, o + q * 4, none⟩) hgg).trans e0; clear s0 s1; go_simp; (try with_reducible rfl)
                (try simp only [Act.put, List.setIfInBounds_toArray, List.set_cons_zero, List.set_cons_succ])
                refine regN_takeC [19, 18] (i := 17) (d := (some 97)) (v := ?v105x18) (l2 := tf18_21) rfl rfl rfl (by kernel_rfl) (by kernel_rfl) (by kernel_rfl) (by kernel_rfl) (fun _ _ _ h => h) (by rfl) ?hv105x18 hS0 ?h105x18
                case hv105x18 => intro u hSu; have s0 := (Below.block hSu _ yr).trans RB2.out; have s1 := (Below.block hSu _ yb).trans XB.out; obtain ⟨x0, x1, x2, x3, x4, x5⟩ := six_cells s0; obtain ⟨z0, z1, z2, z3⟩ := four_cells9 s1; have n0 := lt_heap s0; have n1 := lt_heap s1; (try rw [HMA.out] at x4); have p0 := (Below.cell hSu (p := ⟨g, o + q * 4, none⟩) hgg).trans e0; clear s0 s1; go_simp; (try with_reducible rfl)
                (try simp only [Act.put, List.setIfInBounds_toArray, List.set_cons_zero, List.set_cons_succ])
                refine regN_ready (rs := [18]) (by kernel_rfl) (by simp) ?_
                refine (AllN.cons (i := 18) (l2 := tf19_21) rfl rfl (fun K hK => ?_) AllN.nil)
                go_simp
                go_at_call 27
                (with_reducible refine (KV.out _ (Below.refl _ _).drew).mono ?_)
                rintro e w10 ⟨rfl, hb10⟩
                have HBN := Lib.hid (below_on (show Below W2.heap.size W2 _ from (Below.refl _ _).drew) hb10)
                clear hb10
                go_simp
                have hS1 : ((fun W' : World => Below W2.heap.size W2 W') : World → Prop) _ := (show (fun W' : World => Below W2.heap.size W2 W') _ from HBN.out)
                refine hK _ _ (fun _ => hS1) ?_
                clear hK K
                (try simp only [Act.put, List.setIfInBounds_toArray, List.set_cons_zero, List.set_cons_succ])
                refine regN_take (i := 19) (d := (some 99)) (v := ?v105x19) (l2 := tf20_21) rfl rfl rfl (by kernel_rfl) (by kernel_rfl) (by kernel_rfl) (by kernel_rfl) (fun _ _ _ h => h) (by rfl) ?hv105x19 hS1 ?h105x19
                case hv105x19 => intro u hSu; clear hSu; go_simp; (try with_reducible rfl)
                (try simp only [Act.put, List.setIfInBounds_toArray, List.set_cons_zero, List.set_cons_succ])
                refine regN_ready (rs := [20]) (by kernel_rfl) (by simp) ?_
                refine (AllN.cons (i := 20) (l2 := tf21_21) rfl rfl (fun K hK => ?_) AllN.nil)
                go_simp
                refine hK _ _ (fun h => absurd rfl h) ?_
                clear hK K
                (try simp only [Act.put, List.setIfInBounds_toArray, List.set_cons_zero, List.set_cons_succ])
                refine regN_done (by kernel_rfl) ?_ _
                go_wp2
                go_ret2
                obtain ⟨q1, q2⟩ := pq9 HR.out H.out
                exact ⟨by rw [q1, q2]; rfl, below_on HB4.out (below_on HBR2.out HBN.out)⟩
           ·
            obtain ⟨hnj⟩ : c.mn = j := by omega
            have HSMS := Lib.hid (show (List.range c.mn).any (smP L c ms) = false from HALL.out)
            clear hmw
            rw [HLA.out] at r5
            go_upto_region 29 with fail
            have HB5 := Lib.hid (below_on HB4.out HBR.out)
            have OK5 := Lib.hid OKr.out
            have RB5 := Lib.hid RBr.out
            clear r0 r1 r2 r3 r4 r5 yr HBR OKr HPr RBr OK4 HP4 RB4 HALL HB4
            obtain ⟨w4, hw4⟩ : ∃ w4, w4 = wr := ⟨_, rfl⟩
            subst hw4
            go_loopw [106] (fun z wr => ∃ j : Nat, j ≤ c.ln ∧ z = .int .i64 j ∧ (List.range j).any (lnP c ls) = false ∧ Below w4.heap.size w4 wr) (fun z _ => c.ln - (intOf z).toNat)
            case atStart => exact ⟨0, Nat.zero_le _, rfl, rfl, Below.refl _ _⟩
            case round =>
             obtain ⟨j, hj, rfl, hall, hbr⟩ := hrel
             have HALL := Lib.hid hall
             have HBR := Lib.hid hbr
             have RBr := Lib.hid ((hbr.block _ (lt_heap RB5.out)).trans RB5.out)
             have OKr := Lib.hid (OK5.out.up hbr)
             have hmw := OKr.out.lw
             rw [HLA.out] at hmw
             clear hall hbr
             obtain ⟨r0, r1, r2, r3, r4, r5⟩ := six_cells RBr.out
             have yr := lt_heap RBr.out
             by_cases hlt : j < c.ln
             ·
              obtain ⟨m, hm⟩ := get_someF (l := ls) (k := j) (by rw [OKr.out.ll]; exact hlt)
              rcases hmw with h0 | ⟨g, o, rfl, hg, hcell⟩
              ·
               rw [h0] at hm; simp at hm
              ·
               obtain ⟨a0, a1⟩ := hcell j m hm
               have hj0 : (0 : Int) ≤ (j : Int) := by omega
               have hj1 : (j : Int) < (c.ln : Int) := by omega
               have HCELL := Lib.hid hcell
               clear hcell
               go_upto_region 31 with fail
               have hX2 := World.alloc_heap_new wr (.cells #[.int .i64 m.1, .int .i64 m.2] 67)
               have hbl := below_al (Below.refl _ wr) (.cells #[.int .i64 m.1, .int .i64 m.2] 67)
               generalize hbb : wr.heap.size = b at hX2 ⊢
               generalize wr.alloc (.cells #[.int .i64 m.1, .int .i64 m.2] 67) = W2 at hX2 hbl ⊢
               have XB := Lib.hid hX2
               have RB2 := Lib.hid ((hbl.block _ yr).trans RBr.out)
               have HBR2 := Lib.hid (below_on HBR.out hbl)
               have HCW := Lib.hid (fun (a : Addr) (ha : a.block < wr.heap.size) => hbl.cell (p := a) ha)
               have hgg : g < W2.heap.size := Nat.lt_of_lt_of_le hg hbl.size
               clear hX2 hbb a0 a1 r0 r1 r2 r3 r4 r5 yr hbl
               have yb := lt_heap XB.out
               have yr := lt_heap RB2.out
               cases j with
               | zero =>
                have HSM := Lib.hid (lnP_0 (c := c) hm)
                clear hm
                cases hex : exB c.n m.1 with
                | false =>
                 have HEX := Lib.hid hex
                 have H := Lib.hid (cc_7 (k := 0) HE.out HAN.out HLS.out H32.out HAH.out HSMS.out HALL.out hlt (by rw [HSM.out]; rw [hex]; rfl))
                 clear hex
                 refine regN_start (N := 30) (S := (fun W' : World => Below W2.heap.size W2 W')) (by kernel_rfl) ?_
                 change wpAnyN _ _ _ _ _ _ _ tf0_31 _ (World.drew _)
                 have hS0 := (show (fun W' : World => Below W2.heap.size W2 W') W2.drew from (Below.refl _ _).drew)
                 refine regN_takeC [26, 21, 20, 14, 2, 1] (i := 0) (d := (some 111)) (v := ?v201x1) (l2 := tf1_31) rfl rfl rfl (by kernel_rfl) (by kernel_rfl) (by kernel_rfl) (by kernel_rfl) (fun _ _ _ h => h) (by rfl) ?hv201x1 hS0 ?h201x1
                 case hv201x1 => intro u hSu; clear hSu; go_simp; (try with_reducible rfl)
                 (try simp only [Act.put, List.setIfInBounds_toArray, List.set_cons_zero, List.set_cons_succ])
                 refine regN_takeC [26, 21, 20, 14, 2] (i := 1) (d := (some 112)) (v := ?v201x2) (l2 := tf2_31) rfl rfl rfl (by kernel_rfl) (by kernel_rfl) (by kernel_rfl) (by kernel_rfl) (fun _ _ _ h => h) (by rfl) ?hv201x2 hS0 ?h201x2
                 case hv201x2 => intro u hSu; clear hSu; go_simp; (try with_reducible rfl)
                 (try simp only [Act.put, List.setIfInBounds_toArray, List.set_cons_zero, List.set_cons_succ])
                 refine regN_takeC [26, 21, 20, 14] (i := 2) (d := (some 113)) (v := ?v201x3) (l2 := tf3_31) rfl rfl rfl (by kernel_rfl) (by kernel_rfl) (by kernel_rfl) (by kernel_rfl) (fun _ _ _ h => h) (by rfl) ?hv201x3 hS0 ?h201x3
                 case hv201x3 => intro u hSu; clear hSu; go_simp; (try with_reducible rfl)
                 (try simp only [Act.put, List.setIfInBounds_toArray, List.set_cons_zero, List.set_cons_succ])
                 refine regN_skipC [26, 21, 20, 14, 13, 12, 4] (i := 3) (d := (some 114)) (l2 := tf4_31) rfl rfl rfl (by kernel_rfl) (by kernel_rfl) (by kernel_rfl) (by kernel_rfl) (fun _ _ _ h => h) (by rfl) hS0 ?_
                 (try simp only [Act.put, List.setIfInBounds_toArray, List.set_cons_zero, List.set_cons_succ])
                 refine regN_skipC [26, 21, 20, 14, 13, 12] (i := 4) (d := (some 115)) (l2 := tf5_31) rfl rfl rfl (by kernel_rfl) (by kernel_rfl) (by kernel_rfl) (by kernel_rfl) (fun _ _ _ h => h) (by rfl) hS0 ?_
                 (try simp only [Act.put, List.setIfInBounds_toArray, List.set_cons_zero, List.set_cons_succ])
                 refine regN_skipC [26, 21, 20, 14, 13, 12, 11, 10, 9, 6] (i := 5) (d := (some 116)) (l2 := tf6_31) rfl rfl rfl (by kernel_rfl) (by kernel_rfl) (by kernel_rfl) (by kernel_rfl) (fun _ _ _ h => h) (by rfl) hS0 ?_
                 (try simp only [Act.put, List.setIfInBounds_toArray, List.set_cons_zero, List.set_cons_succ])
                 refine regN_skipC [26, 21, 20, 14, 13, 12, 11, 10, 9] (i := 6) (d := (some 117)) (l2 := tf7_31) rfl rfl rfl (by kernel_rfl) (by kernel_rfl) (by kernel_rfl) (by kernel_rfl) (fun _ _ _ h => h) (by rfl) hS0 ?_
                 (try simp only [Act.put, List.setIfInBounds_toArray, List.set_cons_zero, List.set_cons_succ])
                 refine regN_skipC [26, 21, 20, 14, 13, 12, 11, 10, 9, 8] (i := 7) (d := (some 118)) (l2 := tf8_31) rfl rfl rfl (by kernel_rfl) (by kernel_rfl) (by kernel_rfl) (by kernel_rfl) (fun _ _ _ h => h) (by rfl) hS0 ?_
                 (try simp only [Act.put, List.setIfInBounds_toArray, List.set_cons_zero, List.set_cons_succ])
                 refine regN_skipC [26, 21, 20, 14, 13, 12, 11, 10, 9] (i := 8) (d := (some 119)) (l2 := tf9_31) rfl rfl rfl (by kernel_rfl) (by kernel_rfl) (by kernel_rfl) (by kernel_rfl) (fun _ _ _ h => h) (by rfl) hS0 ?_
                 (try simp only [Act.put, List.setIfInBounds_toArray, List.set_cons_zero, List.set_cons_succ])
                 refine regN_skipC [26, 21, 20, 14, 13, 12, 11, 10] (i := 9) (d := (some 120)) (l2 := tf10_31) rfl rfl rfl (by kernel_rfl) (by kernel_rfl) (by kernel_rfl) (by kernel_rfl) (fun _ _ _ h => h) (by rfl) hS0 ?_
                 (try simp only [Act.put, List.setIfInBounds_toArray, List.set_cons_zero, List.set_cons_succ])
                 refine regN_skipC [26, 21, 20, 14, 13, 12, 11] (i := 10) (d := (some 121)) (l2 := tf11_31) rfl rfl rfl (by kernel_rfl) (by kernel_rfl) (by kernel_rfl) (by kernel_rfl) (fun _ _ _ h => h) (by rfl) hS0 ?_
                 (try simp only [Act.put, List.setIfInBounds_toArray, List.set_cons_zero, List.set_cons_succ])
                 refine regN_skipC [26, 21, 20, 14, 13, 12] (i := 11) (d := (some 122)) (l2 := tf12_31) rfl rfl rfl (by kernel_rfl) (by kernel_rfl) (by kernel_rfl) (by kernel_rfl) (fun _ _ _ h => h) (by rfl) hS0 ?_
                 (try simp only [Act.put, List.setIfInBounds_toArray, List.set_cons_zero, List.set_cons_succ])
                 refine regN_skipC [26, 21, 20, 14, 13] (i := 12) (d := (some 123)) (l2 := tf13_31) rfl rfl rfl (by kernel_rfl) (by kernel_rfl) (by kernel_rfl) (by kernel_rfl) (fun _ _ _ h => h) (by rfl) hS0 ?_
                 (try simp only [Act.put, List.setIfInBounds_toArray, List.set_cons_zero, List.set_cons_succ])
                 refine regN_takeC [26, 21, 20, 14] (i := 13) (d := (some 124)) (v := ?v201x4) (l2 := tf14_31) rfl rfl rfl (by kernel_rfl) (by kernel_rfl) (by kernel_rfl) (by kernel_rfl) (fun _ _ _ h => h) (by rfl) ?hv201x4 hS0 ?h201x4
                 case hv201x4 => intro u hSu; clear hSu; go_simp; (try with_reducible rfl)
                 (try simp only [Act.put, List.setIfInBounds_toArray, List.set_cons_zero, List.set_cons_succ])
                 refine regN_takeC [26, 21, 20] (i := 14) (d := (some 125)) (v := ?v201x5) (l2 := tf15_31) rfl rfl rfl (by kernel_rfl) (by kernel_rfl) (by kernel_rfl) (by kernel_rfl) (fun _ _ _ h => h) (by rfl) ?hv201x5 hS0 ?h201x5
                 case hv201x5 => intro u hSu; clear hSu; go_simp; (try with_reducible rfl)
                 (try simp only [Act.put, List.setIfInBounds_toArray, List.set_cons_zero, List.set_cons_succ])
                 refine regN_takeC [26, 21, 18] (i := 15) (d := (some 126)) (v := ?v201x6) (l2 := tf16_31) rfl rfl rfl (by kernel_rfl) (by kernel_rfl) (by kernel_rfl) (by kernel_rfl) (fun _ _ _ h => h) (by rfl) ?hv201x6 hS0 ?h201x6
                 case hv201x6 => intro u hSu; have s0 := (Below.block hSu _ yr).trans RB2.out; have s1 := (Below.block hSu _ yb).trans XB.out; obtain ⟨x0, x1, x2, x3, x4, x5⟩ := six_cells s0; obtain ⟨z0, z1⟩ := two_cells9 s1; have n0 := lt_heap s0; have n1 := lt_heap s1; (try rw [HLA.out] at x5); clear s0 s1; go_simp; (try with_reducible rfl)
                 (try simp only [Act.put, List.setIfInBounds_toArray, List.set_cons_zero, List.set_cons_succ])
                 refine regN_takeC [26, 21, 18, 17] (i := 16) (d := (some 127)) (v := ?v201x7) (l2 := tf17_31) rfl rfl rfl (by kernel_rfl) (by kernel_rfl) (by kernel_rfl) (by kernel_rfl) (fun _ _ _ h => h) (by rfl) ?hv201x7 hS0 ?h201x7
                 case hv201x7 => intro u hSu; clear hSu; go_simp; (try with_reducible rfl)
                 (try simp only [Act.put, List.setIfInBounds_toArray, List.set_cons_zero, List.set_cons_succ])
                 refine regN_takeC [26, 21, 18] (i := 17) (d := (some 128)) (v := ?v201x8) (l2 := tf18_31) rfl rfl rfl (by kernel_rfl) (by kernel_rfl) (by kernel_rfl) (by kernel_rfl) (fun _ _ _ h => h) (by rfl) ?hv201x8 hS0 ?h201x8
                 case hv201x8 => intro u hSu; have s0 := (Below.block hSu _ yr).trans RB2.out; have s1 := (Below.block hSu _ yb).trans XB.out; obtain ⟨x0, x1, x2, x3, x4, x5⟩ := six_cells s0; obtain ⟨z0, z1⟩ := two_cells9 s1; have n0 := lt_heap s0; have n1 := lt_heap s1; (try rw [HLA.out] at x5); clear s0 s1; go_simp; (try with_reducible rfl)
                 (try simp only [Act.put, List.setIfInBounds_toArray, List.set_cons_zero, List.set_cons_succ])
                 refine regN_ready (rs := [18]) (by kernel_rfl) (by simp) ?_
                 refine (AllN.cons (i := 18) (l2 := tf19_31) rfl rfl (fun K hK => ?_) AllN.nil)
                 go_simp
                 go_at_call 28
                 (with_reducible refine (cex_gen _ _).mono ?_)
                 rintro e w10 ⟨rfl, hb10⟩
                 rw [HEX.out]
                 have HBN := Lib.hid (below_on (show Below W2.heap.size W2 _ from (Below.refl _ _).drew) hb10)
                 clear hb10
                 go_simp
                 have hS1 : ((fun W' : World => Below W2.heap.size W2 W') : World → Prop) _ := (show (fun W' : World => Below W2.heap.size W2 W') _ from HBN.out)
                 refine hK _ _ (fun _ => hS1) ?_
                 clear hK K
                 (try simp only [Act.put, List.setIfInBounds_toArray, List.set_cons_zero, List.set_cons_succ])
                 refine regN_takeC [26, 21, 20] (i := 19) (d := (some 130)) (v := ?v201x9) (l2 := tf20_31) rfl rfl rfl (by kernel_rfl) (by kernel_rfl) (by kernel_rfl) (by kernel_rfl) (fun _ _ _ h => h) (by rfl) ?hv201x9 hS1 ?h201x9
                 case hv201x9 => intro u hSu; clear hSu; go_simp; (try with_reducible rfl)
                 (try simp only [Act.put, List.setIfInBounds_toArray, List.set_cons_zero, List.set_cons_succ])
                 refine regN_takeC [26, 21] (i := 20) (d := (some 131)) (v := ?v201x10) (l2 := tf21_31) rfl rfl rfl (by kernel_rfl) (by kernel_rfl) (by kernel_rfl) (by kernel_rfl) (fun _ _ _ h => h) (by rfl) ?hv201x10 hS1 ?h201x10
                 case hv201x10 => intro u hSu; clear hSu; go_simp; (try with_reducible rfl)
                 (try simp only [Act.put, List.setIfInBounds_toArray, List.set_cons_zero, List.set_cons_succ])
                 refine regN_takeC [26] (i := 21) (d := (some 132)) (v := ?v201x11) (l2 := tf22_31) rfl rfl rfl (by kernel_rfl) (by kernel_rfl) (by kernel_rfl) (by kernel_rfl) (fun _ _ _ h => h) (by rfl) ?hv201x11 hS1 ?h201x11
                 case hv201x11 => intro u hSu; clear hSu; go_simp; (try with_reducible rfl)
                 (try simp only [Act.put, List.setIfInBounds_toArray, List.set_cons_zero, List.set_cons_succ])
                 refine regN_skipC [26, 25, 24, 23] (i := 22) (d := (some 133)) (l2 := tf23_31) rfl rfl rfl (by kernel_rfl) (by kernel_rfl) (by kernel_rfl) (by kernel_rfl) (fun _ _ _ h => h) (by rfl) hS1 ?_
                 (try simp only [Act.put, List.setIfInBounds_toArray, List.set_cons_zero, List.set_cons_succ])
                 refine regN_skipC [26, 25, 24] (i := 23) (d := (some 134)) (l2 := tf24_31) rfl rfl rfl (by kernel_rfl) (by kernel_rfl) (by kernel_rfl) (by kernel_rfl) (fun _ _ _ h => h) (by rfl) hS1 ?_
                 (try simp only [Act.put, List.setIfInBounds_toArray, List.set_cons_zero, List.set_cons_succ])
                 refine regN_skipC [26, 25] (i := 24) (d := (some 135)) (l2 := tf25_31) rfl rfl rfl (by kernel_rfl) (by kernel_rfl) (by kernel_rfl) (by kernel_rfl) (fun _ _ _ h => h) (by rfl) hS1 ?_
                 (try simp only [Act.put, List.setIfInBounds_toArray, List.set_cons_zero, List.set_cons_succ])
                 refine regN_takeC [26] (i := 25) (d := (some 136)) (v := ?v201x12) (l2 := tf26_31) rfl rfl rfl (by kernel_rfl) (by kernel_rfl) (by kernel_rfl) (by kernel_rfl) (fun _ _ _ h => h) (by rfl) ?hv201x12 hS1 ?h201x12
                 case hv201x12 => intro u hSu; clear hSu; go_simp; (try with_reducible rfl)
                 (try simp only [Act.put, List.setIfInBounds_toArray, List.set_cons_zero, List.set_cons_succ])
                 refine regN_take (i := 26) (d := (some 137)) (v := ?v201x13) (l2 := tf27_31) rfl rfl rfl (by kernel_rfl) (by kernel_rfl) (by kernel_rfl) (by kernel_rfl) (fun _ _ _ h => h) (by rfl) ?hv201x13 hS1 ?h201x13
                 case hv201x13 => intro u hSu; clear hSu; go_simp; (try with_reducible rfl)
                 (try simp only [Act.put, List.setIfInBounds_toArray, List.set_cons_zero, List.set_cons_succ])
                 refine regN_skipC [29, 28] (i := 27) (d := (some 138)) (l2 := tf28_31) rfl rfl rfl (by kernel_rfl) (by kernel_rfl) (by kernel_rfl) (by kernel_rfl) (fun _ _ _ h => h) (by rfl) hS1 ?_
                 (try simp only [Act.put, List.setIfInBounds_toArray, List.set_cons_zero, List.set_cons_succ])
                 refine regN_skipC [29] (i := 28) (d := (some 139)) (l2 := tf29_31) rfl rfl rfl (by kernel_rfl) (by kernel_rfl) (by kernel_rfl) (by kernel_rfl) (fun _ _ _ h => h) (by rfl) hS1 ?_
                 (try simp only [Act.put, List.setIfInBounds_toArray, List.set_cons_zero, List.set_cons_succ])
                 refine regN_skip (i := 29) (d := (some 140)) (l2 := tf30_31) rfl rfl rfl (by kernel_rfl) (by kernel_rfl) (by kernel_rfl) (by kernel_rfl) (fun _ _ _ h => h) (by rfl) hS1 ?_
                 (try simp only [Act.put, List.setIfInBounds_toArray, List.set_cons_zero, List.set_cons_succ])
                 refine regN_ready (rs := [30]) (by kernel_rfl) (by simp) ?_
                 refine (AllN.cons (i := 30) (l2 := tf31_31) rfl rfl (fun K hK => ?_) AllN.nil)
                 go_simp
                 refine hK _ _ (fun h => absurd rfl h) ?_
                 clear hK K
                 (try simp only [Act.put, List.setIfInBounds_toArray, List.set_cons_zero, List.set_cons_succ])
                 refine regN_done (by kernel_rfl) ?_ _
                 go_wp2
                 go_ret2
                 obtain ⟨q1, q2⟩ := pq9 HR.out H.out
                 exact ⟨by rw [q1, q2]; rfl, below_on HB5.out (below_on HBR2.out HBN.out)⟩
                | true =>
                 have HEX := Lib.hid hex
                 by_cases hl0 : m.2 < 0
                 ·
                  have H := Lib.hid (cc_7 (k := 0) HE.out HAN.out HLS.out H32.out HAH.out HSMS.out HALL.out hlt (by rw [HSM.out]; rw [hex, decide_eq_true hl0]; rfl))
                  clear hex
                  refine regN_start (N := 30) (S := (fun W' : World => Below W2.heap.size W2 W')) (by kernel_rfl) ?_
                  change wpAnyN _ _ _ _ _ _ _ tf0_31 _ (World.drew _)
                  have hS0 := (show (fun W' : World => Below W2.heap.size W2 W') W2.drew from (Below.refl _ _).drew)
                  refine regN_takeC [26, 21, 20, 14, 2, 1] (i := 0) (d := (some 111)) (v := ?v202x1) (l2 := tf1_31) rfl rfl rfl (by kernel_rfl) (by kernel_rfl) (by kernel_rfl) (by kernel_rfl) (fun _ _ _ h => h) (by rfl) ?hv202x1 hS0 ?h202x1
                  case hv202x1 => intro u hSu; clear hSu; go_simp; (try with_reducible rfl)
                  (try simp only [Act.put, List.setIfInBounds_toArray, List.set_cons_zero, List.set_cons_succ])
                  refine regN_takeC [26, 21, 20, 14, 2] (i := 1) (d := (some 112)) (v := ?v202x2) (l2 := tf2_31) rfl rfl rfl (by kernel_rfl) (by kernel_rfl) (by kernel_rfl) (by kernel_rfl) (fun _ _ _ h => h) (by rfl) ?hv202x2 hS0 ?h202x2
                  case hv202x2 => intro u hSu; clear hSu; go_simp; (try with_reducible rfl)
                  (try simp only [Act.put, List.setIfInBounds_toArray, List.set_cons_zero, List.set_cons_succ])
                  refine regN_takeC [26, 21, 20, 14] (i := 2) (d := (some 113)) (v := ?v202x3) (l2 := tf3_31) rfl rfl rfl (by kernel_rfl) (by kernel_rfl) (by kernel_rfl) (by kernel_rfl) (fun _ _ _ h => h) (by rfl) ?hv202x3 hS0 ?h202x3
                  case hv202x3 => intro u hSu; clear hSu; go_simp; (try with_reducible rfl)
                  (try simp only [Act.put, List.setIfInBounds_toArray, List.set_cons_zero, List.set_cons_succ])
                  refine regN_skipC [26, 21, 20, 14, 13, 12, 4] (i := 3) (d := (some 114)) (l2 := tf4_31) rfl rfl rfl (by kernel_rfl) (by kernel_rfl) (by kernel_rfl) (by kernel_rfl) (fun _ _ _ h => h) (by rfl) hS0 ?_
                  (try simp only [Act.put, List.setIfInBounds_toArray, List.set_cons_zero, List.set_cons_succ])
                  refine regN_skipC [26, 21, 20, 14, 13, 12] (i := 4) (d := (some 115)) (l2 := tf5_31) rfl rfl rfl (by kernel_rfl) (by kernel_rfl) (by kernel_rfl) (by kernel_rfl) (fun _ _ _ h => h) (by rfl) hS0 ?_
                  (try simp only [Act.put, List.setIfInBounds_toArray, List.set_cons_zero, List.set_cons_succ])
                  refine regN_skipC [26, 21, 20, 14, 13, 12, 11, 10, 9, 6] (i := 5) (d := (some 116)) (l2 := tf6_31) rfl rfl rfl (by kernel_rfl) (by kernel_rfl) (by kernel_rfl) (by kernel_rfl) (fun _ _ _ h => h) (by rfl) hS0 ?_
                  (try simp only [Act.put, List.setIfInBounds_toArray, List.set_cons_zero, List.set_cons_succ])
                  refine regN_skipC [26, 21, 20, 14, 13, 12, 11, 10, 9] (i := 6) (d := (some 117)) (l2 := tf7_31) rfl rfl rfl (by kernel_rfl) (by kernel_rfl) (by kernel_rfl) (by kernel_rfl) (fun _ _ _ h => h) (by rfl) hS0 ?_
                  (try simp only [Act.put, List.setIfInBounds_toArray, List.set_cons_zero, List.set_cons_succ])
                  refine regN_skipC [26, 21, 20, 14, 13, 12, 11, 10, 9, 8] (i := 7) (d := (some 118)) (l2 := tf8_31) rfl rfl rfl (by kernel_rfl) (by kernel_rfl) (by kernel_rfl) (by kernel_rfl) (fun _ _ _ h => h) (by rfl) hS0 ?_
                  (try simp only [Act.put, List.setIfInBounds_toArray, List.set_cons_zero, List.set_cons_succ])
                  refine regN_skipC [26, 21, 20, 14, 13, 12, 11, 10, 9] (i := 8) (d := (some 119)) (l2 := tf9_31) rfl rfl rfl (by kernel_rfl) (by kernel_rfl) (by kernel_rfl) (by kernel_rfl) (fun _ _ _ h => h) (by rfl) hS0 ?_
                  (try simp only [Act.put, List.setIfInBounds_toArray, List.set_cons_zero, List.set_cons_succ])
                  refine regN_skipC [26, 21, 20, 14, 13, 12, 11, 10] (i := 9) (d := (some 120)) (l2 := tf10_31) rfl rfl rfl (by kernel_rfl) (by kernel_rfl) (by kernel_rfl) (by kernel_rfl) (fun _ _ _ h => h) (by rfl) hS0 ?_
                  (try simp only [Act.put, List.setIfInBounds_toArray, List.set_cons_zero, List.set_cons_succ])
                  refine regN_skipC [26, 21, 20, 14, 13, 12, 11] (i := 10) (d := (some 121)) (l2 := tf11_31) rfl rfl rfl (by kernel_rfl) (by kernel_rfl) (by kernel_rfl) (by kernel_rfl) (fun _ _ _ h => h) (by rfl) hS0 ?_
                  (try simp only [Act.put, List.setIfInBounds_toArray, List.set_cons_zero, List.set_cons_succ])
                  refine regN_skipC [26, 21, 20, 14, 13, 12] (i := 11) (d := (some 122)) (l2 := tf12_31) rfl rfl rfl (by kernel_rfl) (by kernel_rfl) (by kernel_rfl) (by kernel_rfl) (fun _ _ _ h => h) (by rfl) hS0 ?_
                  (try simp only [Act.put, List.setIfInBounds_toArray, List.set_cons_zero, List.set_cons_succ])
                  refine regN_skipC [26, 21, 20, 14, 13] (i := 12) (d := (some 123)) (l2 := tf13_31) rfl rfl rfl (by kernel_rfl) (by kernel_rfl) (by kernel_rfl) (by kernel_rfl) (fun _ _ _ h => h) (by rfl) hS0 ?_
                  (try simp only [Act.put, List.setIfInBounds_toArray, List.set_cons_zero, List.set_cons_succ])
                  refine regN_takeC [26, 21, 20, 14] (i := 13) (d := (some 124)) (v := ?v202x4) (l2 := tf14_31) rfl rfl rfl (by kernel_rfl) (by kernel_rfl) (by kernel_rfl) (by kernel_rfl) (fun _ _ _ h => h) (by rfl) ?hv202x4 hS0 ?h202x4
                  case hv202x4 => intro u hSu; clear hSu; go_simp; (try with_reducible rfl)
                  (try simp only [Act.put, List.setIfInBounds_toArray, List.set_cons_zero, List.set_cons_succ])
                  refine regN_takeC [26, 21, 20] (i := 14) (d := (some 125)) (v := ?v202x5) (l2 := tf15_31) rfl rfl rfl (by kernel_rfl) (by kernel_rfl) (by kernel_rfl) (by kernel_rfl) (fun _ _ _ h => h) (by rfl) ?hv202x5 hS0 ?h202x5
                  case hv202x5 => intro u hSu; clear hSu; go_simp; (try with_reducible rfl)
                  (try simp only [Act.put, List.setIfInBounds_toArray, List.set_cons_zero, List.set_cons_succ])
                  refine regN_takeC [26, 21, 18] (i := 15) (d := (some 126)) (v := ?v202x6) (l2 := tf16_31) rfl rfl rfl (by kernel_rfl) (by kernel_rfl) (by kernel_rfl) (by kernel_rfl) (fun _ _ _ h => h) (by rfl) ?hv202x6 hS0 ?h202x6
                  case hv202x6 => intro u hSu; have s0 := (Below.block hSu _ yr).trans RB2.out; have s1 := (Below.block hSu _ yb).trans XB.out; obtain ⟨x0, x1, x2, x3, x4, x5⟩ := six_cells s0; obtain ⟨z0, z1⟩ := two_cells9 s1; have n0 := lt_heap s0; have n1 := lt_heap s1; (try rw [HLA.out] at x5); clear s0 s1; go_simp; (try with_reducible rfl)
                  (try simp only [Act.put, List.setIfInBounds_toArray, List.set_cons_zero, List.set_cons_succ])
                  refine regN_takeC [26, 21, 18, 17] (i := 16) (d := (some 127)) (v := ?v202x7) (l2 := tf17_31) rfl rfl rfl (by kernel_rfl) (by kernel_rfl) (by kernel_rfl) (by kernel_rfl) (fun _ _ _ h => h) (by rfl) ?hv202x7 hS0 ?h202x7
                  case hv202x7 => intro u hSu; clear hSu; go_simp; (try with_reducible rfl)
                  (try simp only [Act.put, List.setIfInBounds_toArray, List.set_cons_zero, List.set_cons_succ])
                  refine regN_takeC [26, 21, 18] (i := 17) (d := (some 128)) (v := ?v202x8) (l2 := tf18_31) rfl rfl rfl (by kernel_rfl) (by kernel_rfl) (by kernel_rfl) (by kernel_rfl) (fun _ _ _ h => h) (by rfl) ?hv202x8 hS0 ?h202x8
                  case hv202x8 => intro u hSu; have s0 := (Below.block hSu _ yr).trans RB2.out; have s1 := (Below.block hSu _ yb).trans XB.out; obtain ⟨x0, x1, x2, x3, x4, x5⟩ := six_cells s0; obtain ⟨z0, z1⟩ := two_cells9 s1; have n0 := lt_heap s0; have n1 := lt_heap s1; (try rw [HLA.out] at x5); clear s0 s1; go_simp; (try with_reducible rfl)
                  (try simp only [Act.put, List.setIfInBounds_toArray, List.set_cons_zero, List.set_cons_succ])
                  refine regN_ready (rs := [18]) (by kernel_rfl) (by simp) ?_
                  refine (AllN.cons (i := 18) (l2 := tf19_31) rfl rfl (fun K hK => ?_) AllN.nil)
                  go_simp
                  go_at_call 28
                  (with_reducible refine (cex_gen _ _).mono ?_)
                  rintro e w10 ⟨rfl, hb10⟩
                  rw [HEX.out]
                  have HBN := Lib.hid (below_on (show Below W2.heap.size W2 _ from (Below.refl _ _).drew) hb10)
                  clear hb10
                  go_simp
                  have hS1 : ((fun W' : World => Below W2.heap.size W2 W') : World → Prop) _ := (show (fun W' : World => Below W2.heap.size W2 W') _ from HBN.out)
                  refine hK _ _ (fun _ => hS1) ?_
                  clear hK K
                  (try simp only [Act.put, List.setIfInBounds_toArray, List.set_cons_zero, List.set_cons_succ])
                  refine regN_takeC [26, 21, 20] (i := 19) (d := (some 130)) (v := ?v202x9) (l2 := tf20_31) rfl rfl rfl (by kernel_rfl) (by kernel_rfl) (by kernel_rfl) (by kernel_rfl) (fun _ _ _ h => h) (by rfl) ?hv202x9 hS1 ?h202x9
                  case hv202x9 => intro u hSu; clear hSu; go_simp; (try with_reducible rfl)
                  (try simp only [Act.put, List.setIfInBounds_toArray, List.set_cons_zero, List.set_cons_succ])
                  refine regN_takeC [26, 21] (i := 20) (d := (some 131)) (v := ?v202x10) (l2 := tf21_31) rfl rfl rfl (by kernel_rfl) (by kernel_rfl) (by kernel_rfl) (by kernel_rfl) (fun _ _ _ h => h) (by rfl) ?hv202x10 hS1 ?h202x10
                  case hv202x10 => intro u hSu; clear hSu; go_simp; (try with_reducible rfl)
                  (try simp only [Act.put, List.setIfInBounds_toArray, List.set_cons_zero, List.set_cons_succ])
                  refine regN_takeC [26] (i := 21) (d := (some 132)) (v := ?v202x11) (l2 := tf22_31) rfl rfl rfl (by kernel_rfl) (by kernel_rfl) (by kernel_rfl) (by kernel_rfl) (fun _ _ _ h => h) (by rfl) ?hv202x11 hS1 ?h202x11
                  case hv202x11 => intro u hSu; clear hSu; go_simp; (try with_reducible rfl)
                  (try simp only [Act.put, List.setIfInBounds_toArray, List.set_cons_zero, List.set_cons_succ])
                  refine regN_takeC [26, 25, 24, 23] (i := 22) (d := (some 133)) (v := ?v202x12) (l2 := tf23_31) rfl rfl rfl (by kernel_rfl) (by kernel_rfl) (by kernel_rfl) (by kernel_rfl) (fun _ _ _ h => h) (by rfl) ?hv202x12 hS1 ?h202x12
                  case hv202x12 => intro u hSu; clear hSu; go_simp; (try with_reducible rfl)
                  (try simp only [Act.put, List.setIfInBounds_toArray, List.set_cons_zero, List.set_cons_succ])
                  refine regN_takeC [26, 25, 24] (i := 23) (d := (some 134)) (v := ?v202x13) (l2 := tf24_31) rfl rfl rfl (by kernel_rfl) (by kernel_rfl) (by kernel_rfl) (by kernel_rfl) (fun _ _ _ h => h) (by rfl) ?hv202x13 hS1 ?h202x13
                  case hv202x13 => intro u hSu; have s0 := (Below.block hSu _ yr).trans RB2.out; have s1 := (Below.block hSu _ yb).trans XB.out; obtain ⟨x0, x1, x2, x3, x4, x5⟩ := six_cells s0; obtain ⟨z0, z1⟩ := two_cells9 s1; have n0 := lt_heap s0; have n1 := lt_heap s1; (try rw [HLA.out] at x5); clear s0 s1; go_simp; (try with_reducible rfl)
                  (try simp only [Act.put, List.setIfInBounds_toArray, List.set_cons_zero, List.set_cons_succ])
                  refine regN_takeC [26, 25] (i := 24) (d := (some 135)) (v := ?v202x14) (l2 := tf25_31) rfl rfl rfl (by kernel_rfl) (by kernel_rfl) (by kernel_rfl) (by kernel_rfl) (fun _ _ _ h => h) (by rfl) ?hv202x14 hS1 ?h202x14
                  case hv202x14 => intro u hSu; clear hSu; go_simp; (try with_reducible rfl)
                  (try simp only [Act.put, List.setIfInBounds_toArray, List.set_cons_zero, List.set_cons_succ])
                  refine regN_takeC [26] (i := 25) (d := (some 136)) (v := ?v202x15) (l2 := tf26_31) rfl rfl rfl (by kernel_rfl) (by kernel_rfl) (by kernel_rfl) (by kernel_rfl) (fun _ _ _ h => h) (by rfl) ?hv202x15 hS1 ?h202x15
                  case hv202x15 => intro u hSu; clear hSu; go_simp; (try with_reducible rfl)
                  (try simp only [Act.put, List.setIfInBounds_toArray, List.set_cons_zero, List.set_cons_succ])
                  refine regN_take (i := 26) (d := (some 137)) (v := ?v202x16) (l2 := tf27_31) rfl rfl rfl (by kernel_rfl) (by kernel_rfl) (by kernel_rfl) (by kernel_rfl) (fun _ _ _ h => h) (by rfl) ?hv202x16 hS1 ?h202x16
                  case hv202x16 => intro u hSu; clear hSu; go_simp; (try with_reducible rfl)
                  (try simp only [Act.put, List.setIfInBounds_toArray, List.set_cons_zero, List.set_cons_succ])
                  refine regN_skipC [29, 28] (i := 27) (d := (some 138)) (l2 := tf28_31) rfl rfl rfl (by kernel_rfl) (by kernel_rfl) (by kernel_rfl) (by kernel_rfl) (fun _ _ _ h => h) (by rfl) hS1 ?_
                  (try simp only [Act.put, List.setIfInBounds_toArray, List.set_cons_zero, List.set_cons_succ])
                  refine regN_skipC [29] (i := 28) (d := (some 139)) (l2 := tf29_31) rfl rfl rfl (by kernel_rfl) (by kernel_rfl) (by kernel_rfl) (by kernel_rfl) (fun _ _ _ h => h) (by rfl) hS1 ?_
                  (try simp only [Act.put, List.setIfInBounds_toArray, List.set_cons_zero, List.set_cons_succ])
                  refine regN_skip (i := 29) (d := (some 140)) (l2 := tf30_31) rfl rfl rfl (by kernel_rfl) (by kernel_rfl) (by kernel_rfl) (by kernel_rfl) (fun _ _ _ h => h) (by rfl) hS1 ?_
                  (try simp only [Act.put, List.setIfInBounds_toArray, List.set_cons_zero, List.set_cons_succ])
                  refine regN_ready (rs := [30]) (by kernel_rfl) (by simp) ?_
                  refine (AllN.cons (i := 30) (l2 := tf31_31) rfl rfl (fun K hK => ?_) AllN.nil)
                  go_simp
                  refine hK _ _ (fun h => absurd rfl h) ?_
                  clear hK K
                  (try simp only [Act.put, List.setIfInBounds_toArray, List.set_cons_zero, List.set_cons_succ])
                  refine regN_done (by kernel_rfl) ?_ _
                  go_wp2
                  go_ret2
                  obtain ⟨q1, q2⟩ := pq9 HR.out H.out
                  exact ⟨by rw [q1, q2]; rfl, below_on HB5.out (below_on HBR2.out HBN.out)⟩
                 ·
                  by_cases hl1 : 65535 < m.2
                  ·
                   have H := Lib.hid (cc_7 (k := 0) HE.out HAN.out HLS.out H32.out HAH.out HSMS.out HALL.out hlt (by rw [HSM.out]; rw [hex, decide_eq_true hl1]; simp))
                   clear hex
                   refine regN_start (N := 30) (S := (fun W' : World => Below W2.heap.size W2 W')) (by kernel_rfl) ?_
                   change wpAnyN _ _ _ _ _ _ _ tf0_31 _ (World.drew _)
                   have hS0 := (show (fun W' : World => Below W2.heap.size W2 W') W2.drew from (Below.refl _ _).drew)
                   refine regN_takeC [26, 21, 20, 14, 2, 1] (i := 0) (d := (some 111)) (v := ?v203x1) (l2 := tf1_31) rfl rfl rfl (by kernel_rfl) (by kernel_rfl) (by kernel_rfl) (by kernel_rfl) (fun _ _ _ h => h) (by rfl) ?hv203x1 hS0 ?h203x1
                   case hv203x1 => intro u hSu; clear hSu; go_simp; (try with_reducible rfl)
                   (try simp only [Act.put, List.setIfInBounds_toArray, List.set_cons_zero, List.set_cons_succ])
                   refine regN_takeC [26, 21, 20, 14, 2] (i := 1) (d := (some 112)) (v := ?v203x2) (l2 := tf2_31) rfl rfl rfl (by kernel_rfl) (by kernel_rfl) (by kernel_rfl) (by kernel_rfl) (fun _ _ _ h => h) (by rfl) ?hv203x2 hS0 ?h203x2
                   case hv203x2 => intro u hSu; clear hSu; go_simp; (try with_reducible rfl)
                   (try simp only [Act.put, List.setIfInBounds_toArray, List.set_cons_zero, List.set_cons_succ])
                   refine regN_takeC [26, 21, 20, 14] (i := 2) (d := (some 113)) (v := ?v203x3) (l2 := tf3_31) rfl rfl rfl (by kernel_rfl) (by kernel_rfl) (by kernel_rfl) (by kernel_rfl) (fun _ _ _ h => h) (by rfl) ?hv203x3 hS0 ?h203x3
                   case hv203x3 => intro u hSu; clear hSu; go_simp; (try with_reducible rfl)
                   (try simp only [Act.put, List.setIfInBounds_toArray, List.set_cons_zero, List.set_cons_succ])
                   refine regN_skipC [26, 21, 20, 14, 13, 12, 4] (i := 3) (d := (some 114)) (l2 := tf4_31) rfl rfl rfl (by kernel_rfl) (by kernel_rfl) (by kernel_rfl) (by kernel_rfl) (fun _ _ _ h => h) (by rfl) hS0 ?_
                   (try simp only [Act.put, List.setIfInBounds_toArray, List.set_cons_zero, List.set_cons_succ])
                   refine regN_skipC [26, 21, 20, 14, 13, 12] (i := 4) (d := (some 115)) (l2 := tf5_31) rfl rfl rfl (by kernel_rfl) (by kernel_rfl) (by kernel_rfl) (by kernel_rfl) (fun _ _ _ h => h) (by rfl) hS0 ?_
                   (try simp only [Act.put, List.setIfInBounds_toArray, List.set_cons_zero, List.set_cons_succ])
                   refine regN_skipC [26, 21, 20, 14, 13, 12, 11, 10, 9, 6] (i := 5) (d := (some 116)) (l2 := tf6_31) rfl rfl rfl (by kernel_rfl) (by kernel_rfl) (by kernel_rfl) (by kernel_rfl) (fun _ _ _ h => h) (by rfl) hS0 ?_
                   (try simp only [Act.put, List.setIfInBounds_toArray, List.set_cons_zero, List.set_cons_succ])
                   refine regN_skipC [26, 21, 20, 14, 13, 12, 11, 10, 9] (i := 6) (d := (some 117)) (l2 := tf7_31) rfl rfl rfl (by kernel_rfl) (by kernel_rfl) (by kernel_rfl) (by kernel_rfl) (fun _ _ _ h => h) (by rfl) hS0 ?_
                   (try simp only [Act.put, List.setIfInBounds_toArray, List.set_cons_zero, List.set_cons_succ])
                   refine regN_skipC [26, 21, 20, 14, 13, 12, 11, 10, 9, 8] (i := 7) (d := (some 118)) (l2 := tf8_31) rfl rfl rfl (by kernel_rfl) (by kernel_rfl) (by kernel_rfl) (by kernel_rfl) (fun _ _ _ h => h) (by rfl) hS0 ?_
                   (try simp only [Act.put, List.setIfInBounds_toArray, List.set_cons_zero, List.set_cons_succ])
                   refine regN_skipC [26, 21, 20, 14, 13, 12, 11, 10, 9] (i := 8) (d := (some 119)) (l2 := tf9_31) rfl rfl rfl (by kernel_rfl) (by kernel_rfl) (by kernel_rfl) (by kernel_rfl) (fun _ _ _ h => h) (by rfl) hS0 ?_
                   (try simp only [Act.put, List.setIfInBounds_toArray, List.set_cons_zero, List.set_cons_succ])
                   refine regN_skipC [26, 21, 20, 14, 13, 12, 11, 10] (i := 9) (d := (some 120)) (l2 := tf10_31) rfl rfl rfl (by kernel_rfl) (by kernel_rfl) (by kernel_rfl) (by kernel_rfl) (fun _ _ _ h => h) (by rfl) hS0 ?_
                   (try simp only [Act.put, List.setIfInBounds_toArray, List.set_cons_zero, List.set_cons_succ])
                   refine regN_skipC [26, 21, 20, 14, 13, 12, 11] (i := 10) (d := (some 121)) (l2 := tf11_31) rfl rfl rfl (by kernel_rfl) (by kernel_rfl) (by kernel_rfl) (by kernel_rfl) (fun _ _ _ h => h) (by rfl) hS0 ?_
                   (try simp only [Act.put, List.setIfInBounds_toArray, List.set_cons_zero, List.set_cons_succ])
                   refine regN_skipC [26, 21, 20, 14, 13, 12] (i := 11) (d := (some 122)) (l2 := tf12_31) rfl rfl rfl (by kernel_rfl) (by kernel_rfl) (by kernel_rfl) (by kernel_rfl) (fun _ _ _ h => h) (by rfl) hS0 ?_
                   (try simp only [Act.put, List.setIfInBounds_toArray, List.set_cons_zero, List.set_cons_succ])
                   refine regN_skipC [26, 21, 20, 14, 13] (i := 12) (d := (some 123)) (l2 := tf13_31) rfl rfl rfl (by kernel_rfl) (by kernel_rfl) (by kernel_rfl) (by kernel_rfl) (fun _ _ _ h => h) (by rfl) hS0 ?_
                   (try simp only [Act.put, List.setIfInBounds_toArray, List.set_cons_zero, List.set_cons_succ])
                   refine regN_takeC [26, 21, 20, 14] (i := 13) (d := (some 124)) (v := ?v203x4) (l2 := tf14_31) rfl rfl rfl (by kernel_rfl) (by kernel_rfl) (by kernel_rfl) (by kernel_rfl) (fun _ _ _ h => h) (by rfl) ?hv203x4 hS0 ?h203x4
                   case hv203x4 => intro u hSu; clear hSu; go_simp; (try with_reducible rfl)
                   (try simp only [Act.put, List.setIfInBounds_toArray, List.set_cons_zero, List.set_cons_succ])
                   refine regN_takeC [26, 21, 20] (i := 14) (d := (some 125)) (v := ?v203x5) (l2 := tf15_31) rfl rfl rfl (by kernel_rfl) (by kernel_rfl) (by kernel_rfl) (by kernel_rfl) (fun _ _ _ h => h) (by rfl) ?hv203x5 hS0 ?h203x5
                   case hv203x5 => intro u hSu; clear hSu; go_simp; (try with_reducible rfl)
                   (try simp only [Act.put, List.setIfInBounds_toArray, List.set_cons_zero, List.set_cons_succ])
                   refine regN_takeC [26, 21, 18] (i := 15) (d := (some 126)) (v := ?v203x6) (l2 := tf16_31) rfl rfl rfl (by kernel_rfl) (by kernel_rfl) (by kernel_rfl) (by kernel_rfl) (fun _ _ _ h => h) (by rfl) ?hv203x6 hS0 ?h203x6
                   case hv203x6 => intro u hSu; have s0 := (Below.block hSu _ yr).trans RB2.out; have s1 := (Below.block hSu _ yb).trans XB.out; obtain ⟨x0, x1, x2, x3, x4, x5⟩ := six_cells s0; obtain ⟨z0, z1⟩ := two_cells9 s1; have n0 := lt_heap s0; have n1 := lt_heap s1; (try rw [HLA.out] at x5); clear s0 s1; go_simp; (try with_reducible rfl)
                   (try simp only [Act.put, List.setIfInBounds_toArray, List.set_cons_zero, List.set_cons_succ])
                   refine regN_takeC [26, 21, 18, 17] (i := 16) (d := (some 127)) (v := ?v203x7) (l2 := tf17_31) rfl rfl rfl (by kernel_rfl) (by kernel_rfl) (by kernel_rfl) (by kernel_rfl) (fun _ _ _ h => h) (by rfl) ?hv203x7 hS0 ?h203x7
                   case hv203x7 => intro u hSu; clear hSu; go_simp; (try with_reducible rfl)
                   (try simp only [Act.put, List.setIfInBounds_toArray, List.set_cons_zero, List.set_cons_succ])
                   refine regN_takeC [26, 21, 18] (i := 17) (d := (some 128)) (v := ?v203x8) (l2 := tf18_31) rfl rfl rfl (by kernel_rfl) (by kernel_rfl) (by kernel_rfl) (by kernel_rfl) (fun _ _ _ h => h) (by rfl) ?hv203x8 hS0 ?h203x8
                   case hv203x8 => intro u hSu; have s0 := (Below.block hSu _ yr).trans RB2.out; have s1 := (Below.block hSu _ yb).trans XB.out; obtain ⟨x0, x1, x2, x3, x4, x5⟩ := six_cells s0; obtain ⟨z0, z1⟩ := two_cells9 s1; have n0 := lt_heap s0; have n1 := lt_heap s1; (try rw [HLA.out] at x5); clear s0 s1; go_simp; (try with_reducible rfl)
                   (try simp only [Act.put, List.setIfInBounds_toArray, List.set_cons_zero, List.set_cons_succ])
                   refine regN_ready (rs := [18]) (by kernel_rfl) (by simp) ?_
                   refine (AllN.cons (i := 18) (l2 := tf19_31) rfl rfl (fun K hK => ?_) AllN.nil)
                   go_simp
                   go_at_call 28
                   (with_reducible refine (cex_gen _ _).mono ?_)
                   rintro e w10 ⟨rfl, hb10⟩
                   rw [HEX.out]
                   have HBN := Lib.hid (below_on (show Below W2.heap.size W2 _ from (Below.refl _ _).drew) hb10)
                   clear hb10
                   go_simp
                   have hS1 : ((fun W' : World => Below W2.heap.size W2 W') : World → Prop) _ := (show (fun W' : World => Below W2.heap.size W2 W') _ from HBN.out)
                   refine hK _ _ (fun _ => hS1) ?_
                   clear hK K
                   (try simp only [Act.put, List.setIfInBounds_toArray, List.set_cons_zero, List.set_cons_succ])
                   refine regN_takeC [26, 21, 20] (i := 19) (d := (some 130)) (v := ?v203x9) (l2 := tf20_31) rfl rfl rfl (by kernel_rfl) (by kernel_rfl) (by kernel_rfl) (by kernel_rfl) (fun _ _ _ h => h) (by rfl) ?hv203x9 hS1 ?h203x9
                   case hv203x9 => intro u hSu; clear hSu; go_simp; (try with_reducible rfl)
                   (try simp only [Act.put, List.setIfInBounds_toArray, List.set_cons_zero, List.set_cons_succ])
                   refine regN_takeC [26, 21] (i := 20) (d := (some 131)) (v := ?v203x10) (l2 := tf21_31) rfl rfl rfl (by kernel_rfl) (by kernel_rfl) (by kernel_rfl) (by kernel_rfl) (fun _ _ _ h => h) (by rfl) ?hv203x10 hS1 ?h203x10
                   case hv203x10 => intro u hSu; clear hSu; go_simp; (try with_reducible rfl)
                   (try simp only [Act.put, List.setIfInBounds_toArray, List.set_cons_zero, List.set_cons_succ])
                   refine regN_takeC [26] (i := 21) (d := (some 132)) (v := ?v203x11) (l2 := tf22_31) rfl rfl rfl (by kernel_rfl) (by kernel_rfl) (by kernel_rfl) (by kernel_rfl) (fun _ _ _ h => h) (by rfl) ?hv203x11 hS1 ?h203x11
                   case hv203x11 => intro u hSu; clear hSu; go_simp; (try with_reducible rfl)
                   (try simp only [Act.put, List.setIfInBounds_toArray, List.set_cons_zero, List.set_cons_succ])
                   refine regN_takeC [26, 25, 24, 23] (i := 22) (d := (some 133)) (v := ?v203x12) (l2 := tf23_31) rfl rfl rfl (by kernel_rfl) (by kernel_rfl) (by kernel_rfl) (by kernel_rfl) (fun _ _ _ h => h) (by rfl) ?hv203x12 hS1 ?h203x12
                   case hv203x12 => intro u hSu; clear hSu; go_simp; (try with_reducible rfl)
                   (try simp only [Act.put, List.setIfInBounds_toArray, List.set_cons_zero, List.set_cons_succ])
                   refine regN_takeC [26, 25, 24] (i := 23) (d := (some 134)) (v := ?v203x13) (l2 := tf24_31) rfl rfl rfl (by kernel_rfl) (by kernel_rfl) (by kernel_rfl) (by kernel_rfl) (fun _ _ _ h => h) (by rfl) ?hv203x13 hS1 ?h203x13
                   case hv203x13 => intro u hSu; have s0 := (Below.block hSu _ yr).trans RB2.out; have s1 := (Below.block hSu _ yb).trans XB.out; obtain ⟨x0, x1, x2, x3, x4, x5⟩ := six_cells s0; obtain ⟨z0, z1⟩ := two_cells9 s1; have n0 := lt_heap s0; have n1 := lt_heap s1; (try rw [HLA.out] at x5); clear s0 s1; go_simp; (try with_reducible rfl)
                   (try simp only [Act.put, List.setIfInBounds_toArray, List.set_cons_zero, List.set_cons_succ])
                   refine regN_takeC [26, 25] (i := 24) (d := (some 135)) (v := ?v203x14) (l2 := tf25_31) rfl rfl rfl (by kernel_rfl) (by kernel_rfl) (by kernel_rfl) (by kernel_rfl) (fun _ _ _ h => h) (by rfl) ?hv203x14 hS1 ?h203x14
                   case hv203x14 => intro u hSu; clear hSu; go_simp; (try with_reducible rfl)
                   (try simp only [Act.put, List.setIfInBounds_toArray, List.set_cons_zero, List.set_cons_succ])
                   refine regN_takeC [26] (i := 25) (d := (some 136)) (v := ?v203x15) (l2 := tf26_31) rfl rfl rfl (by kernel_rfl) (by kernel_rfl) (by kernel_rfl) (by kernel_rfl) (fun _ _ _ h => h) (by rfl) ?hv203x15 hS1 ?h203x15
                   case hv203x15 => intro u hSu; clear hSu; go_simp; (try with_reducible rfl)
                   (try simp only [Act.put, List.setIfInBounds_toArray, List.set_cons_zero, List.set_cons_succ])
                   refine regN_take (i := 26) (d := (some 137)) (v := ?v203x16) (l2 := tf27_31) rfl rfl rfl (by kernel_rfl) (by kernel_rfl) (by kernel_rfl) (by kernel_rfl) (fun _ _ _ h => h) (by rfl) ?hv203x16 hS1 ?h203x16
                   case hv203x16 => intro u hSu; clear hSu; go_simp; (try with_reducible rfl)
                   (try simp only [Act.put, List.setIfInBounds_toArray, List.set_cons_zero, List.set_cons_succ])
                   refine regN_takeC [29, 28] (i := 27) (d := (some 138)) (v := ?v203x17) (l2 := tf28_31) rfl rfl rfl (by kernel_rfl) (by kernel_rfl) (by kernel_rfl) (by kernel_rfl) (fun _ _ _ h => h) (by rfl) ?hv203x17 hS1 ?h203x17
                   case hv203x17 => intro u hSu; clear hSu; go_simp; (try with_reducible rfl)
                   (try simp only [Act.put, List.setIfInBounds_toArray, List.set_cons_zero, List.set_cons_succ])
                   refine regN_takeC [29] (i := 28) (d := (some 139)) (v := ?v203x18) (l2 := tf29_31) rfl rfl rfl (by kernel_rfl) (by kernel_rfl) (by kernel_rfl) (by kernel_rfl) (fun _ _ _ h => h) (by rfl) ?hv203x18 hS1 ?h203x18
                   case hv203x18 => intro u hSu; have s0 := (Below.block hSu _ yr).trans RB2.out; have s1 := (Below.block hSu _ yb).trans XB.out; obtain ⟨x0, x1, x2, x3, x4, x5⟩ := six_cells s0; obtain ⟨z0, z1⟩ := two_cells9 s1; have n0 := lt_heap s0; have n1 := lt_heap s1; (try rw [HLA.out] at x5); clear s0 s1; go_simp; (try with_reducible rfl)
                   (try simp only [Act.put, List.setIfInBounds_toArray, List.set_cons_zero, List.set_cons_succ])
                   refine regN_take (i := 29) (d := (some 140)) (v := ?v203x19) (l2 := tf30_31) rfl rfl rfl (by kernel_rfl) (by kernel_rfl) (by kernel_rfl) (by kernel_rfl) (fun _ _ _ h => h) (by rfl) ?hv203x19 hS1 ?h203x19
                   case hv203x19 => intro u hSu; clear hSu; go_simp; (try with_reducible rfl)
                   (try simp only [Act.put, List.setIfInBounds_toArray, List.set_cons_zero, List.set_cons_succ])
                   refine regN_ready (rs := [30]) (by kernel_rfl) (by simp) ?_
                   refine (AllN.cons (i := 30) (l2 := tf31_31) rfl rfl (fun K hK => ?_) AllN.nil)
                   go_simp
                   refine hK _ _ (fun h => absurd rfl h) ?_
                   clear hK K
                   (try simp only [Act.put, List.setIfInBounds_toArray, List.set_cons_zero, List.set_cons_succ])
                   refine regN_done (by kernel_rfl) ?_ _
                   go_wp2
                   go_ret2
                   obtain ⟨q1, q2⟩ := pq9 HR.out H.out
                   exact ⟨by rw [q1, q2]; rfl, below_on HB5.out (below_on HBR2.out HBN.out)⟩
                  ·
                   have HOKL := Lib.hid (show lnP c ls (0) = false from (by rw [HSM.out]; rw [hex, decide_eq_false hl0, decide_eq_false hl1]; rfl))
                   clear hex
                   refine regN_start (N := 30) (S := (fun W' : World => Below W2.heap.size W2 W')) (by kernel_rfl) ?_
                   change wpAnyN _ _ _ _ _ _ _ tf0_31 _ (World.drew _)
                   have hS0 := (show (fun W' : World => Below W2.heap.size W2 W') W2.drew from (Below.refl _ _).drew)
                   refine regN_takeC [26, 21, 20, 14, 2, 1] (i := 0) (d := (some 111)) (v := ?v204x1) (l2 := tf1_31) rfl rfl rfl (by kernel_rfl) (by kernel_rfl) (by kernel_rfl) (by kernel_rfl) (fun _ _ _ h => h) (by rfl) ?hv204x1 hS0 ?h204x1
                   case hv204x1 => intro u hSu; clear hSu; go_simp; (try with_reducible rfl)
                   (try simp only [Act.put, List.setIfInBounds_toArray, List.set_cons_zero, List.set_cons_succ])
                   refine regN_takeC [26, 21, 20, 14, 2] (i := 1) (d := (some 112)) (v := ?v204x2) (l2 := tf2_31) rfl rfl rfl (by kernel_rfl) (by kernel_rfl) (by kernel_rfl) (by kernel_rfl) (fun _ _ _ h => h) (by rfl) ?hv204x2 hS0 ?h204x2
                   case hv204x2 => intro u hSu; clear hSu; go_simp; (try with_reducible rfl)
                   (try simp only [Act.put, List.setIfInBounds_toArray, List.set_cons_zero, List.set_cons_succ])
                   refine regN_takeC [26, 21, 20, 14] (i := 2) (d := (some 113)) (v := ?v204x3) (l2 := tf3_31) rfl rfl rfl (by kernel_rfl) (by kernel_rfl) (by kernel_rfl) (by kernel_rfl) (fun _ _ _ h => h) (by rfl) ?hv204x3 hS0 ?h204x3
                   case hv204x3 => intro u hSu; clear hSu; go_simp; (try with_reducible rfl)
                   (try simp only [Act.put, List.setIfInBounds_toArray, List.set_cons_zero, List.set_cons_succ])
                   refine regN_skipC [26, 21, 20, 14, 13, 12, 4] (i := 3) (d := (some 114)) (l2 := tf4_31) rfl rfl rfl (by kernel_rfl) (by kernel_rfl) (by kernel_rfl) (by kernel_rfl) (fun _ _ _ h => h) (by rfl) hS0 ?_
                   (try simp only [Act.put, List.setIfInBounds_toArray, List.set_cons_zero, List.set_cons_succ])
                   refine regN_skipC [26, 21, 20, 14, 13, 12] (i := 4) (d := (some 115)) (l2 := tf5_31) rfl rfl rfl (by kernel_rfl) (by kernel_rfl) (by kernel_rfl) (by kernel_rfl) (fun _ _ _ h => h) (by rfl) hS0 ?_
                   (try simp only [Act.put, List.setIfInBounds_toArray, List.set_cons_zero, List.set_cons_succ])
                   refine regN_skipC [26, 21, 20, 14, 13, 12, 11, 10, 9, 6] (i := 5) (d := (some 116)) (l2 := tf6_31) rfl rfl rfl (by kernel_rfl) (by kernel_rfl) (by kernel_rfl) (by kernel_rfl) (fun _ _ _ h => h) (by rfl) hS0 ?_
                   (try simp only [Act.put, List.setIfInBounds_toArray, List.set_cons_zero, List.set_cons_succ])
                   refine regN_skipC [26, 21, 20, 14, 13, 12, 11, 10, 9] (i := 6) (d := (some 117)) (l2 := tf7_31) rfl rfl rfl (by kernel_rfl) (by kernel_rfl) (by kernel_rfl) (by kernel_rfl) (fun _ _ _ h => h) (by rfl) hS0 ?_
                   (try simp only [Act.put, List.setIfInBounds_toArray, List.set_cons_zero, List.set_cons_succ])
                   refine regN_skipC [26, 21, 20, 14, 13, 12, 11, 10, 9, 8] (i := 7) (d := (some 118)) (l2 := tf8_31) rfl rfl rfl (by kernel_rfl) (by kernel_rfl) (by kernel_rfl) (by kernel_rfl) (fun _ _ _ h => h) (by rfl) hS0 ?_
                   (try simp only [Act.put, List.setIfInBounds_toArray, List.set_cons_zero, List.set_cons_succ])
                   refine regN_skipC [26, 21, 20, 14, 13, 12, 11, 10, 9] (i := 8) (d := (some 119)) (l2 := tf9_31) rfl rfl rfl (by kernel_rfl) (by kernel_rfl) (by kernel_rfl) (by kernel_rfl) (fun _ _ _ h => h) (by rfl) hS0 ?_
                   (try simp only [Act.put, List.setIfInBounds_toArray, List.set_cons_zero, List.set_cons_succ])
                   refine regN_skipC [26, 21, 20, 14, 13, 12, 11, 10] (i := 9) (d := (some 120)) (l2 := tf10_31) rfl rfl rfl (by kernel_rfl) (by kernel_rfl) (by kernel_rfl) (by kernel_rfl) (fun _ _ _ h => h) (by rfl) hS0 ?_
                   (try simp only [Act.put, List.setIfInBounds_toArray, List.set_cons_zero, List.set_cons_succ])
                   refine regN_skipC [26, 21, 20, 14, 13, 12, 11] (i := 10) (d := (some 121)) (l2 := tf11_31) rfl rfl rfl (by kernel_rfl) (by kernel_rfl) (by kernel_rfl) (by kernel_rfl) (fun _ _ _ h => h) (by rfl) hS0 ?_
                   (try simp only [Act.put, List.setIfInBounds_toArray, List.set_cons_zero, List.set_cons_succ])
                   refine regN_skipC [26, 21, 20, 14, 13, 12] (i := 11) (d := (some 122)) (l2 := tf12_31) rfl rfl rfl (by kernel_rfl) (by kernel_rfl) (by kernel_rfl) (by kernel_rfl) (fun _ _ _ h => h) (by rfl) hS0 ?_
                   (try simp only [Act.put, List.setIfInBounds_toArray, List.set_cons_zero, List.set_cons_succ])
                   refine regN_skipC [26, 21, 20, 14, 13] (i := 12) (d := (some 123)) (l2 := tf13_31) rfl rfl rfl (by kernel_rfl) (by kernel_rfl) (by kernel_rfl) (by kernel_rfl) (fun _ _ _ h => h) (by rfl) hS0 ?_
                   (try simp only [Act.put, List.setIfInBounds_toArray, List.set_cons_zero, List.set_cons_succ])
                   refine regN_takeC [26, 21, 20, 14] (i := 13) (d := (some 124)) (v := ?v204x4) (l2 := tf14_31) rfl rfl rfl (by kernel_rfl) (by kernel_rfl) (by kernel_rfl) (by kernel_rfl) (fun _ _ _ h => h) (by rfl) ?hv204x4 hS0 ?h204x4
                   case hv204x4 => intro u hSu; clear hSu; go_simp; (try with_reducible rfl)
                   (try simp only [Act.put, List.setIfInBounds_toArray, List.set_cons_zero, List.set_cons_succ])
                   refine regN_takeC [26, 21, 20] (i := 14) (d := (some 125)) (v := ?v204x5) (l2 := tf15_31) rfl rfl rfl (by kernel_rfl) (by kernel_rfl) (by kernel_rfl) (by kernel_rfl) (fun _ _ _ h => h) (by rfl) ?hv204x5 hS0 ?h204x5
                   case hv204x5 => intro u hSu; clear hSu; go_simp; (try with_reducible rfl)
                   (try simp only [Act.put, List.setIfInBounds_toArray, List.set_cons_zero, List.set_cons_succ])
                   refine regN_takeC [26, 21, 18] (i := 15) (d := (some 126)) (v := ?v204x6) (l2 := tf16_31) rfl rfl rfl (by kernel_rfl) (by kernel_rfl) (by kernel_rfl) (by kernel_rfl) (fun _ _ _ h => h) (by rfl) ?hv204x6 hS0 ?h204x6
                   case hv204x6 => intro u hSu; have s0 := (Below.block hSu _ yr).trans RB2.out; have s1 := (Below.block hSu _ yb).trans XB.out; obtain ⟨x0, x1, x2, x3, x4, x5⟩ := six_cells s0; obtain ⟨z0, z1⟩ := two_cells9 s1; have n0 := lt_heap s0; have n1 := lt_heap s1; (try rw [HLA.out] at x5); clear s0 s1; go_simp; (try with_reducible rfl)
                   (try simp only [Act.put, List.setIfInBounds_toArray, List.set_cons_zero, List.set_cons_succ])
                   refine regN_takeC [26, 21, 18, 17] (i := 16) (d := (some 127)) (v := ?v204x7) (l2 := tf17_31) rfl rfl rfl (by kernel_rfl) (by kernel_rfl) (by kernel_rfl) (by kernel_rfl) (fun _ _ _ h => h) (by rfl) ?hv204x7 hS0 ?h204x7
                   case hv204x7 => intro u hSu; clear hSu; go_simp; (try with_reducible rfl)
                   (try simp only [Act.put, List.setIfInBounds_toArray, List.set_cons_zero, List.set_cons_succ])
                   refine regN_takeC [26, 21, 18] (i := 17) (d := (some 128)) (v := ?v204x8) (l2 := tf18_31) rfl rfl rfl (by kernel_rfl) (by kernel_rfl) (by kernel_rfl) (by kernel_rfl) (fun _ _ _ h => h) (by rfl) ?hv204x8 hS0 ?h204x8
                   case hv204x8 => intro u hSu; have s0 := (Below.block hSu _ yr).trans RB2.out; have s1 := (Below.block hSu _ yb).trans XB.out; obtain ⟨x0, x1, x2, x3, x4, x5⟩ := six_cells s0; obtain ⟨z0, z1⟩ := two_cells9 s1; have n0 := lt_heap s0; have n1 := lt_heap s1; (try rw [HLA.out] at x5); clear s0 s1; go_simp; (try with_reducible rfl)
                   (try simp only [Act.put, List.setIfInBounds_toArray, List.set_cons_zero, List.set_cons_succ])
                   refine regN_ready (rs := [18]) (by kernel_rfl) (by simp) ?_
                   refine (AllN.cons (i := 18) (l2 := tf19_31) rfl rfl (fun K hK => ?_) AllN.nil)
                   go_simp
                   go_at_call 28
                   (with_reducible refine (cex_gen _ _).mono ?_)
                   rintro e w10 ⟨rfl, hb10⟩
                   rw [HEX.out]
                   have HBN := Lib.hid (below_on (show Below W2.heap.size W2 _ from (Below.refl _ _).drew) hb10)
                   clear hb10
                   go_simp
                   have hS1 : ((fun W' : World => Below W2.heap.size W2 W') : World → Prop) _ := (show (fun W' : World => Below W2.heap.size W2 W') _ from HBN.out)
                   refine hK _ _ (fun _ => hS1) ?_
                   clear hK K
                   (try simp only [Act.put, List.setIfInBounds_toArray, List.set_cons_zero, List.set_cons_succ])
                   refine regN_takeC [26, 21, 20] (i := 19) (d := (some 130)) (v := ?v204x9) (l2 := tf20_31) rfl rfl rfl (by kernel_rfl) (by kernel_rfl) (by kernel_rfl) (by kernel_rfl) (fun _ _ _ h => h) (by rfl) ?hv204x9 hS1 ?h204x9
                   case hv204x9 => intro u hSu; clear hSu; go_simp; (try with_reducible rfl)
                   (try simp only [Act.put, List.setIfInBounds_toArray, List.set_cons_zero, List.set_cons_succ])
                   refine regN_takeC [26, 21] (i := 20) (d := (some 131)) (v := ?v204x10) (l2 := tf21_31) rfl rfl rfl (by kernel_rfl) (by kernel_rfl) (by kernel_rfl) (by kernel_rfl) (fun _ _ _ h => h) (by rfl) ?hv204x10 hS1 ?h204x10
                   case hv204x10 => intro u hSu; clear hSu; go_simp; (try with_reducible rfl)
                   (try simp only [Act.put, List.setIfInBounds_toArray, List.set_cons_zero, List.set_cons_succ])
                   refine regN_takeC [26] (i := 21) (d := (some 132)) (v := ?v204x11) (l2 := tf22_31) rfl rfl rfl (by kernel_rfl) (by kernel_rfl) (by kernel_rfl) (by kernel_rfl) (fun _ _ _ h => h) (by rfl) ?hv204x11 hS1 ?h204x11
                   case hv204x11 => intro u hSu; clear hSu; go_simp; (try with_reducible rfl)
                   (try simp only [Act.put, List.setIfInBounds_toArray, List.set_cons_zero, List.set_cons_succ])
                   refine regN_takeC [26, 25, 24, 23] (i := 22) (d := (some 133)) (v := ?v204x12) (l2 := tf23_31) rfl rfl rfl (by kernel_rfl) (by kernel_rfl) (by kernel_rfl) (by kernel_rfl) (fun _ _ _ h => h) (by rfl) ?hv204x12 hS1 ?h204x12
                   case hv204x12 => intro u hSu; clear hSu; go_simp; (try with_reducible rfl)
                   (try simp only [Act.put, List.setIfInBounds_toArray, List.set_cons_zero, List.set_cons_succ])
                   refine regN_takeC [26, 25, 24] (i := 23) (d := (some 134)) (v := ?v204x13) (l2 := tf24_31) rfl rfl rfl (by kernel_rfl) (by kernel_rfl) (by kernel_rfl) (by kernel_rfl) (fun _ _ _ h => h) (by rfl) ?hv204x13 hS1 ?h204x13
                   case hv204x13 => intro u hSu; have s0 := (Below.block hSu _ yr).trans RB2.out; have s1 := (Below.block hSu _ yb).trans XB.out; obtain ⟨x0, x1, x2, x3, x4, x5⟩ := six_cells s0; obtain ⟨z0, z1⟩ := two_cells9 s1; have n0 := lt_heap s0; have n1 := lt_heap s1; (try rw [HLA.out] at x5); clear s0 s1; go_simp; (try with_reducible rfl)
                   (try simp only [Act.put, List.setIfInBounds_toArray, List.set_cons_zero, List.set_cons_succ])
                   refine regN_takeC [26, 25] (i := 24) (d := (some 135)) (v := ?v204x14) (l2 := tf25_31) rfl rfl rfl (by kernel_rfl) (by kernel_rfl) (by kernel_rfl) (by kernel_rfl) (fun _ _ _ h => h) (by rfl) ?hv204x14 hS1 ?h204x14
                   case hv204x14 => intro u hSu; clear hSu; go_simp; (try with_reducible rfl)
                   (try simp only [Act.put, List.setIfInBounds_toArray, List.set_cons_zero, List.set_cons_succ])
                   refine regN_takeC [26] (i := 25) (d := (some 136)) (v := ?v204x15) (l2 := tf26_31) rfl rfl rfl (by kernel_rfl) (by kernel_rfl) (by kernel_rfl) (by kernel_rfl) (fun _ _ _ h => h) (by rfl) ?hv204x15 hS1 ?h204x15
                   case hv204x15 => intro u hSu; clear hSu; go_simp; (try with_reducible rfl)
                   (try simp only [Act.put, List.setIfInBounds_toArray, List.set_cons_zero, List.set_cons_succ])
                   refine regN_take (i := 26) (d := (some 137)) (v := ?v204x16) (l2 := tf27_31) rfl rfl rfl (by kernel_rfl) (by kernel_rfl) (by kernel_rfl) (by kernel_rfl) (fun _ _ _ h => h) (by rfl) ?hv204x16 hS1 ?h204x16
                   case hv204x16 => intro u hSu; clear hSu; go_simp; (try with_reducible rfl)
                   (try simp only [Act.put, List.setIfInBounds_toArray, List.set_cons_zero, List.set_cons_succ])
                   refine regN_takeC [29, 28] (i := 27) (d := (some 138)) (v := ?v204x17) (l2 := tf28_31) rfl rfl rfl (by kernel_rfl) (by kernel_rfl) (by kernel_rfl) (by kernel_rfl) (fun _ _ _ h => h) (by rfl) ?hv204x17 hS1 ?h204x17
                   case hv204x17 => intro u hSu; clear hSu; go_simp; (try with_reducible rfl)
                   (try simp only [Act.put, List.setIfInBounds_toArray, List.set_cons_zero, List.set_cons_succ])
                   refine regN_takeC [29] (i := 28) (d := (some 139)) (v := ?v204x18) (l2 := tf29_31) rfl rfl rfl (by kernel_rfl) (by kernel_rfl) (by kernel_rfl) (by kernel_rfl) (fun _ _ _ h => h) (by rfl) ?hv204x18 hS1 ?h204x18
                   case hv204x18 => intro u hSu; have s0 := (Below.block hSu _ yr).trans RB2.out; have s1 := (Below.block hSu _ yb).trans XB.out; obtain ⟨x0, x1, x2, x3, x4, x5⟩ := six_cells s0; obtain ⟨z0, z1⟩ := two_cells9 s1; have n0 := lt_heap s0; have n1 := lt_heap s1; (try rw [HLA.out] at x5); clear s0 s1; go_simp; (try with_reducible rfl)
                   (try simp only [Act.put, List.setIfInBounds_toArray, List.set_cons_zero, List.set_cons_succ])
                   refine regN_take (i := 29) (d := (some 140)) (v := ?v204x19) (l2 := tf30_31) rfl rfl rfl (by kernel_rfl) (by kernel_rfl) (by kernel_rfl) (by kernel_rfl) (fun _ _ _ h => h) (by rfl) ?hv204x19 hS1 ?h204x19
                   case hv204x19 => intro u hSu; clear hSu; go_simp; (try with_reducible rfl)
                   (try simp only [Act.put, List.setIfInBounds_toArray, List.set_cons_zero, List.set_cons_succ])
                   refine regN_ready (rs := [30]) (by kernel_rfl) (by simp) ?_
                   refine (AllN.cons (i := 30) (l2 := tf31_31) rfl rfl (fun K hK => ?_) AllN.nil)
                   go_simp
                   refine hK _ _ (fun h => absurd rfl h) ?_
                   clear hK K
                   (try simp only [Act.put, List.setIfInBounds_toArray, List.set_cons_zero, List.set_cons_succ])
                   refine regN_done (by kernel_rfl) ?_ _
                   go_wp2
                   exact ⟨⟨0 + 1, hlt, by go_num, ra_succ HALL.out HOKL.out, below_on HBR2.out HBN.out⟩, by simp [intOf]; omega⟩
               | succ q =>
                obtain ⟨p, hp⟩ := get_someF (l := ls) (k := q) (by rw [OKr.out.ll]; omega)
                obtain ⟨e0, _⟩ := HCELL.out q p hp
                replace e0 := (HCW.out ⟨g, o + q * 2, none⟩ hg).trans e0
                have HSM := Lib.hid (lnP_s (c := c) hm hp)
                have hw1 : IntKind.i64.wrap (q : Int) = (q : Int) := by simp [IntKind.wrap, IntKind.bits, IntKind.signed]; omega
                have hq0 : (0 : Int) ≤ (q : Int) := by omega
                have hq1 : (q : Int) < (c.ln : Int) := by omega
                have hgt : (0 : Int) < (q : Int) + 1 := by omega
                rw [Int.natCast_add, Int.natCast_one] at hj0 hj1 ⊢
                clear hm hp
                by_cases hle : m.1 ≤ p.1
                ·
                 have H := Lib.hid (cc_7 (k := q + 1) HE.out HAN.out HLS.out H32.out HAH.out HSMS.out HALL.out hlt (by rw [HSM.out, decide_eq_true hle]; rfl))
                 refine regN_start (N := 30) (S := (fun W' : World => Below W2.heap.size W2 W')) (by kernel_rfl) ?_
                 change wpAnyN _ _ _ _ _ _ _ tf0_31 _ (World.drew _)
                 have hS0 := (show (fun W' : World => Below W2.heap.size W2 W') W2.drew from (Below.refl _ _).drew)
                 refine regN_takeC [26, 21, 20, 14, 2, 1] (i := 0) (d := (some 111)) (v := ?v205x1) (l2 := tf1_31) rfl rfl rfl (by kernel_rfl) (by kernel_rfl) (by kernel_rfl) (by kernel_rfl) (fun _ _ _ h => h) (by rfl) ?hv205x1 hS0 ?h205x1
                 case hv205x1 => intro u hSu; clear hSu; go_simp; (try with_reducible rfl)
                 (try simp only [Act.put, List.setIfInBounds_toArray, List.set_cons_zero, List.set_cons_succ])
                 refine regN_takeC [26, 21, 20, 14, 2] (i := 1) (d := (some 112)) (v := ?v205x2) (l2 := tf2_31) rfl rfl rfl (by kernel_rfl) (by kernel_rfl) (by kernel_rfl) (by kernel_rfl) (fun _ _ _ h => h) (by rfl) ?hv205x2 hS0 ?h205x2
                 case hv205x2 => intro u hSu; clear hSu; go_simp; (try with_reducible rfl)
                 (try simp only [Act.put, List.setIfInBounds_toArray, List.set_cons_zero, List.set_cons_succ])
                 refine regN_takeC [26, 21, 20, 14] (i := 2) (d := (some 113)) (v := ?v205x3) (l2 := tf3_31) rfl rfl rfl (by kernel_rfl) (by kernel_rfl) (by kernel_rfl) (by kernel_rfl) (fun _ _ _ h => h) (by rfl) ?hv205x3 hS0 ?h205x3
                 case hv205x3 => intro u hSu; clear hSu; go_simp; (try with_reducible rfl)
                 (try simp only [Act.put, List.setIfInBounds_toArray, List.set_cons_zero, List.set_cons_succ])
                 refine regN_takeC [26, 21, 20, 14, 13, 12, 4] (i := 3) (d := (some 114)) (v := ?v205x4) (l2 := tf4_31) rfl rfl rfl (by kernel_rfl) (by kernel_rfl) (by kernel_rfl) (by kernel_rfl) (fun _ _ _ h => h) (by rfl) ?hv205x4 hS0 ?h205x4
                 case hv205x4 => intro u hSu; clear hSu; go_simp; (try with_reducible rfl)
                 (try simp only [Act.put, List.setIfInBounds_toArray, List.set_cons_zero, List.set_cons_succ])
                 refine regN_takeC [26, 21, 20, 14, 13, 12] (i := 4) (d := (some 115)) (v := ?v205x5) (l2 := tf5_31) rfl rfl rfl (by kernel_rfl) (by kernel_rfl) (by kernel_rfl) (by kernel_rfl) (fun _ _ _ h => h) (by rfl) ?hv205x5 hS0 ?h205x5
                 case hv205x5 => intro u hSu; have s0 := (Below.block hSu _ yr).trans RB2.out; have s1 := (Below.block hSu _ yb).trans XB.out; obtain ⟨x0, x1, x2, x3, x4, x5⟩ := six_cells s0; obtain ⟨z0, z1⟩ := two_cells9 s1; have n0 := lt_heap s0; have n1 := lt_heap s1; (try rw [HLA.out] at x5); have p0 := (Below.cell hSu (p := ⟨g, o + q * 2, none⟩) hgg).trans e0; clear s0 s1; go_simp; (try with_reducible rfl)
                 (try simp only [Act.put, List.setIfInBounds_toArray, List.set_cons_zero, List.set_cons_succ])
                 refine regN_takeC [26, 21, 20, 14, 13, 12, 11, 10, 9, 6] (i := 5) (d := (some 116)) (v := ?v205x6) (l2 := tf6_31) rfl rfl rfl (by kernel_rfl) (by kernel_rfl) (by kernel_rfl) (by kernel_rfl) (fun _ _ _ h => h) (by rfl) ?hv205x6 hS0 ?h205x6
                 case hv205x6 => intro u hSu; clear hSu; go_simp; (try with_reducible rfl)
                 (try simp only [Act.put, List.setIfInBounds_toArray, List.set_cons_zero, List.set_cons_succ])
                 refine regN_takeC [26, 21, 20, 14, 13, 12, 11, 10, 9] (i := 6) (d := (some 117)) (v := ?v205x7) (l2 := tf7_31) rfl rfl rfl (by kernel_rfl) (by kernel_rfl) (by kernel_rfl) (by kernel_rfl) (fun _ _ _ h => h) (by rfl) ?hv205x7 hS0 ?h205x7
                 case hv205x7 => intro u hSu; have s0 := (Below.block hSu _ yr).trans RB2.out; have s1 := (Below.block hSu _ yb).trans XB.out; obtain ⟨x0, x1, x2, x3, x4, x5⟩ := six_cells s0; obtain ⟨z0, z1⟩ := two_cells9 s1; have n0 := lt_heap s0; have n1 := lt_heap s1; (try rw [HLA.out] at x5); have p0 := (Below.cell hSu (p := ⟨g, o + q * 2, none⟩) hgg).trans e0; clear s0 s1; go_simp; (try with_reducible rfl)
                 (try simp only [Act.put, List.setIfInBounds_toArray, List.set_cons_zero, List.set_cons_succ])
                 refine regN_takeC [26, 21, 20, 14, 13, 12, 11, 10, 9, 8] (i := 7) (d := (some 118)) (v := ?v205x8) (l2 := tf8_31) rfl rfl rfl (by kernel_rfl) (by kernel_rfl) (by kernel_rfl) (by kernel_rfl) (fun _ _ _ h => h) (by rfl) ?hv205x8 hS0 ?h205x8
                 case hv205x8 => intro u hSu; clear hSu; go_simp; (try with_reducible rfl)
                 (try simp only [Act.put, List.setIfInBounds_toArray, List.set_cons_zero, List.set_cons_succ])
                 refine regN_takeC [26, 21, 20, 14, 13, 12, 11, 10, 9] (i := 8) (d := (some 119)) (v := ?v205x9) (l2 := tf9_31) rfl rfl rfl (by kernel_rfl) (by kernel_rfl) (by kernel_rfl) (by kernel_rfl) (fun _ _ _ h => h) (by rfl) ?hv205x9 hS0 ?h205x9
                 case hv205x9 => intro u hSu; clear hSu; go_simp; (try with_reducible rfl)
                 (try simp only [Act.put, List.setIfInBounds_toArray, List.set_cons_zero, List.set_cons_succ])
                 refine regN_takeC [26, 21, 20, 14, 13, 12, 11, 10] (i := 9) (d := (some 120)) (v := ?v205x10) (l2 := tf10_31) rfl rfl rfl (by kernel_rfl) (by kernel_rfl) (by kernel_rfl) (by kernel_rfl) (fun _ _ _ h => h) (by rfl) ?hv205x10 hS0 ?h205x10
                 case hv205x10 => intro u hSu; clear hSu; go_simp; (try with_reducible rfl)
                 (try simp only [Act.put, List.setIfInBounds_toArray, List.set_cons_zero, List.set_cons_succ])
                 refine regN_takeC [26, 21, 20, 14, 13, 12, 11] (i := 10) (d := (some 121)) (v := ?v205x11) (l2 := tf11_31) rfl rfl rfl (by kernel_rfl) (by kernel_rfl) (by kernel_rfl) (by kernel_rfl) (fun _ _ _ h => h) (by rfl) ?hv205x11 hS0 ?h205x11
                 case hv205x11 => intro u hSu; clear hSu; go_simp; (try with_reducible rfl)
                 (try simp only [Act.put, List.setIfInBounds_toArray, List.set_cons_zero, List.set_cons_succ])
                 refine regN_takeC [26, 21, 20, 14, 13, 12] (i := 11) (d := (some 122)) (v := ?v205x12) (l2 := tf12_31) rfl rfl rfl (by kernel_rfl) (by kernel_rfl) (by kernel_rfl) (by kernel_rfl) (fun _ _ _ h => h) (by rfl) ?hv205x12 hS0 ?h205x12
                 case hv205x12 => intro u hSu; have s0 := (Below.block hSu _ yr).trans RB2.out; have s1 := (Below.block hSu _ yb).trans XB.out; obtain ⟨x0, x1, x2, x3, x4, x5⟩ := six_cells s0; obtain ⟨z0, z1⟩ := two_cells9 s1; have n0 := lt_heap s0; have n1 := lt_heap s1; (try rw [HLA.out] at x5); have p0 := (Below.cell hSu (p := ⟨g, o + q * 2, none⟩) hgg).trans e0; clear s0 s1; go_simp; (try with_reducible rfl)
                 (try simp only [Act.put, List.setIfInBounds_toArray, List.set_cons_zero, List.set_cons_succ])
                 refine regN_takeC [26, 21, 20, 14, 13] (i := 12) (d := (some 123)) (v := ?v205x13) (l2 := tf13_31) rfl rfl rfl (by kernel_rfl) (by kernel_rfl) (by kernel_rfl) (by kernel_rfl) (fun _ _ _ h => h) (by rfl) ?hv205x13 hS0 ?h205x13
                 case hv205x13 => intro u hSu; clear hSu; go_simp; (try with_reducible rfl)
                 (try simp only [Act.put, List.setIfInBounds_toArray, List.set_cons_zero, List.set_cons_succ])
                 refine regN_takeC [26, 21, 20, 14] (i := 13) (d := (some 124)) (v := ?v205x14) (l2 := tf14_31) rfl rfl rfl (by kernel_rfl) (by kernel_rfl) (by kernel_rfl) (by kernel_rfl) (fun _ _ _ h => h) (by rfl) ?hv205x14 hS0 ?h205x14
                 case hv205x14 => intro u hSu; clear hSu; go_simp; (try with_reducible rfl)
                 (try simp only [Act.put, List.setIfInBounds_toArray, List.set_cons_zero, List.set_cons_succ])
                 refine regN_takeC [26, 21, 20] (i := 14) (d := (some 125)) (v := ?v205x15) (l2 := tf15_31) rfl rfl rfl (by kernel_rfl) (by kernel_rfl) (by kernel_rfl) (by kernel_rfl) (fun _ _ _ h => h) (by rfl) ?hv205x15 hS0 ?h205x15
                 case hv205x15 => intro u hSu; clear hSu; go_simp; (try with_reducible rfl)
                 (try simp only [Act.put, List.setIfInBounds_toArray, List.set_cons_zero, List.set_cons_succ])
                 refine regN_skipC [26, 21, 18] (i := 15) (d := (some 126)) (l2 := tf16_31) rfl rfl rfl (by kernel_rfl) (by kernel_rfl) (by kernel_rfl) (by kernel_rfl) (fun _ _ _ h => h) (by rfl) hS0 ?_
                 (try simp only [Act.put, List.setIfInBounds_toArray, List.set_cons_zero, List.set_cons_succ])
                 refine regN_skipC [26, 21, 18, 17] (i := 16) (d := (some 127)) (l2 := tf17_31) rfl rfl rfl (by kernel_rfl) (by kernel_rfl) (by kernel_rfl) (by kernel_rfl) (fun _ _ _ h => h) (by rfl) hS0 ?_
                 (try simp only [Act.put, List.setIfInBounds_toArray, List.set_cons_zero, List.set_cons_succ])
                 refine regN_skipC [26, 21, 18] (i := 17) (d := (some 128)) (l2 := tf18_31) rfl rfl rfl (by kernel_rfl) (by kernel_rfl) (by kernel_rfl) (by kernel_rfl) (fun _ _ _ h => h) (by rfl) hS0 ?_
                 (try simp only [Act.put, List.setIfInBounds_toArray, List.set_cons_zero, List.set_cons_succ])
                 refine regN_skipC [26, 21] (i := 18) (d := (some 129)) (l2 := tf19_31) rfl rfl rfl (by kernel_rfl) (by kernel_rfl) (by kernel_rfl) (by kernel_rfl) (fun _ _ _ h => h) (by rfl) hS0 ?_
                 (try simp only [Act.put, List.setIfInBounds_toArray, List.set_cons_zero, List.set_cons_succ])
                 refine regN_skipC [26, 21, 20] (i := 19) (d := (some 130)) (l2 := tf20_31) rfl rfl rfl (by kernel_rfl) (by kernel_rfl) (by kernel_rfl) (by kernel_rfl) (fun _ _ _ h => h) (by rfl) hS0 ?_
                 (try simp only [Act.put, List.setIfInBounds_toArray, List.set_cons_zero, List.set_cons_succ])
                 refine regN_takeC [26, 21] (i := 20) (d := (some 131)) (v := ?v205x16) (l2 := tf21_31) rfl rfl rfl (by kernel_rfl) (by kernel_rfl) (by kernel_rfl) (by kernel_rfl) (fun _ _ _ h => h) (by rfl) ?hv205x16 hS0 ?h205x16
                 case hv205x16 => intro u hSu; clear hSu; go_simp; (try with_reducible rfl)
                 (try simp only [Act.put, List.setIfInBounds_toArray, List.set_cons_zero, List.set_cons_succ])
                 refine regN_takeC [26] (i := 21) (d := (some 132)) (v := ?v205x17) (l2 := tf22_31) rfl rfl rfl (by kernel_rfl) (by kernel_rfl) (by kernel_rfl) (by kernel_rfl) (fun _ _ _ h => h) (by rfl) ?hv205x17 hS0 ?h205x17
                 case hv205x17 => intro u hSu; clear hSu; go_simp; (try with_reducible rfl)
                 (try simp only [Act.put, List.setIfInBounds_toArray, List.set_cons_zero, List.set_cons_succ])
                 refine regN_skipC [26, 25, 24, 23] (i := 22) (d := (some 133)) (l2 := tf23_31) rfl rfl rfl (by kernel_rfl) (by kernel_rfl) (by kernel_rfl) (by kernel_rfl) (fun _ _ _ h => h) (by rfl) hS0 ?_
                 (try simp only [Act.put, List.setIfInBounds_toArray, List.set_cons_zero, List.set_cons_succ])
                 refine regN_skipC [26, 25, 24] (i := 23) (d := (some 134)) (l2 := tf24_31) rfl rfl rfl (by kernel_rfl) (by kernel_rfl) (by kernel_rfl) (by kernel_rfl) (fun _ _ _ h => h) (by rfl) hS0 ?_
                 (try simp only [Act.put, List.setIfInBounds_toArray, List.set_cons_zero, List.set_cons_succ])
                 refine regN_skipC [26, 25] (i := 24) (d := (some 135)) (l2 := tf25_31) rfl rfl rfl (by kernel_rfl) (by kernel_rfl) (by kernel_rfl) (by kernel_rfl) (fun _ _ _ h => h) (by rfl) hS0 ?_
                 (try simp only [Act.put, List.setIfInBounds_toArray, List.set_cons_zero, List.set_cons_succ])
                 refine regN_takeC [26] (i := 25) (d := (some 136)) (v := ?v205x18) (l2 := tf26_31) rfl rfl rfl (by kernel_rfl) (by kernel_rfl) (by kernel_rfl) (by kernel_rfl) (fun _ _ _ h => h) (by rfl) ?hv205x18 hS0 ?h205x18
                 case hv205x18 => intro u hSu; clear hSu; go_simp; (try with_reducible rfl)
                 (try simp only [Act.put, List.setIfInBounds_toArray, List.set_cons_zero, List.set_cons_succ])
                 refine regN_take (i := 26) (d := (some 137)) (v := ?v205x19) (l2 := tf27_31) rfl rfl rfl (by kernel_rfl) (by kernel_rfl) (by kernel_rfl) (by kernel_rfl) (fun _ _ _ h => h) (by rfl) ?hv205x19 hS0 ?h205x19
                 case hv205x19 => intro u hSu; clear hSu; go_simp; (try with_reducible rfl)
                 (try simp only [Act.put, List.setIfInBounds_toArray, List.set_cons_zero, List.set_cons_succ])
                 refine regN_skipC [29, 28] (i := 27) (d := (some 138)) (l2 := tf28_31) rfl rfl rfl (by kernel_rfl) (by kernel_rfl) (by kernel_rfl) (by kernel_rfl) (fun _ _ _ h => h) (by rfl) hS0 ?_
                 (try simp only [Act.put, List.setIfInBounds_toArray, List.set_cons_zero, List.set_cons_succ])
                 refine regN_skipC [29] (i := 28) (d := (some 139)) (l2 := tf29_31) rfl rfl rfl (by kernel_rfl) (by kernel_rfl) (by kernel_rfl) (by kernel_rfl) (fun _ _ _ h => h) (by rfl) hS0 ?_
                 (try simp only [Act.put, List.setIfInBounds_toArray, List.set_cons_zero, List.set_cons_succ])
                 refine regN_skip (i := 29) (d := (some 140)) (l2 := tf30_31) rfl rfl rfl (by kernel_rfl) (by kernel_rfl) (by kernel_rfl) (by kernel_rfl) (fun _ _ _ h => h) (by rfl) hS0 ?_
                 (try simp only [Act.put, List.setIfInBounds_toArray, List.set_cons_zero, List.set_cons_succ])
                 refine regN_ready (rs := [30]) (by kernel_rfl) (by simp) ?_
                 refine (AllN.cons (i := 30) (l2 := tf31_31) rfl rfl (fun K hK => ?_) AllN.nil)
                 go_simp
                 refine hK _ _ (fun h => absurd rfl h) ?_
                 clear hK K
                 (try simp only [Act.put, List.setIfInBounds_toArray, List.set_cons_zero, List.set_cons_succ])
                 refine regN_done (by kernel_rfl) ?_ _
                 go_wp2
                 go_ret2
                 obtain ⟨q1, q2⟩ := pq9 HR.out H.out
                 exact ⟨by rw [q1, q2]; rfl, below_on HB5.out HBR2.out.drew⟩
                ·
                 cases hex : exB c.n m.1 with
                 | false =>
                  have HEX := Lib.hid hex
                  have H := Lib.hid (cc_7 (k := (q + 1)) HE.out HAN.out HLS.out H32.out HAH.out HSMS.out HALL.out hlt (by rw [HSM.out, decide_eq_false hle]; rw [hex]; rfl))
                  clear hex
                  refine regN_start (N := 30) (S := (fun W' : World => Below W2.heap.size W2 W')) (by kernel_rfl) ?_
                  change wpAnyN _ _ _ _ _ _ _ tf0_31 _ (World.drew _)
                  have hS0 := (show (fun W' : World => Below W2.heap.size W2 W') W2.drew from (Below.refl _ _).drew)
                  refine regN_takeC [26, 21, 20, 14, 2, 1] (i := 0) (d := (some 111)) (v := ?v206x1) (l2 := tf1_31) rfl rfl rfl (by kernel_rfl) (by kernel_rfl) (by kernel_rfl) (by kernel_rfl) (fun _ _ _ h => h) (by rfl) ?hv206x1 hS0 ?h206x1
                  case hv206x1 => intro u hSu; clear hSu; go_simp; (try with_reducible rfl)
                  (try simp only [Act.put, List.setIfInBounds_toArray, List.set_cons_zero, List.set_cons_succ])
                  refine regN_takeC [26, 21, 20, 14, 2] (i := 1) (d := (some 112)) (v := ?v206x2) (l2 := tf2_31) rfl rfl rfl (by kernel_rfl) (by kernel_rfl) (by kernel_rfl) (by kernel_rfl) (fun _ _ _ h => h) (by rfl) ?hv206x2 hS0 ?h206x2
                  case hv206x2 => intro u hSu; clear hSu; go_simp; (try with_reducible rfl)
                  (try simp only [Act.put, List.setIfInBounds_toArray, List.set_cons_zero, List.set_cons_succ])
                  refine regN_takeC [26, 21, 20, 14] (i := 2) (d := (some 113)) (v := ?v206x3) (l2 := tf3_31) rfl rfl rfl (by kernel_rfl) (by kernel_rfl) (by kernel_rfl) (by kernel_rfl) (fun _ _ _ h => h) (by rfl) ?hv206x3 hS0 ?h206x3
                  case hv206x3 => intro u hSu; clear hSu; go_simp; (try with_reducible rfl)
                  (try simp only [Act.put, List.setIfInBounds_toArray, List.set_cons_zero, List.set_cons_succ])
                  refine regN_takeC [26, 21, 20, 14, 13, 12, 4] (i := 3) (d := (some 114)) (v := ?v206x4) (l2 := tf4_31) rfl rfl rfl (by kernel_rfl) (by kernel_rfl) (by kernel_rfl) (by kernel_rfl) (fun _ _ _ h => h) (by rfl) ?hv206x4 hS0 ?h206x4
                  case hv206x4 => intro u hSu; clear hSu; go_simp; (try with_reducible rfl)
                  (try simp only [Act.put, List.setIfInBounds_toArray, List.set_cons_zero, List.set_cons_succ])
                  refine regN_takeC [26, 21, 20, 14, 13, 12] (i := 4) (d := (some 115)) (v := ?v206x5) (l2 := tf5_31) rfl rfl rfl (by kernel_rfl) (by kernel_rfl) (by kernel_rfl) (by kernel_rfl) (fun _ _ _ h => h) (by rfl) ?hv206x5 hS0 ?h206x5
                  case hv206x5 => intro u hSu; have s0 := (Below.block hSu _ yr).trans RB2.out; have s1 := (Below.block hSu _ yb).trans XB.out; obtain ⟨x0, x1, x2, x3, x4, x5⟩ := six_cells s0; obtain ⟨z0, z1⟩ := two_cells9 s1; have n0 := lt_heap s0; have n1 := lt_heap s1; (try rw [HLA.out] at x5); have p0 := (Below.cell hSu (p := ⟨g, o + q * 2, none⟩) hgg).trans e0; clear s0 s1; go_simp; (try with_reducible rfl)
                  (try simp only [Act.put, List.setIfInBounds_toArray, List.set_cons_zero, List.set_cons_succ])
                  refine regN_takeC [26, 21, 20, 14, 13, 12, 11, 10, 9, 6] (i := 5) (d := (some 116)) (v := ?v206x6) (l2 := tf6_31) rfl rfl rfl (by kernel_rfl) (by kernel_rfl) (by kernel_rfl) (by kernel_rfl) (fun _ _ _ h => h) (by rfl) ?hv206x6 hS0 ?h206x6
                  case hv206x6 => intro u hSu; clear hSu; go_simp; (try with_reducible rfl)
                  (try simp only [Act.put, List.setIfInBounds_toArray, List.set_cons_zero, List.set_cons_succ])
                  refine regN_takeC [26, 21, 20, 14, 13, 12, 11, 10, 9] (i := 6) (d := (some 117)) (v := ?v206x7) (l2 := tf7_31) rfl rfl rfl (by kernel_rfl) (by kernel_rfl) (by kernel_rfl) (by kernel_rfl) (fun _ _ _ h => h) (by rfl) ?hv206x7 hS0 ?h206x7
                  case hv206x7 => intro u hSu; have s0 := (Below.block hSu _ yr).trans RB2.out; have s1 := (Below.block hSu _ yb).trans XB.out; obtain ⟨x0, x1, x2, x3, x4, x5⟩ := six_cells s0; obtain ⟨z0, z1⟩ := two_cells9 s1; have n0 := lt_heap s0; have n1 := lt_heap s1; (try rw [HLA.out] at x5); have p0 := (Below.cell hSu (p := ⟨g, o + q * 2, none⟩) hgg).trans e0; clear s0 s1; go_simp; (try with_reducible rfl)
                  (try simp only [Act.put, List.setIfInBounds_toArray, List.set_cons_zero, List.set_cons_succ])
                  refine regN_takeC [26, 21, 20, 14, 13, 12, 11, 10, 9, 8] (i := 7) (d := (some 118)) (v := ?v206x8) (l2 := tf8_31) rfl rfl rfl (by kernel_rfl) (by kernel_rfl) (by kernel_rfl) (by kernel_rfl) (fun _ _ _ h => h) (by rfl) ?hv206x8 hS0 ?h206x8
                  case hv206x8 => intro u hSu; clear hSu; go_simp; (try with_reducible rfl)
                  (try simp only [Act.put, List.setIfInBounds_toArray, List.set_cons_zero, List.set_cons_succ])
                  refine regN_takeC [26, 21, 20, 14, 13, 12, 11, 10, 9] (i := 8) (d := (some 119)) (v := ?v206x9) (l2 := tf9_31) rfl rfl rfl (by kernel_rfl) (by kernel_rfl) (by kernel_rfl) (by kernel_rfl) (fun _ _ _ h => h) (by rfl) ?hv206x9 hS0 ?h206x9
                  case hv206x9 => intro u hSu; clear hSu; go_simp; (try with_reducible rfl)
                  (try simp only [Act.put, List.setIfInBounds_toArray, List.set_cons_zero, List.set_cons_succ])
                  refine regN_takeC [26, 21, 20, 14, 13, 12, 11, 10] (i := 9) (d := (some 120)) (v := ?v206x10) (l2 := tf10_31) rfl rfl rfl (by kernel_rfl) (by kernel_rfl) (by kernel_rfl) (by kernel_rfl) (fun _ _ _ h => h) (by rfl) ?hv206x10 hS0 ?h206x10
                  case hv206x10 => intro u hSu; clear hSu; go_simp; (try with_reducible rfl)
                  (try simp only [Act.put, List.setIfInBounds_toArray, List.set_cons_zero, List.set_cons_succ])
                  refine regN_takeC [26, 21, 20, 14, 13, 12, 11] (i := 10) (d := (some 121)) (v := ?v206x11) (l2 := tf11_31) rfl rfl rfl (by kernel_rfl) (by kernel_rfl) (by kernel_rfl) (by kernel_rfl) (fun _ _ _ h => h) (by rfl) ?hv206x11 hS0 ?h206x11
                  case hv206x11 => intro u hSu; clear hSu; go_simp; (try with_reducible rfl)
                  (try simp only [Act.put, List.setIfInBounds_toArray, List.set_cons_zero, List.set_cons_succ])
                  refine regN_takeC [26, 21, 20, 14, 13, 12] (i := 11) (d := (some 122)) (v := ?v206x12) (l2 := tf12_31) rfl rfl rfl (by kernel_rfl) (by kernel_rfl) (by kernel_rfl) (by kernel_rfl) (fun _ _ _ h => h) (by rfl) ?hv206x12 hS0 ?h206x12
                  case hv206x12 => intro u hSu; have s0 := (Below.block hSu _ yr).trans RB2.out; have s1 := (Below.block hSu _ yb).trans XB.out; obtain ⟨x0, x1, x2, x3, x4, x5⟩ := six_cells s0; obtain ⟨z0, z1⟩ := two_cells9 s1; have n0 := lt_heap s0; have n1 := lt_heap s1; (try rw [HLA.out] at x5); have p0 := (Below.cell hSu (p := ⟨g, o + q * 2, none⟩) hgg).trans e0; clear s0 s1; go_simp; (try with_reducible rfl)
                  (try simp only [Act.put, List.setIfInBounds_toArray, List.set_cons_zero, List.set_cons_succ])
                  refine regN_takeC [26, 21, 20, 14, 13] (i := 12) (d := (some 123)) (v := ?v206x13) (l2 := tf13_31) rfl rfl rfl (by kernel_rfl) (by kernel_rfl) (by kernel_rfl) (by kernel_rfl) (fun _ _ _ h => h) (by rfl) ?hv206x13 hS0 ?h206x13
                  case hv206x13 => intro u hSu; clear hSu; go_simp; (try with_reducible rfl)
                  (try simp only [Act.put, List.setIfInBounds_toArray, List.set_cons_zero, List.set_cons_succ])
                  refine regN_takeC [26, 21, 20, 14] (i := 13) (d := (some 124)) (v := ?v206x14) (l2 := tf14_31) rfl rfl rfl (by kernel_rfl) (by kernel_rfl) (by kernel_rfl) (by kernel_rfl) (fun _ _ _ h => h) (by rfl) ?hv206x14 hS0 ?h206x14
                  case hv206x14 => intro u hSu; clear hSu; go_simp; (try with_reducible rfl)
                  (try simp only [Act.put, List.setIfInBounds_toArray, List.set_cons_zero, List.set_cons_succ])
                  refine regN_takeC [26, 21, 20] (i := 14) (d := (some 125)) (v := ?v206x15) (l2 := tf15_31) rfl rfl rfl (by kernel_rfl) (by kernel_rfl) (by kernel_rfl) (by kernel_rfl) (fun _ _ _ h => h) (by rfl) ?hv206x15 hS0 ?h206x15
                  case hv206x15 => intro u hSu; clear hSu; go_simp; (try with_reducible rfl)
                  (try simp only [Act.put, List.setIfInBounds_toArray, List.set_cons_zero, List.set_cons_succ])
                  refine regN_takeC [26, 21, 18] (i := 15) (d := (some 126)) (v := ?v206x16) (l2 := tf16_31) rfl rfl rfl (by kernel_rfl) (by kernel_rfl) (by kernel_rfl) (by kernel_rfl) (fun _ _ _ h => h) (by rfl) ?hv206x16 hS0 ?h206x16
                  case hv206x16 => intro u hSu; have s0 := (Below.block hSu _ yr).trans RB2.out; have s1 := (Below.block hSu _ yb).trans XB.out; obtain ⟨x0, x1, x2, x3, x4, x5⟩ := six_cells s0; obtain ⟨z0, z1⟩ := two_cells9 s1; have n0 := lt_heap s0; have n1 := lt_heap s1; (try rw [HLA.out] at x5); have p0 := (Below.cell hSu (p := ⟨g, o + q * 2, none⟩) hgg).trans e0; clear s0 s1; go_simp; (try with_reducible rfl)
                  (try simp only [Act.put, List.setIfInBounds_toArray, List.set_cons_zero, List.set_cons_succ])
                  refine regN_takeC [26, 21, 18, 17] (i := 16) (d := (some 127)) (v := ?v206x17) (l2 := tf17_31) rfl rfl rfl (by kernel_rfl) (by kernel_rfl) (by kernel_rfl) (by kernel_rfl) (fun _ _ _ h => h) (by rfl) ?hv206x17 hS0 ?h206x17
                  case hv206x17 => intro u hSu; clear hSu; go_simp; (try with_reducible rfl)
                  (try simp only [Act.put, List.setIfInBounds_toArray, List.set_cons_zero, List.set_cons_succ])
                  refine regN_takeC [26, 21, 18] (i := 17) (d := (some 128)) (v := ?v206x18) (l2 := tf18_31) rfl rfl rfl (by kernel_rfl) (by kernel_rfl) (by kernel_rfl) (by kernel_rfl) (fun _ _ _ h => h) (by rfl) ?hv206x18 hS0 ?h206x18
                  case hv206x18 => intro u hSu; have s0 := (Below.block hSu _ yr).trans RB2.out; have s1 := (Below.block hSu _ yb).trans XB.out; obtain ⟨x0, x1, x2, x3, x4, x5⟩ := six_cells s0; obtain ⟨z0, z1⟩ := two_cells9 s1; have n0 := lt_heap s0; have n1 := lt_heap s1; (try rw [HLA.out] at x5); have p0 := (Below.cell hSu (p := ⟨g, o + q * 2, none⟩) hgg).trans e0; clear s0 s1; go_simp; (try with_reducible rfl)
                  (try simp only [Act.put, List.setIfInBounds_toArray, List.set_cons_zero, List.set_cons_succ])
                  refine regN_ready (rs := [18]) (by kernel_rfl) (by simp) ?_
                  refine (AllN.cons (i := 18) (l2 := tf19_31) rfl rfl (fun K hK => ?_) AllN.nil)
                  go_simp
                  go_at_call 28
                  (with_reducible refine (cex_gen _ _).mono ?_)
                  rintro e w10 ⟨rfl, hb10⟩
                  rw [HEX.out]
                  have HBN := Lib.hid (below_on (show Below W2.heap.size W2 _ from (Below.refl _ _).drew) hb10)
                  clear hb10
                  go_simp
                  have hS1 : ((fun W' : World => Below W2.heap.size W2 W') : World → Prop) _ := (show (fun W' : World => Below W2.heap.size W2 W') _ from HBN.out)
                  refine hK _ _ (fun _ => hS1) ?_
                  clear hK K
                  (try simp only [Act.put, List.setIfInBounds_toArray, List.set_cons_zero, List.set_cons_succ])
                  refine regN_takeC [26, 21, 20] (i := 19) (d := (some 130)) (v := ?v206x19) (l2 := tf20_31) rfl rfl rfl (by kernel_rfl) (by kernel_rfl) (by kernel_rfl) (by kernel_rfl) (fun _ _ _ h => h) (by rfl) ?hv206x19 hS1 ?h206x19
                  case hv206x19 => intro u hSu; clear hSu; go_simp; (try with_reducible rfl)
                  (try simp only [Act.put, List.setIfInBounds_toArray, List.set_cons_zero, List.set_cons_succ])
                  refine regN_takeC [26, 21] (i := 20) (d := (some 131)) (v := ?v206x20) (l2 := tf21_31) rfl rfl rfl (by kernel_rfl) (by kernel_rfl) (by kernel_rfl) (by kernel_rfl) (fun _ _ _ h => h) (by rfl) ?hv206x20 hS1 ?h206x20
                  case hv206x20 => intro u hSu; clear hSu; go_simp; (try with_reducible rfl)
                  (try simp only [Act.put, List.setIfInBounds_toArray, List.set_cons_zero, List.set_cons_succ])
                  refine regN_takeC [26] (i := 21) (d := (some 132)) (v := ?v206x21) (l2 := tf22_31) rfl rfl rfl (by kernel_rfl) (by kernel_rfl) (by kernel_rfl) (by kernel_rfl) (fun _ _ _ h => h) (by rfl) ?hv206x21 hS1 ?h206x21
                  case hv206x21 => intro u hSu; clear hSu; go_simp; (try with_reducible rfl)
                  (try simp only [Act.put, List.setIfInBounds_toArray, List.set_cons_zero, List.set_cons_succ])
                  refine regN_skipC [26, 25, 24, 23] (i := 22) (d := (some 133)) (l2 := tf23_31) rfl rfl rfl (by kernel_rfl) (by kernel_rfl) (by kernel_rfl) (by kernel_rfl) (fun _ _ _ h => h) (by rfl) hS1 ?_
                  (try simp only [Act.put, List.setIfInBounds_toArray, List.set_cons_zero, List.set_cons_succ])
                  refine regN_skipC [26, 25, 24] (i := 23) (d := (some 134)) (l2 := tf24_31) rfl rfl rfl (by kernel_rfl) (by kernel_rfl) (by kernel_rfl) (by kernel_rfl) (fun _ _ _ h => h) (by rfl) hS1 ?_
                  (try simp only [Act.put, List.setIfInBounds_toArray, List.set_cons_zero, List.set_cons_succ])
                  refine regN_skipC [26, 25] (i := 24) (d := (some 135)) (l2 := tf25_31) rfl rfl rfl (by kernel_rfl) (by kernel_rfl) (by kernel_rfl) (by kernel_rfl) (fun _ _ _ h => h) (by rfl) hS1 ?_
                  (try simp only [Act.put, List.setIfInBounds_toArray, List.set_cons_zero, List.set_cons_succ])
                  refine regN_takeC [26] (i := 25) (d := (some 136)) (v := ?v206x22) (l2 := tf26_31) rfl rfl rfl (by kernel_rfl) (by kernel_rfl) (by kernel_rfl) (by kernel_rfl) (fun _ _ _ h => h) (by rfl) ?hv206x22 hS1 ?h206x22
                  case hv206x22 => intro u hSu; clear hSu; go_simp; (try with_reducible rfl)
                  (try simp only [Act.put, List.setIfInBounds_toArray, List.set_cons_zero, List.set_cons_succ])
                  refine regN_take (i := 26) (d := (some 137)) (v := ?v206x23) (l2 := tf27_31) rfl rfl rfl (by kernel_rfl) (by kernel_rfl) (by kernel_rfl) (by kernel_rfl) (fun _ _ _ h => h) (by rfl) ?hv206x23 hS1 ?h206x23
                  case hv206x23 => intro u hSu; clear hSu; go_simp; (try with_reducible rfl)
                  (try simp only [Act.put, List.setIfInBounds_toArray, List.set_cons_zero, List.set_cons_succ])
                  refine regN_skipC [29, 28] (i := 27) (d := (some 138)) (l2 := tf28_31) rfl rfl rfl (by kernel_rfl) (by kernel_rfl) (by kernel_rfl) (by kernel_rfl) (fun _ _ _ h => h) (by rfl) hS1 ?_
                  (try simp only [Act.put, List.setIfInBounds_toArray, List.set_cons_zero, List.set_cons_succ])
                  refine regN_skipC [29] (i := 28) (d := (some 139)) (l2 := tf29_31) rfl rfl rfl (by kernel_rfl) (by kernel_rfl) (by kernel_rfl) (by kernel_rfl) (fun _ _ _ h => h) (by rfl) hS1 ?_
                  (try simp only [Act.put, List.setIfInBounds_toArray, List.set_cons_zero, List.set_cons_succ])
                  refine regN_skip (i := 29) (d := (some 140)) (l2 := tf30_31) rfl rfl rfl (by kernel_rfl) (by kernel_rfl) (by kernel_rfl) (by kernel_rfl) (fun _ _ _ h => h) (by rfl) hS1 ?_
                  (try simp only [Act.put, List.setIfInBounds_toArray, List.set_cons_zero, List.set_cons_succ])
                  refine regN_ready (rs := [30]) (by kernel_rfl) (by simp) ?_
                  refine (AllN.cons (i := 30) (l2 := tf31_31) rfl rfl (fun K hK => ?_) AllN.nil)
                  go_simp
                  refine hK _ _ (fun h => absurd rfl h) ?_
                  clear hK K
                  (try simp only [Act.put, List.setIfInBounds_toArray, List.set_cons_zero, List.set_cons_succ])
                  refine regN_done (by kernel_rfl) ?_ _
                  go_wp2
                  go_ret2
                  obtain ⟨q1, q2⟩ := pq9 HR.out H.out
                  exact ⟨by rw [q1, q2]; rfl, below_on HB5.out (below_on HBR2.out HBN.out)⟩
                 | true =>
                  have HEX := Lib.hid hex
                  by_cases hl0 : m.2 < 0
                  ·
                   have H := Lib.hid (cc_7 (k := (q + 1)) HE.out HAN.out HLS.out H32.out HAH.out HSMS.out HALL.out hlt (by rw [HSM.out, decide_eq_false hle]; rw [hex, decide_eq_true hl0]; rfl))
                   clear hex
                   refine regN_start (N := 30) (S := (fun W' : World => Below W2.heap.size W2 W')) (by kernel_rfl) ?_
                   change wpAnyN _ _ _ _ _ _ _ tf0_31 _ (World.drew _)
                   have hS0 := (show (fun W' : World => Below W2.heap.size W2 W') W2.drew from (Below.refl _ _).drew)
                   refine regN_takeC [26, 21, 20, 14, 2, 1] (i := 0) (d := (some 111)) (v := ?v207x1) (l2 := tf1_31) rfl rfl rfl (by kernel_rfl) (by kernel_rfl) (by kernel_rfl) (by kernel_rfl) (fun _ _ _ h => h) (by rfl) ?hv207x1 hS0 ?h207x1
                   case hv207x1 => intro u hSu; clear hSu; go_simp; (try with_reducible rfl)
                   (try simp only [Act.put, List.setIfInBounds_toArray, List.set_cons_zero, List.set_cons_succ])
                   refine regN_takeC [26, 21, 20, 14, 2] (i := 1) (d := (some 112)) (v := ?v207x2) (l2 := tf2_31) rfl rfl rfl (by kernel_rfl) (by kernel_rfl) (by kernel_rfl) (by kernel_rfl) (fun _ _ _ h => h) (by rfl) ?hv207x2 hS0 ?h207x2
                   case hv207x2 => intro u hSu; clear hSu; go_simp; (try with_reducible rfl)
                   (try simp only [Act.put, List.setIfInBounds_toArray, List.set_cons_zero, List.set_cons_succ])
                   refine regN_takeC [26, 21, 20, 14] (i := 2) (d := (some 113)) (v := ?v207x3) (l2 := tf3_31) rfl rfl rfl (by kernel_rfl) (by kernel_rfl) (by kernel_rfl) (by kernel_rfl) (fun _ _ _ h => h) (by rfl) ?hv207x3 hS0 ?h207x3
                   case hv207x3 => intro u hSu; clear hSu; go_simp; (try with_reducible rfl)
                   (try simp only [Act.put, List.setIfInBounds_toArray, List.set_cons_zero, List.set_cons_succ])
                   refine regN_takeC [26, 21, 20, 14, 13, 12, 4] (i := 3) (d := (some 114)) (v := ?v207x4) (l2 := tf4_31) rfl rfl rfl (by kernel_rfl) (by kernel_rfl) (by kernel_rfl) (by kernel_rfl) (fun _ _ _ h => h) (by rfl) ?hv207x4 hS0 ?h207x4
                   case hv207x4 => intro u hSu; clear hSu; go_simp; (try with_reducible rfl)
                   (try simp only [Act.put, List.setIfInBounds_toArray, List.set_cons_zero, List.set_cons_succ])
                   refine regN_takeC [26, 21, 20, 14, 13, 12] (i := 4) (d := (some 115)) (v := ?v207x5) (l2 := tf5_31) rfl rfl rfl (by kernel_rfl) (by kernel_rfl) (by kernel_rfl) (by kernel_rfl) (fun _ _ _ h => h) (by rfl) ?hv207x5 hS0 ?h207x5
                   case hv207x5 => intro u hSu; have s0 := (Below.block hSu _ yr).trans RB2.out; have s1 := (Below.block hSu _ yb).trans XB.out; obtain ⟨x0, x1, x2, x3, x4, x5⟩ := six_cells s0; obtain ⟨z0, z1⟩ := two_cells9 s1; have n0 := lt_heap s0; have n1 := lt_heap s1; (try rw [HLA.out] at x5); have p0 := (Below.cell hSu (p := ⟨g, o + q * 2, none⟩) hgg).trans e0; clear s0 s1; go_simp; (try with_reducible rfl)
                   (try simp only [Act.put, List.setIfInBounds_toArray, List.set_cons_zero, List.set_cons_succ])
                   refine regN_takeC [26, 21, 20, 14, 13, 12, 11, 10, 9, 6] (i := 5) (d := (some 116)) (v := ?v207x6) (l2 := tf6_31) rfl rfl rfl (by kernel_rfl) (by kernel_rfl) (by kernel_rfl) (by kernel_rfl) (fun _ _ _ h => h) (by rfl) ?hv207x6 hS0 ?h207x6
                   case hv207x6 => intro u hSu; clear hSu; go_simp; (try with_reducible rfl)
                   (try simp only [Act.put, List.setIfInBounds_toArray, List.set_cons_zero, List.set_cons_succ])
                   refine regN_takeC [26, 21, 20, 14, 13, 12, 11, 10, 9] (i := 6) (d := (some 117)) (v := ?v207x7) (l2 := tf7_31) rfl rfl rfl (by kernel_rfl) (by kernel_rfl) (by kernel_rfl) (by kernel_rfl) (fun _ _ _ h => h) (by rfl) ?hv207x7 hS0 ?h207x7
                   case hv207x7 => intro u hSu; have s0 := (Below.block hSu _ yr).trans RB2.out; have s1 := (Below.block hSu _ yb).trans XB.out; obtain ⟨x0, x1, x2, x3, x4, x5⟩ := six_cells s0; obtain ⟨z0, z1⟩ := two_cells9 s1; have n0 := lt_heap s0; have n1 := lt_heap s1; (try rw [HLA.out] at x5); have p0 := (Below.cell hSu (p := ⟨g, o + q * 2, none⟩) hgg).trans e0; clear s0 s1; go_simp; (try with_reducible rfl)
                   (try simp only [Act.put, List.setIfInBounds_toArray, List.set_cons_zero, List.set_cons_succ])
                   refine regN_takeC [26, 21, 20, 14, 13, 12, 11, 10, 9, 8] (i := 7) (d := (some 118)) (v := ?v207x8) (l2 := tf8_31) rfl rfl rfl (by kernel_rfl) (by kernel_rfl) (by kernel_rfl) (by kernel_rfl) (fun _ _ _ h => h) (by rfl) ?hv207x8 hS0 ?h207x8
                   case hv207x8 => intro u hSu; clear hSu; go_simp; (try with_reducible rfl)
                   (try simp only [Act.put, List.setIfInBounds_toArray, List.set_cons_zero, List.set_cons_succ])
                   refine regN_takeC [26, 21, 20, 14, 13, 12, 11, 10, 9] (i := 8) (d := (some 119)) (v := ?v207x9) (l2 := tf9_31) rfl rfl rfl (by kernel_rfl) (by kernel_rfl) (by kernel_rfl) (by kernel_rfl) (fun _ _ _ h => h) (by rfl) ?hv207x9 hS0 ?h207x9
                   case hv207x9 => intro u hSu; clear hSu; go_simp; (try with_reducible rfl)
                   (try simp only [Act.put, List.setIfInBounds_toArray, List.set_cons_zero, List.set_cons_succ])
                   refine regN_takeC [26, 21, 20, 14, 13, 12, 11, 10] (i := 9) (d := (some 120)) (v := ?v207x10) (l2 := tf10_31) rfl rfl rfl (by kernel_rfl) (by kernel_rfl) (by kernel_rfl) (by kernel_rfl) (fun _ _ _ h => h) (by rfl) ?hv207x10 hS0 ?h207x10
                   case hv207x10 => intro u hSu; clear hSu; go_simp; (try with_reducible rfl)
                   (try simp only [Act.put, List.setIfInBounds_toArray, List.set_cons_zero, List.set_cons_succ])
                   refine regN_takeC [26, 21, 20, 14, 13, 12, 11] (i := 10) (d := (some 121)) (v := ?v207x11) (l2 := tf11_31) rfl rfl rfl (by kernel_rfl) (by kernel_rfl) (by kernel_rfl) (by kernel_rfl) (fun _ _ _ h => h) (by rfl) ?hv207x11 hS0 ?h207x11
                   case hv207x11 => intro u hSu; clear hSu; go_simp; (try with_reducible rfl)
                   (try simp only [Act.put, List.setIfInBounds_toArray, List.set_cons_zero, List.set_cons_succ])
                   refine regN_takeC [26, 21, 20, 14, 13, 12] (i := 11) (d := (some 122)) (v := ?v207x12) (l2 := tf12_31) rfl rfl rfl (by kernel_rfl) (by kernel_rfl) (by kernel_rfl) (by kernel_rfl) (fun _ _ _ h => h) (by rfl) ?hv207x12 hS0 ?h207x12
                   case hv207x12 => intro u hSu; have s0 := (Below.block hSu _ yr).trans RB2.out; have s1 := (Below.block hSu _ yb).trans XB.out; obtain ⟨x0, x1, x2, x3, x4, x5⟩ := six_cells s0; obtain ⟨z0, z1⟩ := two_cells9 s1; have n0 := lt_heap s0; have n1 := lt_heap s1; (try rw [HLA.out] at x5); have p0 := (Below.cell hSu (p := ⟨g, o + q * 2, none⟩) hgg).trans e0; clear s0 s1; go_simp; (try with_reducible rfl)
                   (try simp only [Act.put, List.setIfInBounds_toArray, List.set_cons_zero, List.set_cons_succ])
                   refine regN_takeC [26, 21, 20, 14, 13] (i := 12) (d := (some 123)) (v := ?v207x13) (l2 := tf13_31) rfl rfl rfl (by kernel_rfl) (by kernel_rfl) (by kernel_rfl) (by kernel_rfl) (fun _ _ _ h => h) (by rfl) ?hv207x13 hS0 ?h207x13
                   case hv207x13 => intro u hSu; clear hSu; go_simp; (try with_reducible rfl)
                   (try simp only [Act.put, List.setIfInBounds_toArray, List.set_cons_zero, List.set_cons_succ])
                   refine regN_takeC [26, 21, 20, 14] (i := 13) (d := (some 124)) (v := ?v207x14) (l2 := tf14_31) rfl rfl rfl (by kernel_rfl) (by kernel_rfl) (by kernel_rfl) (by kernel_rfl) (fun _ _ _ h => h) (by rfl) ?hv207x14 hS0 ?h207x14
                   case hv207x14 => intro u hSu; clear hSu; go_simp; (try with_reducible rfl)
                   (try simp only [Act.put, List.setIfInBounds_toArray, List.set_cons_zero, List.set_cons_succ])
                   refine regN_takeC [26, 21, 20] (i := 14) (d := (some 125)) (v := ?v207x15) (l2 := tf15_31) rfl rfl rfl (by kernel_rfl) (by kernel_rfl) (by kernel_rfl) (by kernel_rfl) (fun _ _ _ h => h) (by rfl) ?hv207x15 hS0 ?h207x15
                   case hv207x15 => intro u hSu; clear hSu; go_simp; (try with_reducible rfl)
                   (try simp only [Act.put, List.setIfInBounds_toArray, List.set_cons_zero, List.set_cons_succ])
                   refine regN_takeC [26, 21, 18] (i := 15) (d := (some 126)) (v := ?v207x16) (l2 := tf16_31) rfl rfl rfl (by kernel_rfl) (by kernel_rfl) (by kernel_rfl) (by kernel_rfl) (fun _ _ _ h => h) (by rfl) ?hv207x16 hS0 ?h207x16
                   case hv207x16 => intro u hSu; have s0 := (Below.block hSu _ yr).trans RB2.out; have s1 := (Below.block hSu _ yb).trans XB.out; obtain ⟨x0, x1, x2, x3, x4, x5⟩ := six_cells s0; obtain ⟨z0, z1⟩ := two_cells9 s1; have n0 := lt_heap s0; have n1 := lt_heap s1; (try rw [HLA.out] at x5); have p0 := (Below.cell hSu (p := ⟨g, o + q * 2, none⟩) hgg).trans e0; clear s0 s1; go_simp; (try with_reducible rfl)
                   (try simp only [Act.put, List.setIfInBounds_toArray, List.set_cons_zero, List.set_cons_succ])
                   refine regN_takeC [26, 21, 18, 17] (i := 16) (d := (some 127)) (v := ?v207x17) (l2 := tf17_31) rfl rfl rfl (by kernel_rfl) (by kernel_rfl) (by kernel_rfl) (by kernel_rfl) (fun _ _ _ h => h) (by rfl) ?hv207x17 hS0 ?h207x17
                   case hv207x17 => intro u hSu; clear hSu; go_simp; (try with_reducible rfl)
                   (try simp only [Act.put, List.setIfInBounds_toArray, List.set_cons_zero, List.set_cons_succ])
                   refine regN_takeC [26, 21, 18] (i := 17) (d := (some 128)) (v := ?v207x18) (l2 := tf18_31) rfl rfl rfl (by kernel_rfl) (by kernel_rfl) (by kernel_rfl) (by kernel_rfl) (fun _ _ _ h => h) (by rfl) ?hv207x18 hS0 ?h207x18
                   case hv207x18 => intro u hSu; have s0 := (Below.block hSu _ yr).trans RB2.out; have s1 := (Below.block hSu _ yb).trans XB.out; obtain ⟨x0, x1, x2, x3, x4, x5⟩ := six_cells s0; obtain ⟨z0, z1⟩ := two_cells9 s1; have n0 := lt_heap s0; have n1 := lt_heap s1; (try rw [HLA.out] at x5); have p0 := (Below.cell hSu (p := ⟨g, o + q * 2, none⟩) hgg).trans e0; clear s0 s1; go_simp; (try with_reducible rfl)
                   (try simp only [Act.put, List.setIfInBounds_toArray, List.set_cons_zero, List.set_cons_succ])
                   refine regN_ready (rs := [18]) (by kernel_rfl) (by simp) ?_
                   refine (AllN.cons (i := 18) (l2 := tf19_31) rfl rfl (fun K hK => ?_) AllN.nil)
                   go_simp
                   go_at_call 28
                   (with_reducible refine (cex_gen _ _).mono ?_)
                   rintro e w10 ⟨rfl, hb10⟩
                   rw [HEX.out]
                   have HBN := Lib.hid (below_on (show Below W2.heap.size W2 _ from (Below.refl _ _).drew) hb10)
                   clear hb10
                   go_simp
                   have hS1 : ((fun W' : World => Below W2.heap.size W2 W') : World → Prop) _ := (show (fun W' : World => Below W2.heap.size W2 W') _ from HBN.out)
                   refine hK _ _ (fun _ => hS1) ?_
                   clear hK K
                   (try simp only [Act.put, List.setIfInBounds_toArray, List.set_cons_zero, List.set_cons_succ])
                   refine regN_takeC [26, 21, 20] (i := 19) (d := (some 130)) (v := ?v207x19) (l2 := tf20_31) rfl rfl rfl (by kernel_rfl) (by kernel_rfl) (by kernel_rfl) (by kernel_rfl) (fun _ _ _ h => h) (by rfl) ?hv207x19 hS1 ?h207x19
                   case hv207x19 => intro u hSu; clear hSu; go_simp; (try with_reducible rfl)
                   (try simp only [Act.put, List.setIfInBounds_toArray, List.set_cons_zero, List.set_cons_succ])
                   refine regN_takeC [26, 21] (i := 20) (d := (some 131)) (v := ?v207x20) (l2 := tf21_31) rfl rfl rfl (by kernel_rfl) (by kernel_rfl) (by kernel_rfl) (by kernel_rfl) (fun _ _ _ h => h) (by rfl) ?hv207x20 hS1 ?h207x20
                   case hv207x20 => intro u hSu; clear hSu; go_simp; (try with_reducible rfl)
                   (try simp only [Act.put, List.setIfInBounds_toArray, List.set_cons_zero, List.set_cons_succ])
                   refine regN_takeC [26] (i := 21) (d := (some 132)) (v := ?v207x21) (l2 := tf22_31) rfl rfl rfl (by kernel_rfl) (by kernel_rfl) (by kernel_rfl) (by kernel_rfl) (fun _ _ _ h => h) (by rfl) ?hv207x21 hS1 ?h207x21
                   case hv207x21 => intro u hSu; clear hSu; go_simp; (try with_reducible rfl)
                   (try simp only [Act.put, List.setIfInBounds_toArray, List.set_cons_zero, List.set_cons_succ])
                   refine regN_takeC [26, 25, 24, 23] (i := 22) (d := (some 133)) (v := ?v207x22) (l2 := tf23_31) rfl rfl rfl (by kernel_rfl) (by kernel_rfl) (by kernel_rfl) (by kernel_rfl) (fun _ _ _ h => h) (by rfl) ?hv207x22 hS1 ?h207x22
                   case hv207x22 => intro u hSu; clear hSu; go_simp; (try with_reducible rfl)
                   (try simp only [Act.put, List.setIfInBounds_toArray, List.set_cons_zero, List.set_cons_succ])
                   refine regN_takeC [26, 25, 24] (i := 23) (d := (some 134)) (v := ?v207x23) (l2 := tf24_31) rfl rfl rfl (by kernel_rfl) (by kernel_rfl) (by kernel_rfl) (by kernel_rfl) (fun _ _ _ h => h) (by rfl) ?hv207x23 hS1 ?h207x23
                   case hv207x23 => intro u hSu; have s0 := (Below.block hSu _ yr).trans RB2.out; have s1 := (Below.block hSu _ yb).trans XB.out; obtain ⟨x0, x1, x2, x3, x4, x5⟩ := six_cells s0; obtain ⟨z0, z1⟩ := two_cells9 s1; have n0 := lt_heap s0; have n1 := lt_heap s1; (try rw [HLA.out] at x5); have p0 := (Below.cell hSu (p := ⟨g, o + q * 2, none⟩) hgg).trans e0; clear s0 s1; go_simp; (try with_reducible rfl)
                   (try simp only [Act.put, List.setIfInBounds_toArray, List.set_cons_zero, List.set_cons_succ])
                   refine regN_takeC [26, 25] (i := 24) (d := (some 135)) (v := ?v207x24) (l2 := tf25_31) rfl rfl rfl (by kernel_rfl) (by kernel_rfl) (by kernel_rfl) (by kernel_rfl) (fun _ _ _ h => h) (by rfl) ?hv207x24 hS1 ?h207x24
                   case hv207x24 => intro u hSu; clear hSu; go_simp; (try with_reducible rfl)
                   (try simp only [Act.put, List.setIfInBounds_toArray, List.set_cons_zero, List.set_cons_succ])
                   refine regN_takeC [26] (i := 25) (d := (some 136)) (v := ?v207x25) (l2 := tf26_31) rfl rfl rfl (by kernel_rfl) (by kernel_rfl) (by kernel_rfl) (by kernel_rfl) (fun _ _ _ h => h) (by rfl) ?hv207x25 hS1 ?h207x25
                   case hv207x25 => intro u hSu; clear hSu; go_simp; (try with_reducible rfl)
                   (try simp only [Act.put, List.setIfInBounds_toArray, List.set_cons_zero, List.set_cons_succ])
                   refine regN_take (i := 26) (d := (some 137)) (v := ?v207x26) (l2 := tf27_31) rfl rfl rfl (by kernel_rfl) (by kernel_rfl) (by kernel_rfl) (by kernel_rfl) (fun _ _ _ h => h) (by rfl) ?hv207x26 hS1 ?h207x26
                   case hv207x26 => intro u hSu; clear hSu; go_simp; (try with_reducible rfl)
                   (try simp only [Act.put, List.setIfInBounds_toArray, List.set_cons_zero, List.set_cons_succ])
                   refine regN_skipC [29, 28] (i := 27) (d := (some 138)) (l2 := tf28_31) rfl rfl rfl (by kernel_rfl) (by kernel_rfl) (by kernel_rfl) (by kernel_rfl) (fun _ _ _ h => h) (by rfl) hS1 ?_
                   (try simp only [Act.put, List.setIfInBounds_toArray, List.set_cons_zero, List.set_cons_succ])
                   refine regN_skipC [29] (i := 28) (d := (some 139)) (l2 := tf29_31) rfl rfl rfl (by kernel_rfl) (by kernel_rfl) (by kernel_rfl) (by kernel_rfl) (fun _ _ _ h => h) (by rfl) hS1 ?_
                   (try simp only [Act.put, List.setIfInBounds_toArray, List.set_cons_zero, List.set_cons_succ])
                   refine regN_skip (i := 29) (d := (some 140)) (l2 := tf30_31) rfl rfl rfl (by kernel_rfl) (by kernel_rfl) (by kernel_rfl) (by kernel_rfl) (fun _ _ _ h => h) (by rfl) hS1 ?_
                   (try simp only [Act.put, List.setIfInBounds_toArray, List.set_cons_zero, List.set_cons_succ])
                   refine regN_ready (rs := [30]) (by kernel_rfl) (by simp) ?_
                   refine (AllN.cons (i := 30) (l2 := tf31_31) rfl rfl (fun K hK => ?_) AllN.nil)
                   go_simp
                   refine hK _ _ (fun h => absurd rfl h) ?_
                   clear hK K
                   (try simp only [Act.put, List.setIfInBounds_toArray, List.set_cons_zero, List.set_cons_succ])
                   refine regN_done (by kernel_rfl) ?_ _
                   go_wp2
                   go_ret2
                   obtain ⟨q1, q2⟩ := pq9 HR.out H.out
                   exact ⟨by rw [q1, q2]; rfl, below_on HB5.out (below_on HBR2.out HBN.out)⟩
                  ·
                   by_cases hl1 : 65535 < m.2
                   ·
                    have H := Lib.hid (cc_7 (k := (q + 1)) HE.out HAN.out HLS.out H32.out HAH.out HSMS.out HALL.out hlt (by rw [HSM.out, decide_eq_false hle]; rw [hex, decide_eq_true hl1]; simp))
                    clear hex
                    refine regN_start (N := 30) (S := (fun W' : World => Below W2.heap.size W2 W')) (by kernel_rfl) ?_
                    change wpAnyN _ _ _ _ _ _ _ tf0_31 _ (World.drew _)
                    have hS0 := (show (fun W' : World => Below W2.heap.size W2 W') W2.drew from (Below.refl _ _).drew)
                    refine regN_takeC [26, 21, 20, 14, 2, 1] (i := 0) (d := (some 111)) (v := ?v208x1) (l2 := tf1_31) rfl rfl rfl (by kernel_rfl) (by kernel_rfl) (by kernel_rfl) (by kernel_rfl) (fun _ _ _ h => h) (by rfl) ?hv208x1 hS0 ?h208x1
                    case hv208x1 => intro u hSu; clear hSu; go_simp; (try with_reducible rfl)
                    (try simp only [Act.put, List.setIfInBounds_toArray, List.set_cons_zero, List.set_cons_succ])
                    refine regN_takeC [26, 21, 20, 14, 2] (i := 1) (d := (some 112)) (v := ?v208x2) (l2 := tf2_31) rfl rfl rfl (by kernel_rfl) (by kernel_rfl) (by kernel_rfl) (by kernel_rfl) (fun _ _ _ h => h) (by rfl) ?hv208x2 hS0 ?h208x2
                    case hv208x2 => intro u hSu; clear hSu; go_simp; (try with_reducible rfl)
                    (try simp only [Act.put, List.setIfInBounds_toArray, List.set_cons_zero, List.set_cons_succ])
                    refine regN_takeC [26, 21, 20, 14] (i := 2) (d := (some 113)) (v := ?v208x3) (l2 := tf3_31) rfl rfl rfl (by kernel_rfl) (by kernel_rfl) (by kernel_rfl) (by kernel_rfl) (fun _ _ _ h => h) (by rfl) ?hv208x3 hS0 ?h208x3
                    case hv208x3 => intro u hSu; clear hSu; go_simp; (try with_reducible rfl)
                    (try simp only [Act.put, List.setIfInBounds_toArray, List.set_cons_zero, List.set_cons_succ])
                    refine regN_takeC [26, 21, 20, 14, 13, 12, 4] (i := 3) (d := (some 114)) (v := ?v208x4) (l2 := tf4_31) rfl rfl rfl (by kernel_rfl) (by kernel_rfl) (by kernel_rfl) (by kernel_rfl) (fun _ _ _ h => h) (by rfl) ?hv208x4 hS0 ?h208x4
                    case hv208x4 => intro u hSu; clear hSu; go_simp; (try with_reducible rfl)
                    (try simp only [Act.put, List.setIfInBounds_toArray, List.set_cons_zero, List.set_cons_succ])
                    refine regN_takeC [26, 21, 20, 14, 13, 12] (i := 4) (d := (some 115)) (v := ?v208x5) (l2 := tf5_31) rfl rfl rfl (by kernel_rfl) (by kernel_rfl) (by kernel_rfl) (by kernel_rfl) (fun _ _ _ h => h) (by rfl) ?hv208x5 hS0 ?h208x5
                    case hv208x5 => intro u hSu; have s0 := (Below.block hSu _ yr).trans RB2.out; have s1 := (Below.block hSu _ yb).trans XB.out; obtain ⟨x0, x1, x2, x3, x4, x5⟩ := six_cells s0; obtain ⟨z0, z1⟩ := two_cells9 s1; have n0 := lt_heap s0; have n1 := lt_heap s1; (try rw [HLA.out] at x5); have p0 := (Below.cell hSu (p := ⟨g, o + q * 2, none⟩) hgg).trans e0; clear s0 s1; go_simp; (try with_reducible rfl)
                    (try simp only [Act.put, List.setIfInBounds_toArray, List.set_cons_zero, List.set_cons_succ])
                    refine regN_takeC [26, 21, 20, 14, 13, 12, 11, 10, 9, 6] (i := 5) (d := (some 116)) (v := ?v208x6) (l2 := tf6_31) rfl rfl rfl (by kernel_rfl) (by kernel_rfl) (by kernel_rfl) (by kernel_rfl) (fun _ _ _ h => h) (by rfl) ?hv208x6 hS0 ?h208x6
                    case hv208x6 => intro u hSu; clear hSu; go_simp; (try with_reducible rfl)
                    (try simp only [Act.put, List.setIfInBounds_toArray, List.set_cons_zero, List.set_cons_succ])
                    refine regN_takeC [26, 21, 20, 14, 13, 12, 11, 10, 9] (i := 6) (d := (some 117)) (v := ?v208x7) (l2 := tf7_31) rfl rfl rfl (by kernel_rfl) (by kernel_rfl) (by kernel_rfl) (by kernel_rfl) (fun _ _ _ h => h) (by rfl) ?hv208x7 hS0 ?h208x7
                    case hv208x7 => intro u hSu; have s0 := (Below.block hSu _ yr).trans RB2.out; have s1 := (Below.block hSu _ yb).trans XB.out; obtain ⟨x0, x1, x2, x3, x4, x5⟩ := six_cells s0; obtain ⟨z0, z1⟩ := two_cells9 s1; have n0 := lt_heap s0; have n1 := lt_heap s1; (try rw [HLA.out] at x5); have p0 := (Below.cell hSu (p := ⟨g, o + q * 2, none⟩) hgg).trans e0; clear s0 s1; go_simp; (try with_reducible rfl)
                    (try simp only [Act.put, List.setIfInBounds_toArray, List.set_cons_zero, List.set_cons_succ])
                    refine regN_takeC [26, 21, 20, 14, 13, 12, 11, 10, 9, 8] (i := 7) (d := (some 118)) (v := ?v208x8) (l2 := tf8_31) rfl rfl rfl (by kernel_rfl) (by kernel_rfl) (by kernel_rfl) (by kernel_rfl) (fun _ _ _ h => h) (by rfl) ?hv208x8 hS0 ?h208x8
                    case hv208x8 => intro u hSu; clear hSu; go_simp; (try with_reducible rfl)
                    (try simp only [Act.put, List.setIfInBounds_toArray, List.set_cons_zero, List.set_cons_succ])
                    refine regN_takeC [26, 21, 20, 14, 13, 12, 11, 10, 9] (i := 8) (d := (some 119)) (v := ?v208x9) (l2 := tf9_31) rfl rfl rfl (by kernel_rfl) (by kernel_rfl) (by kernel_rfl) (by kernel_rfl) (fun _ _ _ h => h) (by rfl) ?hv208x9 hS0 ?h208x9
                    case hv208x9 => intro u hSu; clear hSu; go_simp; (try with_reducible rfl)
                    (try simp only [Act.put, List.setIfInBounds_toArray, List.set_cons_zero, List.set_cons_succ])
                    refine regN_takeC [26, 21, 20, 14, 13, 12, 11, 10] (i := 9) (d := (some 120)) (v := ?v208x10) (l2 := tf10_31) rfl rfl rfl (by kernel_rfl) (by kernel_rfl) (by kernel_rfl) (by kernel_rfl) (fun _ _ _ h => h) (by rfl) ?hv208x10 hS0 ?h208x10
                    case hv208x10 => intro u hSu; clear hSu; go_simp; (try with_reducible rfl)
                    (try simp only [Act.put, List.setIfInBounds_toArray, List.set_cons_zero, List.set_cons_succ])
                    refine regN_takeC [26, 21, 20, 14, 13, 12, 11] (i := 10) (d := (some 121)) (v := ?v208x11) (l2 := tf11_31) rfl rfl rfl (by kernel_rfl) (by kernel_rfl) (by kernel_rfl) (by kernel_rfl) (fun _ _ _ h => h) (by rfl) ?hv208x11 hS0 ?h208x11
                    case hv208x11 => intro u hSu; clear hSu; go_simp; (try with_reducible rfl)
                    (try simp only [Act.put, List.setIfInBounds_toArray, List.set_cons_zero, List.set_cons_succ])
                    refine regN_takeC [26, 21, 20, 14, 13, 12] (i := 11) (d := (some 122)) (v := ?v208x12) (l2 := tf12_31) rfl rfl rfl (by kernel_rfl) (by kernel_rfl) (by kernel_rfl) (by kernel_rfl) (fun _ _ _ h => h) (by rfl) ?hv208x12 hS0 ?h208x12
                    case hv208x12 => intro u hSu; have s0 := (Below.block hSu _ yr).trans RB2.out; have s1 := (Below.block hSu _ yb).trans XB.out; obtain ⟨x0, x1, x2, x3, x4, x5⟩ := six_cells s0; obtain ⟨z0, z1⟩ := two_cells9 s1; have n0 := lt_heap s0; have n1 := lt_heap s1; (try rw [HLA.out] at x5); have p0 := (Below.cell hSu (p := ⟨g, o + q * 2, none⟩) hgg).trans e0; clear s0 s1; go_simp; (try with_reducible rfl)
                    (try simp only [Act.put, List.setIfInBounds_toArray, List.set_cons_zero, List.set_cons_succ])
                    refine regN_takeC [26, 21, 20, 14, 13] (i := 12) (d := (some 123)) (v := ?v208x13) (l2 := tf13_31) rfl rfl rfl (by kernel_rfl) (by kernel_rfl) (by kernel_rfl) (by kernel_rfl) (fun _ _ _ h => h) (by rfl) ?hv208x13 hS0 ?h208x13
                    case hv208x13 => intro u hSu; clear hSu; go_simp; (try with_reducible rfl)
                    (try simp only [Act.put, List.setIfInBounds_toArray, List.set_cons_zero, List.set_cons_succ])
                    refine regN_takeC [26, 21, 20, 14] (i := 13) (d := (some 124)) (v := ?v208x14) (l2 := tf14_31) rfl rfl rfl (by kernel_rfl) (by kernel_rfl) (by kernel_rfl) (by kernel_rfl) (fun _ _ _ h => h) (by rfl) ?hv208x14 hS0 ?h208x14
                    case hv208x14 => intro u hSu; clear hSu; go_simp; (try with_reducible rfl)
                    (try simp only [Act.put, List.setIfInBounds_toArray, List.set_cons_zero, List.set_cons_succ])
                    refine regN_takeC [26, 21, 20] (i := 14) (d := (some 125)) (v := ?v208x15) (l2 := tf15_31) rfl rfl rfl (by kernel_rfl) (by kernel_rfl) (by kernel_rfl) (by kernel_rfl) (fun _ _ _ h => h) (by rfl) ?hv208x15 hS0 ?h208x15
                    case hv208x15 => intro u hSu; clear hSu; go_simp; (try with_reducible rfl)
                    (try simp only [Act.put, List.setIfInBounds_toArray, List.set_cons_zero, List.set_cons_succ])
                    refine regN_takeC [26, 21, 18] (i := 15) (d := (some 126)) (v := ?v208x16) (l2 := tf16_31) rfl rfl rfl (by kernel_rfl) (by kernel_rfl) (by kernel_rfl) (by kernel_rfl) (fun _ _ _ h => h) (by rfl) ?hv208x16 hS0 ?h208x16
                    case hv208x16 => intro u hSu; have s0 := (Below.block hSu _ yr).trans RB2.out; have s1 := (Below.block hSu _ yb).trans XB.out; obtain ⟨x0, x1, x2, x3, x4, x5⟩ := six_cells s0; obtain ⟨z0, z1⟩ := two_cells9 s1; have n0 := lt_heap s0; have n1 := lt_heap s1; (try rw [HLA.out] at x5); have p0 := (Below.cell hSu (p := ⟨g, o + q * 2, none⟩) hgg).trans e0; clear s0 s1; go_simp; (try with_reducible rfl)
                    (try simp only [Act.put, List.setIfInBounds_toArray, List.set_cons_zero, List.set_cons_succ])
                    refine regN_takeC [26, 21, 18, 17] (i := 16) (d := (some 127)) (v := ?v208x17) (l2 := tf17_31) rfl rfl rfl (by kernel_rfl) (by kernel_rfl) (by kernel_rfl) (by kernel_rfl) (fun _ _ _ h => h) (by rfl) ?hv208x17 hS0 ?h208x17
                    case hv208x17 => intro u hSu; clear hSu; go_simp; (try with_reducible rfl)
                    (try simp only [Act.put, List.setIfInBounds_toArray, List.set_cons_zero, List.set_cons_succ])
                    refine regN_takeC [26, 21, 18] (i := 17) (d := (some 128)) (v := ?v208x18) (l2 := tf18_31) rfl rfl rfl (by kernel_rfl) (by kernel_rfl) (by kernel_rfl) (by kernel_rfl) (fun _ _ _ h => h) (by rfl) ?hv208x18 hS0 ?h208x18
                    case hv208x18 => intro u hSu; have s0 := (Below.block hSu _ yr).trans RB2.out; have s1 := (Below.block hSu _ yb).trans XB.out; obtain ⟨x0, x1, x2, x3, x4, x5⟩ := six_cells s0; obtain ⟨z0, z1⟩ := two_cells9 s1; have n0 := lt_heap s0; have n1 := lt_heap s1; (try rw [HLA.out] at x5); have p0 := (Below.cell hSu (p := ⟨g, o + q * 2, none⟩) hgg).trans e0; clear s0 s1; go_simp; (try with_reducible rfl)
                    (try simp only [Act.put, List.setIfInBounds_toArray, List.set_cons_zero, List.set_cons_succ])
                    refine regN_ready (rs := [18]) (by kernel_rfl) (by simp) ?_
                    refine (AllN.cons (i := 18) (l2 := tf19_31) rfl rfl (fun K hK => ?_) AllN.nil)
                    go_simp
                    go_at_call 28
                    (with_reducible refine (cex_gen _ _).mono ?_)
                    rintro e w10 ⟨rfl, hb10⟩
                    rw [HEX.out]
                    have HBN := Lib.hid (below_on (show Below W2.heap.size W2 _ from (Below.refl _ _).drew) hb10)
                    clear hb10
                    go_simp
                    have hS1 : ((fun W' : World => Below W2.heap.size W2 W') : World → Prop) _ := (show (fun W' : World => Below W2.heap.size W2 W') _ from HBN.out)
                    refine hK _ _ (fun _ => hS1) ?_
                    clear hK K
                    (try simp only [Act.put, List.setIfInBounds_toArray, List.set_cons_zero, List.set_cons_succ])
                    refine regN_takeC [26, 21, 20] (i := 19) (d := (some 130)) (v := ?v208x19) (l2 := tf20_31) rfl rfl rfl (by kernel_rfl) (by kernel_rfl) (by kernel_rfl) (by kernel_rfl) (fun _ _ _ h => h) (by rfl) ?hv208x19 hS1 ?h208x19
                    case hv208x19 => intro u hSu; clear hSu; go_simp; (try with_reducible rfl)
                    (try simp only [Act.put, List.setIfInBounds_toArray, List.set_cons_zero, List.set_cons_succ])
                    refine regN_takeC [26, 21] (i := 20) (d := (some 131)) (v := ?v208x20) (l2 := tf21_31) rfl rfl rfl (by kernel_rfl) (by kernel_rfl) (by kernel_rfl) (by kernel_rfl) (fun _ _ _ h => h) (by rfl) ?hv208x20 hS1 ?h208x20
                    case hv208x20 => intro u hSu; clear hSu; go_simp; (try with_reducible rfl)
                    (try simp only [Act.put, List.setIfInBounds_toArray, List.set_cons_zero, List.set_cons_succ])
                    refine regN_takeC [26] (i := 21) (d := (some 132)) (v := ?v208x21) (l2 := tf22_31) rfl rfl rfl (by kernel_rfl) (by kernel_rfl) (by kernel_rfl) (by kernel_rfl) (fun _ _ _ h => h) (by rfl) ?hv208x21 hS1 ?h208x21
                    case hv208x21 => intro u hSu; clear hSu; go_simp; (try with_reducible rfl)
                    (try simp only [Act.put, List.setIfInBounds_toArray, List.set_cons_zero, List.set_cons_succ])
                    refine regN_takeC [26, 25, 24, 23] (i := 22) (d := (some 133)) (v := ?v208x22) (l2 := tf23_31) rfl rfl rfl (by kernel_rfl) (by kernel_rfl) (by kernel_rfl) (by kernel_rfl) (fun _ _ _ h => h) (by rfl) ?hv208x22 hS1 ?h208x22
                    case hv208x22 => intro u hSu; clear hSu; go_simp; (try with_reducible rfl)
                    (try simp only [Act.put, List.setIfInBounds_toArray, List.set_cons_zero, List.set_cons_succ])
                    refine regN_takeC [26, 25, 24] (i := 23) (d := (some 134)) (v := ?v208x23) (l2 := tf24_31) rfl rfl rfl (by kernel_rfl) (by kernel_rfl) (by kernel_rfl) (by kernel_rfl) (fun _ _ _ h => h) (by rfl) ?hv208x23 hS1 ?h208x23
                    case hv208x23 => intro u hSu; have s0 := (Below.block hSu _ yr).trans RB2.out; have s1 := (Below.block hSu _ yb).trans XB.out; obtain ⟨x0, x1, x2, x3, x4, x5⟩ := six_cells s0; obtain ⟨z0, z1⟩ := two_cells9 s1; have n0 := lt_heap s0; have n1 := lt_heap s1; (try rw [HLA.out] at x5); have p0 := (Below.cell hSu (p := ⟨g, o + q * 2, none⟩) hgg).trans e0; clear s0 s1; go_simp; (try with_reducible rfl)
                    (try simp only [Act.put, List.setIfInBounds_toArray, List.set_cons_zero, List.set_cons_succ])
                    refine regN_takeC [26, 25] (i := 24) (d := (some 135)) (v := ?v208x24) (l2 := tf25_31) rfl rfl rfl (by kernel_rfl) (by kernel_rfl) (by kernel_rfl) (by kernel_rfl) (fun _ _ _ h => h) (by rfl) ?hv208x24 hS1 ?h208x24
                    case hv208x24 => intro u hSu; clear hSu; go_simp; (try with_reducible rfl)
                    (try simp only [Act.put, List.setIfInBounds_toArray, List.set_cons_zero, List.set_cons_succ])
                    refine regN_takeC [26] (i := 25) (d := (some 136)) (v := ?v208x25) (l2 := tf26_31) rfl rfl rfl (by kernel_rfl) (by kernel_rfl) (by kernel_rfl) (by kernel_rfl) (fun _ _ _ h => h) (by rfl) ?hv208x25 hS1 ?h208x25
                    case hv208x25 => intro u hSu; clear hSu; go_simp; (try with_reducible rfl)
                    (try simp only [Act.put, List.setIfInBounds_toArray, List.set_cons_zero, List.set_cons_succ])
                    refine regN_take (i := 26) (d := (some 137)) (v := ?v208x26) (l2 := tf27_31) rfl rfl rfl (by kernel_rfl) (by kernel_rfl) (by kernel_rfl) (by kernel_rfl) (fun _ _ _ h => h) (by rfl) ?hv208x26 hS1 ?h208x26
                    case hv208x26 => intro u hSu; clear hSu; go_simp; (try with_reducible rfl)
                    (try simp only [Act.put, List.setIfInBounds_toArray, List.set_cons_zero, List.set_cons_succ])
                    refine regN_takeC [29, 28] (i := 27) (d := (some 138)) (v := ?v208x27) (l2 := tf28_31) rfl rfl rfl (by kernel_rfl) (by kernel_rfl) (by kernel_rfl) (by kernel_rfl) (fun _ _ _ h => h) (by rfl) ?hv208x27 hS1 ?h208x27
                    case hv208x27 => intro u hSu; clear hSu; go_simp; (try with_reducible rfl)
                    (try simp only [Act.put, List.setIfInBounds_toArray, List.set_cons_zero, List.set_cons_succ])
                    refine regN_takeC [29] (i := 28) (d := (some 139)) (v := ?v208x28) (l2 := tf29_31) rfl rfl rfl (by kernel_rfl) (by kernel_rfl) (by kernel_rfl) (by kernel_rfl) (fun _ _ _ h => h) (by rfl) ?hv208x28 hS1 ?h208x28
                    case hv208x28 => intro u hSu; have s0 := (Below.block hSu _ yr).trans RB2.out; have s1 := (Below.block hSu _ yb).trans XB.out; obtain ⟨x0, x1, x2, x3, x4, x5⟩ := six_cells s0; obtain ⟨z0, z1⟩ := two_cells9 s1; have n0 := lt_heap s0; have n1 := lt_heap s1; (try rw [HLA.out] at x5); have p0 := (Below.cell hSu (p := ⟨g, o + q * 2, none⟩) hgg).trans e0; clear s0 s1; go_simp; (try with_reducible rfl)
                    (try simp only [Act.put, List.setIfInBounds_toArray, List.set_cons_zero, List.set_cons_succ])
                    refine regN_take (i := 29) (d := (some 140)) (v := ?v208x29) (l2 := tf30_31) rfl rfl rfl (by kernel_rfl) (by kernel_rfl) (by kernel_rfl) (by kernel_rfl) (fun _ _ _ h => h) (by rfl) ?hv208x29 hS1 ?h208x29
                    case hv208x29 => intro u hSu; clear hSu; go_simp; (try with_reducible rfl)
                    (try simp only [Act.put, List.setIfInBounds_toArray, List.set_cons_zero, List.set_cons_succ])
                    refine regN_ready (rs := [30]) (by kernel_rfl) (by simp) ?_
                    refine (AllN.cons (i := 30) (l2 := tf31_31) rfl rfl (fun K hK => ?_) AllN.nil)
                    go_simp
                    refine hK _ _ (fun h => absurd rfl h) ?_
                    clear hK K
                    (try simp only [Act.put, List.setIfInBounds_toArray, List.set_cons_zero, List.set_cons_succ])
                    refine regN_done (by kernel_rfl) ?_ _
                    go_wp2
                    go_ret2
                    obtain ⟨q1, q2⟩ := pq9 HR.out H.out
                    exact ⟨by rw [q1, q2]; rfl, below_on HB5.out (below_on HBR2.out HBN.out)⟩
                   ·
                    have HOKL := Lib.hid (show lnP c ls ((q + 1)) = false from (by rw [HSM.out, decide_eq_false hle]; rw [hex, decide_eq_false hl0, decide_eq_false hl1]; rfl))
                    clear hex
                    refine regN_start (N := 30) (S := (fun W' : World => Below W2.heap.size W2 W')) (by kernel_rfl) ?_
                    change wpAnyN _ _ _ _ _ _ _ tf0_31 _ (World.drew _)
                    have hS0 := (show (fun W' : World => Below W2.heap.size W2 W') W2.drew from (Below.refl _ _).drew)
                    refine regN_takeC [26, 21, 20, 14, 2, 1] (i := 0) (d := (some 111)) (v := ?v209x1) (l2 := tf1_31) rfl rfl rfl (by kernel_rfl) (by kernel_rfl) (by kernel_rfl) (by kernel_rfl) (fun _ _ _ h => h) (by rfl) ?hv209x1 hS0 ?h209x1
                    case hv209x1 => intro u hSu; clear hSu; go_simp; (try with_reducible rfl)
                    (try simp only [Act.put, List.setIfInBounds_toArray, List.set_cons_zero, List.set_cons_succ])
                    refine regN_takeC [26, 21, 20, 14, 2] (i := 1) (d := (some 112)) (v := ?v209x2) (l2 := tf2_31) rfl rfl rfl (by kernel_rfl) (by kernel_rfl) (by kernel_rfl) (by kernel_rfl) (fun _ _ _ h => h) (by rfl) ?hv209x2 hS0 ?h209x2
                    case hv209x2 => intro u hSu; clear hSu; go_simp; (try with_reducible rfl)
                    (try simp only [Act.put, List.setIfInBounds_toArray, List.set_cons_zero, List.set_cons_succ])
                    refine regN_takeC [26, 21, 20, 14] (i := 2) (d := (some 113)) (v := ?v209x3) (l2 := tf3_31) rfl rfl rfl (by kernel_rfl) (by kernel_rfl) (by kernel_rfl) (by kernel_rfl) (fun _ _ _ h => h) (by rfl) ?hv209x3 hS0 ?h209x3
                    case hv209x3 => intro u hSu; clear hSu; go_simp; (try with_reducible rfl)
                    (try simp only [Act.put, List.setIfInBounds_toArray, List.set_cons_zero, List.set_cons_succ])
                    refine regN_takeC [26, 21, 20, 14, 13, 12, 4] (i := 3) (d := (some 114)) (v := ?v209x4) (l2 := tf4_31) rfl rfl rfl (by kernel_rfl) (by kernel_rfl) (by kernel_rfl) (by kernel_rfl) (fun _ _ _ h => h) (by rfl) ?hv209x4 hS0 ?h209x4
                    case hv209x4 => intro u hSu; clear hSu; go_simp; (try with_reducible rfl)
                    (try simp only [Act.put, List.setIfInBounds_toArray, List.set_cons_zero, List.set_cons_succ])
                    refine regN_takeC [26, 21, 20, 14, 13, 12] (i := 4) (d := (some 115)) (v := ?v209x5) (l2 := tf5_31) rfl rfl rfl (by kernel_rfl) (by kernel_rfl) (by kernel_rfl) (by kernel_rfl) (fun _ _ _ h => h) (by rfl) ?hv209x5 hS0 ?h209x5
                    case hv209x5 => intro u hSu; have s0 := (Below.block hSu _ yr).trans RB2.out; have s1 := (Below.block hSu _ yb).trans XB.out; obtain ⟨x0, x1, x2, x3, x4, x5⟩ := six_cells s0; obtain ⟨z0, z1⟩ := two_cells9 s1; have n0 := lt_heap s0; have n1 := lt_heap s1; (try rw [HLA.out] at x5); have p0 := (Below.cell hSu (p := ⟨g, o + q * 2, none⟩) hgg).trans e0; clear s0 s1; go_simp; (try with_reducible rfl)
                    (try simp only [Act.put, List.setIfInBounds_toArray, List.set_cons_zero, List.set_cons_succ])
                    refine regN_takeC [26, 21, 20, 14, 13, 12, 11, 10, 9, 6] (i := 5) (d := (some 116)) (v := ?v209x6) (l2 := tf6_31) rfl rfl rfl (by kernel_rfl) (by kernel_rfl) (by kernel_rfl) (by kernel_rfl) (fun _ _ _ h => h) (by rfl) ?hv209x6 hS0 ?h209x6
                    case hv209x6 => intro u hSu; clear hSu; go_simp; (try with_reducible rfl)
                    (try simp only [Act.put, List.setIfInBounds_toArray, List.set_cons_zero, List.set_cons_succ])
                    refine regN_takeC [26, 21, 20, 14, 13, 12, 11, 10, 9] (i := 6) (d := (some 117)) (v := ?v209x7) (l2 := tf7_31) rfl rfl rfl (by kernel_rfl) (by kernel_rfl) (by kernel_rfl) (by kernel_rfl) (fun _ _ _ h => h) (by rfl) ?hv209x7 hS0 ?h209x7
                    case hv209x7 => intro u hSu; have s0 := (Below.block hSu _ yr).trans RB2.out; have s1 := (Below.block hSu _ yb).trans XB.out; obtain ⟨x0, x1, x2, x3, x4, x5⟩ := six_cells s0; obtain ⟨z0, z1⟩ := two_cells9 s1; have n0 := lt_heap s0; have n1 := lt_heap s1; (try rw [HLA.out] at x5); have p0 := (Below.cell hSu (p := ⟨g, o + q * 2, none⟩) hgg).trans e0; clear s0 s1; go_simp; (try with_reducible rfl)
                    (try simp only [Act.put, List.setIfInBounds_toArray, List.set_cons_zero, List.set_cons_succ])
                    refine regN_takeC [26, 21, 20, 14, 13, 12, 11, 10, 9, 8] (i := 7) (d := (some 118)) (v := ?v209x8) (l2 := tf8_31) rfl rfl rfl (by kernel_rfl) (by kernel_rfl) (by kernel_rfl) (by kernel_rfl) (fun _ _ _ h => h) (by rfl) ?hv209x8 hS0 ?h209x8
                    case hv209x8 => intro u hSu; clear hSu; go_simp; (try with_reducible rfl)
                    (try simp only [Act.put, List.setIfInBounds_toArray, List.set_cons_zero, List.set_cons_succ])
                    refine regN_takeC [26, 21, 20, 14, 13, 12, 11, 10, 9] (i := 8) (d := (some 119)) (v := ?v209x9) (l2 := tf9_31) rfl rfl rfl (by kernel_rfl) (by kernel_rfl) (by kernel_rfl) (by kernel_rfl) (fun _ _ _ h => h) (by rfl) ?hv209x9 hS0 ?h209x9
                    case hv209x9 => intro u hSu; clear hSu; go_simp; (try with_reducible rfl)
                    (try simp only [Act.put, List.setIfInBounds_toArray, List.set_cons_zero, List.set_cons_succ])
                    refine regN_takeC [26, 21, 20, 14, 13, 12, 11, 10] (i := 9) (d := (some 120)) (v := ?v209x10) (l2 := tf10_31) rfl rfl rfl (by kernel_rfl) (by kernel_rfl) (by kernel_rfl) (by kernel_rfl) (fun _ _ _ h => h) (by rfl) ?hv209x10 hS0 ?h209x10
                    case hv209x10 => intro u hSu; clear hSu; go_simp; (try with_reducible rfl)
                    (try simp only [Act.put, List.setIfInBounds_toArray, List.set_cons_zero, List.set_cons_succ])
                    refine regN_takeC [26, 21, 20, 14, 13, 12, 11] (i := 10) (d := (some 121)) (v := ?v209x11) (l2 := tf11_31) rfl rfl rfl (by kernel_rfl) (by kernel_rfl) (by kernel_rfl) (by kernel_rfl) (fun _ _ _ h => h) (by rfl) ?hv209x11 hS0 ?h209x11
                    case hv209x11 => intro u hSu; clear hSu; go_simp; (try with_reducible rfl)
                    (try simp only [Act.put, List.setIfInBounds_toArray, List.set_cons_zero, List.set_cons_succ])
                    refine regN_takeC [26, 21, 20, 14, 13, 12] (i := 11) (d := (some 122)) (v := ?v209x12) (l2 := tf12_31) rfl rfl rfl (by kernel_rfl) (by kernel_rfl) (by kernel_rfl) (by kernel_rfl) (fun _ _ _ h => h) (by rfl) ?hv209x12 hS0 ?h209x12
                    case hv209x12 => intro u hSu; have s0 := (Below.block hSu _ yr).trans RB2.out; have s1 := (Below.block hSu _ yb).trans XB.out; obtain ⟨x0, x1, x2, x3, x4, x5⟩ := six_cells s0; obtain ⟨z0, z1⟩ := two_cells9 s1; have n0 := lt_heap s0; have n1 := lt_heap s1; (try rw [HLA.out] at x5); have p0 := (Below.cell hSu (p := ⟨g, o + q * 2, none⟩) hgg).trans e0; clear s0 s1; go_simp; (try with_reducible rfl)
                    (try simp only [Act.put, List.setIfInBounds_toArray, List.set_cons_zero, List.set_cons_succ])
                    refine regN_takeC [26, 21, 20, 14, 13] (i := 12) (d := (some 123)) (v := ?v209x13) (l2 := tf13_31) rfl rfl rfl (by kernel_rfl) (by kernel_rfl) (by kernel_rfl) (by kernel_rfl) (fun _ _ _ h => h) (by rfl) ?hv209x13 hS0 ?h209x13
                    case hv209x13 => intro u hSu; clear hSu; go_simp; (try with_reducible rfl)
                    (try simp only [Act.put, List.setIfInBounds_toArray, List.set_cons_zero, List.set_cons_succ])
                    refine regN_takeC [26, 21, 20, 14] (i := 13) (d := (some 124)) (v := ?v209x14) (l2 := tf14_31) rfl rfl rfl (by kernel_rfl) (by kernel_rfl) (by kernel_rfl) (by kernel_rfl) (fun _ _ _ h => h) (by rfl) ?hv209x14 hS0 ?h209x14
                    case hv209x14 => intro u hSu; clear hSu; go_simp; (try with_reducible rfl)
                    (try simp only [Act.put, List.setIfInBounds_toArray, List.set_cons_zero, List.set_cons_succ])
                    refine regN_takeC [26, 21, 20] (i := 14) (d := (some 125)) (v := ?v209x15) (l2 := tf15_31) rfl rfl rfl (by kernel_rfl) (by kernel_rfl) (by kernel_rfl) (by kernel_rfl) (fun _ _ _ h => h) (by rfl) ?hv209x15 hS0 ?h209x15
                    case hv209x15 => intro u hSu; clear hSu; go_simp; (try with_reducible rfl)
                    (try simp only [Act.put, List.setIfInBounds_toArray, List.set_cons_zero, List.set_cons_succ])
                    refine regN_takeC [26, 21, 18] (i := 15) (d := (some 126)) (v := ?v209x16) (l2 := tf16_31) rfl rfl rfl (by kernel_rfl) (by kernel_rfl) (by kernel_rfl) (by kernel_rfl) (fun _ _ _ h => h) (by rfl) ?hv209x16 hS0 ?h209x16
                    case hv209x16 => intro u hSu; have s0 := (Below.block hSu _ yr).trans RB2.out; have s1 := (Below.block hSu _ yb).trans XB.out; obtain ⟨x0, x1, x2, x3, x4, x5⟩ := six_cells s0; obtain ⟨z0, z1⟩ := two_cells9 s1; have n0 := lt_heap s0; have n1 := lt_heap s1; (try rw [HLA.out] at x5); have p0 := (Below.cell hSu (p := ⟨g, o + q * 2, none⟩) hgg).trans e0; clear s0 s1; go_simp; (try with_reducible rfl)
                    (try simp only [Act.put, List.setIfInBounds_toArray, List.set_cons_zero, List.set_cons_succ])
                    refine regN_takeC [26, 21, 18, 17] (i := 16) (d := (some 127)) (v := ?v209x17) (l2 := tf17_31) rfl rfl rfl (by kernel_rfl) (by kernel_rfl) (by kernel_rfl) (by kernel_rfl) (fun _ _ _ h => h) (by rfl) ?hv209x17 hS0 ?h209x17
                    case hv209x17 => intro u hSu; clear hSu; go_simp; (try with_reducible rfl)
                    (try simp only [Act.put, List.setIfInBounds_toArray, List.set_cons_zero, List.set_cons_succ])
                    refine regN_takeC [26, 21, 18] (i := 17) (d := (some 128)) (v := ?v209x18) (l2 := tf18_31) rfl rfl rfl (by kernel_rfl) (by kernel_rfl) (by kernel_rfl) (by kernel_rfl) (fun _ _ _ h => h) (by rfl) ?hv209x18 hS0 ?h209x18
                    case hv209x18 => intro u hSu; have s0 := (Below.block hSu _ yr).trans RB2.out; have s1 := (Below.block hSu _ yb).trans XB.out; obtain ⟨x0, x1, x2, x3, x4, x5⟩ := six_cells s0; obtain ⟨z0, z1⟩ := two_cells9 s1; have n0 := lt_heap s0; have n1 := lt_heap s1; (try rw [HLA.out] at x5); have p0 := (Below.cell hSu (p := ⟨g, o + q * 2, none⟩) hgg).trans e0; clear s0 s1; go_simp; (try with_reducible rfl)
                    (try simp only [Act.put, List.setIfInBounds_toArray, List.set_cons_zero, List.set_cons_succ])
                    refine regN_ready (rs := [18]) (by kernel_rfl) (by simp) ?_
                    refine (AllN.cons (i := 18) (l2 := tf19_31) rfl rfl (fun K hK => ?_) AllN.nil)
                    go_simp
                    go_at_call 28
                    (with_reducible refine (cex_gen _ _).mono ?_)
                    rintro e w10 ⟨rfl, hb10⟩
                    rw [HEX.out]
                    have HBN := Lib.hid (below_on (show Below W2.heap.size W2 _ from (Below.refl _ _).drew) hb10)
                    clear hb10
                    go_simp
                    have hS1 : ((fun W' : World => Below W2.heap.size W2 W') : World → Prop) _ := (show (fun W' : World => Below W2.heap.size W2 W') _ from HBN.out)
                    refine hK _ _ (fun _ => hS1) ?_
                    clear hK K
                    (try simp only [Act.put, List.setIfInBounds_toArray, List.set_cons_zero, List.set_cons_succ])
                    refine regN_takeC [26, 21, 20] (i := 19) (d := (some 130)) (v := ?v209x19) (l2 := tf20_31) rfl rfl rfl (by kernel_rfl) (by kernel_rfl) (by kernel_rfl) (by kernel_rfl) (fun _ _ _ h => h) (by rfl) ?hv209x19 hS1 ?h209x19
                    case hv209x19 => intro u hSu; clear hSu; go_simp; (try with_reducible rfl)
                    (try simp only [Act.put, List.setIfInBounds_toArray, List.set_cons_zero, List.set_cons_succ])
                    refine regN_takeC [26, 21] (i := 20) (d := (some 131)) (v := ?v209x20) (l2 := tf21_31) rfl rfl rfl (by kernel_rfl) (by kernel_rfl) (by kernel_rfl) (by kernel_rfl) (fun _ _ _ h => h) (by rfl) ?hv209x20 hS1 ?h209x20
                    case hv209x20 => intro u hSu; clear hSu; go_simp; (try with_reducible rfl)
                    (try simp only [Act.put, List.setIfInBounds_toArray, List.set_cons_zero, List.set_cons_succ])
                    refine regN_takeC [26] (i := 21) (d := (some 132)) (v := ?v209x21) (l2 := tf22_31) rfl rfl rfl (by kernel_rfl) (by kernel_rfl) (by kernel_rfl) (by kernel_rfl) (fun _ _ _ h => h) (by rfl) ?hv209x21 hS1 ?h209x21
                    case hv209x21 => intro u hSu; clear hSu; go_simp; (try with_reducible rfl)
                    (try simp only [Act.put, List.setIfInBounds_toArray, List.set_cons_zero, List.set_cons_succ])
                    refine regN_takeC [26, 25, 24, 23] (i := 22) (d := (some 133)) (v := ?v209x22) (l2 := tf23_31) rfl rfl rfl (by kernel_rfl) (by kernel_rfl) (by kernel_rfl) (by kernel_rfl) (fun _ _ _ h => h) (by rfl) ?hv209x22 hS1 ?h209x22
                    case hv209x22 => intro u hSu; clear hSu; go_simp; (try with_reducible rfl)
                    (try simp only [Act.put, List.setIfInBounds_toArray, List.set_cons_zero, List.set_cons_succ])
                    refine regN_takeC [26, 25, 24] (i := 23) (d := (some 134)) (v := ?v209x23) (l2 := tf24_31) rfl rfl rfl (by kernel_rfl) (by kernel_rfl) (by kernel_rfl) (by kernel_rfl) (fun _ _ _ h => h) (by rfl) ?hv209x23 hS1 ?h209x23
                    case hv209x23 => intro u hSu; have s0 := (Below.block hSu _ yr).trans RB2.out; have s1 := (Below.block hSu _ yb).trans XB.out; obtain ⟨x0, x1, x2, x3, x4, x5⟩ := six_cells s0; obtain ⟨z0, z1⟩ := two_cells9 s1; have n0 := lt_heap s0; have n1 := lt_heap s1; (try rw [HLA.out] at x5); have p0 := (Below.cell hSu (p := ⟨g, o + q * 2, none⟩) hgg).trans e0; clear s0 s1; go_simp; (try with_reducible rfl)
                    (try simp only [Act.put, List.setIfInBounds_toArray, List.set_cons_zero, List.set_cons_succ])
                    refine regN_takeC [26, 25] (i := 24) (d := (some 135)) (v := ?v209x24) (l2 := tf25_31) rfl rfl rfl (by kernel_rfl) (by kernel_rfl) (by kernel_rfl) (by kernel_rfl) (fun _ _ _ h => h) (by rfl) ?hv209x24 hS1 ?h209x24
                    case hv209x24 => intro u hSu; clear hSu; go_simp; (try with_reducible rfl)
                    (try simp only [Act.put, List.setIfInBounds_toArray, List.set_cons_zero, List.set_cons_succ])
                    refine regN_takeC [26] (i := 25) (d := (some 136)) (v := ?v209x25) (l2 := tf26_31) rfl rfl rfl (by kernel_rfl) (by kernel_rfl) (by kernel_rfl) (by kernel_rfl) (fun _ _ _ h => h) (by rfl) ?hv209x25 hS1 ?h209x25
                    case hv209x25 => intro u hSu; clear hSu; go_simp; (try with_reducible rfl)
                    (try simp only [Act.put, List.setIfInBounds_toArray, List.set_cons_zero, List.set_cons_succ])
                    refine regN_take (i := 26) (d := (some 137)) (v := ?v209x26) (l2 := tf27_31) rfl rfl rfl (by kernel_rfl) (by kernel_rfl) (by kernel_rfl) (by kernel_rfl) (fun _ _ _ h => h) (by rfl) ?hv209x26 hS1 ?h209x26
                    case hv209x26 => intro u hSu; clear hSu; go_simp; (try with_reducible rfl)
                    (try simp only [Act.put, List.setIfInBounds_toArray, List.set_cons_zero, List.set_cons_succ])
                    refine regN_takeC [29, 28] (i := 27) (d := (some 138)) (v := ?v209x27) (l2 := tf28_31) rfl rfl rfl (by kernel_rfl) (by kernel_rfl) (by kernel_rfl) (by kernel_rfl) (fun _ _ _ h => h) (by rfl) ?hv209x27 hS1 ?h209x27
                    case hv209x27 => intro u hSu; clear hSu; go_simp; (try with_reducible rfl)
                    (try simp only [Act.put, List.setIfInBounds_toArray, List.set_cons_zero, List.set_cons_succ])
                    refine regN_takeC [29] (i := 28) (d := (some 139)) (v := ?v209x28) (l2 := tf29_31) rfl rfl rfl (by kernel_rfl) (by kernel_rfl) (by kernel_rfl) (by kernel_rfl) (fun _ _ _ h => h) (by rfl) ?hv209x28 hS1 ?h209x28
                    case hv209x28 => intro u hSu; have s0 := (Below.block hSu _ yr).trans RB2.out; have s1 := (Below.block hSu _ yb).trans XB.out; obtain ⟨x0, x1, x2, x3, x4, x5⟩ := six_cells s0; obtain ⟨z0, z1⟩ := two_cells9 s1; have n0 := lt_heap s0; have n1 := lt_heap s1; (try rw [HLA.out] at x5); have p0 := (Below.cell hSu (p := ⟨g, o + q * 2, none⟩) hgg).trans e0; clear s0 s1; go_simp; (try with_reducible rfl)
                    (try simp only [Act.put, List.setIfInBounds_toArray, List.set_cons_zero, List.set_cons_succ])
                    refine regN_take (i := 29) (d := (some 140)) (v := ?v209x29) (l2 := tf30_31) rfl rfl rfl (by kernel_rfl) (by kernel_rfl) (by kernel_rfl) (by kernel_rfl) (fun _ _ _ h => h) (by rfl) ?hv209x29 hS1 ?h209x29
                    case hv209x29 => intro u hSu; clear hSu; go_simp; (try with_reducible rfl)
                    (try simp only [Act.put, List.setIfInBounds_toArray, List.set_cons_zero, List.set_cons_succ])
                    refine regN_ready (rs := [30]) (by kernel_rfl) (by simp) ?_
                    refine (AllN.cons (i := 30) (l2 := tf31_31) rfl rfl (fun K hK => ?_) AllN.nil)
                    go_simp
                    refine hK _ _ (fun h => absurd rfl h) ?_
                    clear hK K
                    (try simp only [Act.put, List.setIfInBounds_toArray, List.set_cons_zero, List.set_cons_succ])
                    refine regN_done (by kernel_rfl) ?_ _
                    go_wp2
                    exact ⟨⟨(q + 1) + 1, hlt, by go_num, ra_succ HALL.out HOKL.out, below_on HBR2.out HBN.out⟩, by simp [intOf]; omega⟩
             ·
              obtain ⟨hnj⟩ : c.ln = j := by omega
              have H := Lib.hid (cc_8 HE.out HAN.out HLS.out H32.out HAH.out HSMS.out HALL.out)
              go_wp2
              go_ret2
              obtain ⟨q1, q2⟩ := pq9 HR.out H.out
              exact ⟨by rw [q1, q2]; rfl, below_on HB5.out HBR.out⟩
 ·
  have H := Lib.hid (cc_1 (ms := ms) (ls := ls) (show ¬ szE L c = 0 by rw [HSZ.out]; exact hE))
  have es : (sz != 0) = true := by simpa using hE
  go_wp2_with (go_at_call 23; refine (sz_any c _ HS.out HN.out hN HP1.out OK1.out.c9).mono ?_; rintro e w1 ⟨rfl, hb1⟩; rw [HSZ.out])
  go_ret2
  obtain ⟨q1, q2⟩ := pq9 HR.out H.out
  exact ⟨by rw [q1, q2, HSZ.out]; rfl, below_on hB hb1⟩
end Go.Proofs.YtalejaklggnnpaaGreatDoor.I
