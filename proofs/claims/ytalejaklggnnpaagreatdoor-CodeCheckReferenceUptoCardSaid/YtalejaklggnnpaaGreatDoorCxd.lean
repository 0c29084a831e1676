import Derived.Test.YtalejaklggnnpaaGreatDoorCxc
import Derived.Test.YtalejaklggnnpaaGreatDoorCg
import Derived.BigQuiet
/- Layer 9, the reference: all, checkInsn. (gen/cxd.py) -/
namespace Go.Proofs.YtalejaklggnnpaaGreatDoor.I
open Go.ChangeShapes Go.WideShapes Go.ChangeAt Go.RowKit Go.PlainAid
set_option linter.unusedSimpArgs false
set_option linter.unusedVariables false
set_option maxRecDepth 100000 in
set_option maxHeartbeats 4000000 in
theorem r9all_any {A : Option Addr} {n c : Nat} {L : List In} (hn : L.length = n) (hN : n ≤ 1000000) (w : World) (hp : Ins w w.heap.size A L) :
  Calls Tryz.prog 68 #[.slice A n c] w fun e w' => e = .returned (.bool (alV L)) ∧ Below w.heap.size w w' := by
 have HP := Lib.hid hp
 have HN := Lib.hid hn
 obtain ⟨V, hV⟩ : ∃ V, alV L = V := ⟨_, rfl⟩
 have HV := Lib.hid hV
 rw [hV]
 unfold alV at HV
 clear hp hn hV
 go_enter Tryz.func68, Tryz.ntmps68
 go_wp2
 go_loopw [3] (fun z wr => ∃ k : Nat, k ≤ n ∧ z = .int .i64 k ∧ (L.take k).any ciB = false ∧ Below w.heap.size w wr) (fun z _ => n - (intOf z).toNat)
 case atStart => exact ⟨0, Nat.zero_le _, rfl, rfl, Below.refl _ _⟩
 case round =>
  obtain ⟨k, hk, rfl, hall, hb⟩ := hrel
  have HALL := Lib.hid hall
  have HB := Lib.hid hb
  have HPr := Lib.hid (HP.out.up hb)
  clear hall hb
  by_cases hlt : k < n
  ·
   obtain ⟨i, hi⟩ := get_someF (l := L) (k := k) (by rw [HN.out]; exact hlt)
   rcases HPr.out with h0 | ⟨g, o, rfl, hg, hcell⟩
   ·
    rw [h0] at hi; simp at hi
   ·
    obtain ⟨iok, a0, a1, a2, a3, a4, a5, a6, a7, a8, a9⟩ := hcell k _ hi
    have IOK := Lib.hid iok
    have HAT := Lib.hid (any_take (p := ciB) hi)
    have HOF := Lib.hid (any_of (p := ciB) hi)
    have hk0 : (0 : Int) ≤ (k : Int) := by omega
    have hk1 : (k : Int) < (n : Int) := by omega
    clear hcell iok hi
    obtain ⟨E, hE⟩ : ∃ E, ciE i = E := ⟨_, rfl⟩
    have HE := Lib.hid hE
    have hCB : ciB i = (E != 0) := by rw [← hE]; rfl
    clear hE
    cases hc : (E != 0) with
    | true =>
     have HC := Lib.hid (show V = false by rw [← HV.out, HOF.out (by rw [hCB]; exact hc)]; rfl)
     clear hCB
     go_wp2_with (go_at_call 69; refine (rchk_any i _ IOK.out).mono ?_; rintro e w2 ⟨rfl, hb2⟩; rw [HE.out])
     go_ret
     exact ⟨by rw [HC.out]; rfl, below_on HB.out hb2⟩
    | false =>
     have HC := Lib.hid (show ciB i = false by rw [hCB]; exact hc)
     clear hCB
     go_wp2_with (go_at_call 69; refine (rchk_any i _ IOK.out).mono ?_; rintro e w2 ⟨rfl, hb2⟩; rw [HE.out])
     exact ⟨⟨k + 1, hlt, by go_num, by rw [HAT.out, HALL.out, HC.out]; rfl, below_on HB.out hb2⟩, by simp [intOf]; omega⟩
  ·
   obtain rfl : n = k := by omega
   go_wp2
   go_ret
   exact ⟨by have h9 := HALL.out; rw [List.take_of_length_le (by rw [HN.out]; exact Nat.le_refl _)] at h9; rw [← HV.out, h9]; rfl, HB.out⟩
set_option maxRecDepth 100000 in
set_option maxHeartbeats 8000000 in
theorem r9cin_any {A : Option Addr} {n cap : Nat} {L : List Cn} (c : Cd) (i : In) (w : World) (hV : Valid L) (hS : Fits L) (hn : L.length = n) (hN : n ≤ 100000) (hp : Pool w w.heap.size A L) (hiok : i.ok w w.heap.size) (hz : i.nz) (ht : i.tn ≤ 17592186043904) :
  Calls Tryz.prog 30 #[.slice A n cap, (Value.agg #[Value.int IntKind.i64 (Cd.st c), Value.int IntKind.i64 (Cd.lo c), Value.slice (Cd.iA c) (Cd.n c) (Cd.ic c), Value.slice (Cd.hA c) (Cd.hn c) (Cd.hc c), Value.slice (Cd.mA c) (Cd.mn c) (Cd.mc c), Value.slice (Cd.lA c) (Cd.ln c) (Cd.lc c)]), (Value.agg #[Value.int IntKind.i64 (In.op i), Value.int IntKind.i64 (In.a i), Value.int IntKind.i64 (In.b i), Value.int IntKind.i64 (In.t i), Value.slice (In.kA i) (In.kn i) (In.kc i), Value.slice (In.tA i) (In.tn i) (In.tc i), Value.string (In.r1 i), Value.string (In.r2 i), Value.string (In.r3 i), Value.string (In.s i)])] w fun e w' => e = .returned (.int .i64 (inE L c i)) ∧ Below w.heap.size w w' := by
 have HS := Lib.hid hS
 have HVV := Lib.hid hV
 have HP := Lib.hid hp
 have HN := Lib.hid hn
 have HZ := Lib.hid hz
 have HTN := Lib.hid ht
 have IOK := Lib.hid hiok
 clear hS hV hp hn hz hiok ht
 obtain ⟨r, hr⟩ : ∃ r, inE L c i = r := ⟨_, rfl⟩
 have HR := Lib.hid hr
 rw [hr]
 obtain ⟨ce, hce⟩ : ∃ ce, ciE i = ce := ⟨_, rfl⟩
 have HCE := Lib.hid hce
 clear hr hce
 go_enter Tryz.func30, Tryz.ntmps30
 go_upto_region 1 with fail
 obtain ⟨H0, H1, hB⟩ := two_laid9 w (.cells #[.int .i64 c.st, .int .i64 c.lo, .slice c.iA c.n c.ic, .slice c.hA c.hn c.hc, .slice c.mA c.mn c.mc, .slice c.lA c.ln c.lc] 28) (.cells #[.int .i64 i.op, .int .i64 i.a, .int .i64 i.b, .int .i64 i.t, .slice i.kA i.kn i.kc, .slice i.tA i.tn i.tc, .string i.r1, .string i.r2, .string i.r3, .string i.s] 50)
 generalize (w.alloc (.cells #[.int .i64 c.st, .int .i64 c.lo, .slice c.iA c.n c.ic, .slice c.hA c.hn c.hc, .slice c.mA c.mn c.mc, .slice c.lA c.ln c.lc] 28)).alloc (.cells #[.int .i64 i.op, .int .i64 i.a, .int .i64 i.b, .int .i64 i.t, .slice i.kA i.kn i.kc, .slice i.tA i.tn i.tc, .string i.r1, .string i.r2, .string i.r3, .string i.s] 50) = W at H0 H1 hB ⊢
 have RB := Lib.hid H0
 have XB := Lib.hid H1
 have HP1 := Lib.hid (HP.out.up hB)
 have IOK1 := Lib.hid (IOK.out.up hB)
 have HB := Lib.hid hB
 clear H0 H1 hB
 obtain ⟨r0, r1, r2, r3, r4, r5⟩ := six_cells RB.out
 obtain ⟨b0, b1, b2, b3, b4, b5, b6, b7, b8, b9⟩ := ten_cells XB.out
 have yr := lt_heap RB.out
 have yb := lt_heap XB.out
 by_cases hE : ce = 0
 ·
  have HE := Lib.hid (show ciE i = 0 by rw [HCE.out]; exact hE)
  rw [hE] at HCE
  go_upto_region 4 with (go_at_call 69; refine (rchk_any i _ IOK1.out).mono ?_; rintro e w2 ⟨rfl, hb2⟩; rw [HCE.out])
  have RB2 := Lib.hid ((hb2.block _ yr).trans RB.out)
  have XB2 := Lib.hid ((hb2.block _ yb).trans XB.out)
  have HP2 := Lib.hid (HP1.out.up hb2)
  have IOK2 := Lib.hid (IOK1.out.up hb2)
  have HB2 := Lib.hid (below_on HB.out hb2)
  clear r0 r1 r2 r3 r4 r5 b0 b1 b2 b3 b4 b5 b6 b7 b8 b9 yr yb RB XB HP1 IOK1 hb2 HB HCE
  clear W
  obtain ⟨b0, b1, b2, b3, b4, b5, b6, b7, b8, b9⟩ := ten_cells XB2.out
  have yb := lt_heap XB2.out
  go_wp2_with (go_at_call 70; refine (rtg_any i _ IOK2.out HZ.out HTN.out).mono ?_; rintro e W3 ⟨A3, c3, rfl, hl3, hm3, hn3, hr3, hb3⟩)
  have RB3 := Lib.hid ((hb3.block _ (lt_heap RB2.out)).trans RB2.out)
  have XB3 := Lib.hid ((hb3.block _ yb).trans XB2.out)
  have HP3 := Lib.hid (HP2.out.up hb3)
  have IOK3 := Lib.hid (IOK2.out.up hb3)
  have HB3 := Lib.hid (below_on HB2.out hb3)
  have HR3 := Lib.hid hr3
  clear hr3 b0 b1 b2 b3 b4 b5 b6 b7 b8 b9 yb RB2 XB2 HP2 IOK2 HB2 hb3
  obtain ⟨T, hT⟩ : ∃ T, tgL i = T := ⟨_, rfl⟩
  have HT := Lib.hid hT
  rw [hT] at HR3 hl3
  rw [hT]
  obtain ⟨tn, htn⟩ : ∃ tn, T.length = tn := ⟨_, rfl⟩
  have HTL := Lib.hid htn
  rw [htn] at hl3 ⊢
  have htb : tn ≤ 9223372036854775807 := by have := hm3; unfold maxLen at this; omega
  clear hT htn
  go_loopw [9] (fun z wr => ∃ j : Nat, j ≤ tn ∧ z = .int .i64 j ∧ Below W3.heap.size W3 wr ∧ (T.take j).any (ouB c.n) = false) (fun z _ => tn - (intOf z).toNat)
  case atStart => exact ⟨0, Nat.zero_le _, rfl, Below.refl _ _, rfl⟩
  case round =>
   obtain ⟨j, hj, rfl, hbr, hall⟩ := hrel
   have HBR := Lib.hid hbr
   have HALL := Lib.hid hall
   have RBr := Lib.hid ((hbr.block _ (lt_heap RB3.out)).trans RB3.out)
   have XBr := Lib.hid ((hbr.block _ (lt_heap XB3.out)).trans XB3.out)
   have HRr := Lib.hid (HR3.out.up hbr)
   clear hbr hall
   obtain ⟨r0, r1, r2, r3, r4, r5⟩ := six_cells RBr.out
   have yr := lt_heap RBr.out
   by_cases hjt : j < tn
   ·
    obtain ⟨t, ht⟩ := get_someF (l := T) (k := j) (by rw [HTL.out]; exact hjt)
    obtain ⟨gt, ot, rfl, hgt, hct⟩ := row_get HRr.out ht
    have hj0 : (0 : Int) ≤ (j : Int) := by omega
    have hj1 : (j : Int) < (tn : Int) := by omega
    have HAT := Lib.hid (any_take (p := ouB c.n) ht)
    have HOF := Lib.hid (any_of (p := ouB c.n) ht)
    clear ht
    have hex2 : exB c.n t = decide (0 ≤ t ∧ t < (c.n : Int)) := rfl
    cases hex : exB c.n t with
    | false =>
     have H := Lib.hid (in_2 (L := L) (c := c) HE.out (by rw [HT.out]; exact HOF.out (by unfold ouB; rw [hex]; rfl)))
     rw [hex] at hex2
     have hex3 := of_decide_eq_false hex2.symm
     clear hex hex2
     by_cases hneg : t < 0
     ·
      have hd : decide (t < 0) = true := decide_eq_true hneg
      go_wp2
      go_quiet (fail)
      go_wp2
      go_ret
      exact ⟨by rw [← HR.out, H.out]; rfl, below_dr (below_on HB3.out HBR.out) _⟩
     ·
      have hd : decide (t < 0) = false := decide_eq_false hneg
      have hd2 : decide ((c.n : Int) ≤ t) = true := decide_eq_true (by omega)
      go_wp2
      go_quiet (fail)
      go_wp2
      go_ret
      exact ⟨by rw [← HR.out, H.out]; rfl, below_dr (below_on HB3.out HBR.out) _⟩
    | true =>
     have HO := Lib.hid (show ouB c.n t = false by unfold ouB; rw [hex]; rfl)
     rw [hex] at hex2
     have hex3 := of_decide_eq_true hex2.symm
     clear hex hex2
     have hd : decide (t < 0) = false := decide_eq_false (by omega)
     have hd2 : decide ((c.n : Int) ≤ t) = false := decide_eq_false (by omega)
     go_wp2
     go_quiet (fail)
     go_wp2
     exact ⟨⟨j + 1, hjt, by go_num, below_dr HBR.out _, by rw [HAT.out, HALL.out, HO.out]; rfl⟩, by simp [intOf]; omega⟩
   ·
    obtain ⟨rfl⟩ : tn = j := by omega
    have HAN := Lib.hid (show (tgL i).any (ouB c.n) = false by have h9 := HALL.out; rw [List.take_of_length_le (by rw [HTL.out]; exact Nat.le_refl _)] at h9; rw [HT.out]; exact h9)
    have HPr := Lib.hid (HP3.out.up HBR.out)
    have HBB := Lib.hid (below_on HB3.out HBR.out)
    obtain ⟨b0, b1, b2, b3, b4, b5, b6, b7, b8, b9⟩ := ten_cells XBr.out
    have yb := lt_heap XBr.out
    obtain ⟨kv, hkv⟩ : ∃ kv, kindV i.op = kv := ⟨_, rfl⟩
    have HKV := Lib.hid hkv
    clear hkv
    go_upto_region 11 with (go_at_call 71; refine (rkind_any i.op _).mono ?_; rintro e w' ⟨rfl, rfl⟩; rw [HKV.out])
    by_cases h4 : kv = 4
    ·
     by_cases hlo : c.lo ≤ i.a
     ·
      have H := Lib.hid (in_3 (L := L) HE.out HAN.out HKV.out (Or.inl h4) hlo)
      rw [h4]
      go_wp2
      go_ret
      exact ⟨by rw [← HR.out, H.out]; rfl, HBB.out⟩
     ·
      have H := Lib.hid (in_4 (L := L) HE.out HAN.out HKV.out (Or.inl h4) hlo)
      rw [h4]
      go_wp2
      go_ret
      exact ⟨by rw [← HR.out, H.out]; rfl, HBB.out⟩
    ·
     have e4 : (kv == 4) = false := by simpa using h4
     by_cases h5 : kv = 5
     ·
      by_cases hlo : c.lo ≤ i.a
      ·
       have H := Lib.hid (in_3 (L := L) HE.out HAN.out HKV.out (Or.inr h5) hlo)
       rw [h5]
       go_wp2
       go_ret
       exact ⟨by rw [← HR.out, H.out]; rfl, HBB.out⟩
      ·
       have H := Lib.hid (in_4 (L := L) HE.out HAN.out HKV.out (Or.inr h5) hlo)
       rw [h5]
       go_wp2
       go_ret
       exact ⟨by rw [← HR.out, H.out]; rfl, HBB.out⟩
     ·
      have e5 : (kv == 5) = false := by simpa using h5
      by_cases h2 : kv = 2
      ·
       have H := Lib.hid (in_5 (L := L) HE.out HAN.out HKV.out h2)
       rw [h2]
       go_wp2_with (go_at_call 72; refine (rpl_any i _ HS.out HN.out hN HPr.out).mono ?_; rintro e w3 ⟨rfl, hb3⟩; rw [pl_eq HVV.out])
       go_ret
       exact ⟨by rw [← HR.out, H.out]; rfl, below_on HBB.out hb3⟩
      ·
       have H := Lib.hid (in_6 (L := L) (c := c) HE.out HAN.out HKV.out (fun e => e.elim h4 h5) h2)
       have e2 : (kv == 2) = false := by simpa using h2
       go_wp2
       go_ret
       exact ⟨by rw [← HR.out, H.out]; rfl, HBB.out⟩
 ·
  have H := Lib.hid (in_1 (L := L) (c := c) (show ¬ ciE i = 0 by rw [HCE.out]; exact hE))
  have hne : (ce != 0) = true := by simpa using hE
  go_wp2_with (go_at_call 69; refine (rchk_any i _ IOK1.out).mono ?_; rintro e w2 ⟨rfl, hb2⟩; rw [HCE.out])
  go_ret
  exact ⟨by rw [← HR.out, H.out, HCE.out]; rfl, below_on HB.out hb2⟩
end Go.Proofs.YtalejaklggnnpaaGreatDoor.I
