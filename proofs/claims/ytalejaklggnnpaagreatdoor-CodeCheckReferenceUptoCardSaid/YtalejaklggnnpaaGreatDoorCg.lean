import Derived.Test.YtalejaklggnnpaaGreatDoorCf
/- Layer 9: checkInsn. -/
namespace Go.Proofs.YtalejaklggnnpaaGreatDoor.I
open Go.ChangeShapes Go.WideShapes Go.ChangeAt Go.RowKit Go.PlainAid
set_option linter.unusedSimpArgs false
set_option linter.unusedVariables false
theorem two_laid9 (w : World) (o1 o2 : Obj) : ((w.alloc o1).alloc o2).heap[w.heap.size]? = some o1 ∧ ((w.alloc o1).alloc o2).heap[w.heap.size + 1]? = some o2 ∧ Below w.heap.size w ((w.alloc o1).alloc o2) := by
 refine ⟨laid_old (World.alloc_heap_new w o1), ?_, below_al (below_al (Below.refl _ _) _) _⟩
 have := World.alloc_heap_new (w.alloc o1) o2
 simpa using this
def ouB (n : Nat) (x : Int) : Bool := !exB n x
def inE (L : List Cn) (c : Cd) (i : In) : Int :=
 if ciE i ≠ 0 then ciE i else if (tgL i).any (ouB c.n) = true then 16 else if kindV i.op = 4 ∨ kindV i.op = 5 then (if c.lo ≤ i.a then 21 else 0) else if kindV i.op = 2 then cnE L i.op i.a else 0
theorem in_1 {L : List Cn} {c : Cd} {i : In} (h : ¬ ciE i = 0) : inE L c i = ciE i := by unfold inE; rw [if_pos h]
theorem in_2 {L : List Cn} {c : Cd} {i : In} (h : ciE i = 0) (h1 : (tgL i).any (ouB c.n) = true) : inE L c i = 16 := by unfold inE; rw [if_neg (fun e => e h), if_pos h1]
theorem in_3 {L : List Cn} {c : Cd} {i : In} {k : Int} (h : ciE i = 0) (h1 : (tgL i).any (ouB c.n) = false) (hk : kindV i.op = k) (h2 : k = 4 ∨ k = 5) (h3 : c.lo ≤ i.a) : inE L c i = 21 := by subst hk; unfold inE; rw [if_neg (fun e => e h), h1, if_neg (by decide), if_pos h2, if_pos h3]
theorem in_4 {L : List Cn} {c : Cd} {i : In} {k : Int} (h : ciE i = 0) (h1 : (tgL i).any (ouB c.n) = false) (hk : kindV i.op = k) (h2 : k = 4 ∨ k = 5) (h3 : ¬ c.lo ≤ i.a) : inE L c i = 0 := by subst hk; unfold inE; rw [if_neg (fun e => e h), h1, if_neg (by decide), if_pos h2, if_neg h3]
theorem in_5 {L : List Cn} {c : Cd} {i : In} {k : Int} (h : ciE i = 0) (h1 : (tgL i).any (ouB c.n) = false) (hk : kindV i.op = k) (h2 : k = 2) : inE L c i = cnE L i.op i.a := by subst hk; unfold inE; rw [if_neg (fun e => e h), h1, if_neg (by decide), if_neg (by omega), if_pos h2]
theorem in_6 {L : List Cn} {c : Cd} {i : In} {k : Int} (h : ciE i = 0) (h1 : (tgL i).any (ouB c.n) = false) (hk : kindV i.op = k) (h2 : ¬ (k = 4 ∨ k = 5)) (h3 : ¬ k = 2) : inE L c i = 0 := by subst hk; unfold inE; rw [if_neg (fun e => e h), h1, if_neg (by decide), if_neg h2, if_neg h3]
set_option maxRecDepth 100000 in
set_option maxHeartbeats 8000000 in
theorem cin_any {A : Option Addr} {n cap : Nat} {L : List Cn} (c : Cd) (i : In) (w : World) (hS : Fits L) (hn : L.length = n) (hN : n ≤ 100000) (hp : Pool w w.heap.size A L) (hiok : i.ok w w.heap.size) (hz : i.nz) (ht : i.tn ≤ 17592186043904) :
  Calls Tryz.prog 24 #[.slice A n cap, (Value.agg #[Value.int IntKind.i64 (Cd.st c), Value.int IntKind.i64 (Cd.lo c), Value.slice (Cd.iA c) (Cd.n c) (Cd.ic c), Value.slice (Cd.hA c) (Cd.hn c) (Cd.hc c), Value.slice (Cd.mA c) (Cd.mn c) (Cd.mc c), Value.slice (Cd.lA c) (Cd.ln c) (Cd.lc c)]), (Value.agg #[Value.int IntKind.i64 (In.op i), Value.int IntKind.i64 (In.a i), Value.int IntKind.i64 (In.b i), Value.int IntKind.i64 (In.t i), Value.slice (In.kA i) (In.kn i) (In.kc i), Value.slice (In.tA i) (In.tn i) (In.tc i), Value.string (In.r1 i), Value.string (In.r2 i), Value.string (In.r3 i), Value.string (In.s i)])] w fun e w' => e = .returned (.int .i64 (inE L c i)) ∧ Below w.heap.size w w' := by
 have HS := Lib.hid hS
 have HP := Lib.hid hp
 have HN := Lib.hid hn
 have HZ := Lib.hid hz
 have HTN := Lib.hid ht
 have IOK := Lib.hid hiok
 clear hS hp hn hz hiok ht
 obtain ⟨r, hr⟩ : ∃ r, inE L c i = r := ⟨_, rfl⟩
 have HR := Lib.hid hr
 rw [hr]
 obtain ⟨ce, hce⟩ : ∃ ce, ciE i = ce := ⟨_, rfl⟩
 have HCE := Lib.hid hce
 clear hr hce
 go_enter Tryz.func24, Tryz.ntmps24
 go_upto_region 1 with fail
 obtain ⟨H0, H1, hB⟩ := two_laid9 w (.cells #[.int .i64 c.st, .int .i64 c.lo, .slice c.iA c.n c.ic, .slice c.hA c.hn c.hc, .slice c.mA c.mn c.mc, .slice c.lA c.ln c.lc] 28) (.cells #[.int .i64 i.op, .int .i64 i.a, .int .i64 i.b, .int .i64 i.t, .slice i.kA i.kn i.kc, .slice i.tA i.tn i.tc, .string i.r1, .string i.r2, .string i.r3, .string i.s] 50)
 generalize (w.alloc (.cells #[.int .i64 c.st, .int .i64 c.lo, .slice c.iA c.n c.ic, .slice c.hA c.hn c.hc, .slice c.mA c.mn c.mc, .slice c.lA c.ln c.lc] 28)).alloc (.cells #[.int .i64 i.op, .int .i64 i.a, .int .i64 i.b, .int .i64 i.t, .slice i.kA i.kn i.kc, .slice i.tA i.tn i.tc, .string i.r1, .string i.r2, .string i.r3, .string i.s] 50) = W at H0 H1 hB ⊢
 have RB := Lib.hid H0
 have XB := Lib.hid H1
 have HP1 := Lib.hid (HP.out.up hB)
 have IOK1 := Lib.hid (IOK.out.up hB)
 have HB := Lib.hid hB
 clear H0 H1 hB
 obtain ⟨r0, r1, r2, r3, r4, r5⟩ := six_cells RB.out
 obtain ⟨b0, b1, b2, b3, b4, b5, b6, b7, b8, b9⟩ := ten_cells XB.out
 have yr := lt_heap RB.out
 have yb := lt_heap XB.out
 by_cases hE : ce = 0
 ·
  have HE := Lib.hid (show ciE i = 0 by rw [HCE.out]; exact hE)
  rw [hE] at HCE
  go_upto_region 4 with (go_at_call 59; refine (chk_any i _ IOK1.out).mono ?_; rintro e w2 ⟨rfl, hb2⟩; rw [HCE.out])
  have RB2 := Lib.hid ((hb2.block _ yr).trans RB.out)
  have XB2 := Lib.hid ((hb2.block _ yb).trans XB.out)
  have HP2 := Lib.hid (HP1.out.up hb2)
  have IOK2 := Lib.hid (IOK1.out.up hb2)
  have HB2 := Lib.hid (below_on HB.out hb2)
  clear r0 r1 r2 r3 r4 r5 b0 b1 b2 b3 b4 b5 b6 b7 b8 b9 yr yb RB XB HP1 IOK1 hb2 HB HCE
  clear W
  obtain ⟨b0, b1, b2, b3, b4, b5, b6, b7, b8, b9⟩ := ten_cells XB2.out
  have yb := lt_heap XB2.out
  go_upto_region 5 with (go_at_call 55; refine (tg_any i _ IOK2.out HZ.out HTN.out).mono ?_; rintro e W3 ⟨A3, c3, rfl, hl3, hm3, hn3, hr3, hb3⟩)
  have RB3 := Lib.hid ((hb3.block _ (lt_heap RB2.out)).trans RB2.out)
  have XB3 := Lib.hid ((hb3.block _ yb).trans XB2.out)
  have HP3 := Lib.hid (HP2.out.up hb3)
  have IOK3 := Lib.hid (IOK2.out.up hb3)
  have HB3 := Lib.hid (below_on HB2.out hb3)
  have HR3 := Lib.hid hr3
  clear hr3 b0 b1 b2 b3 b4 b5 b6 b7 b8 b9 yb RB2 XB2 HP2 IOK2 HB2 hb3
  obtain ⟨T, hT⟩ : ∃ T, tgL i = T := ⟨_, rfl⟩
  have HT := Lib.hid hT
  rw [hT] at HR3 hl3
  rw [hT]
  obtain ⟨tn, htn⟩ : ∃ tn, T.length = tn := ⟨_, rfl⟩
  have HTL := Lib.hid htn
  rw [htn] at hl3 ⊢
  have htb : tn ≤ 9223372036854775807 := by have := hm3; unfold maxLen at this; omega
  clear hT htn
  go_loopw [18] (fun z wr => ∃ j : Nat, j ≤ tn ∧ z = .int .i64 j ∧ Below W3.heap.size W3 wr ∧ (T.take j).any (ouB c.n) = false) (fun z _ => tn - (intOf z).toNat)
  case atStart => exact ⟨0, Nat.zero_le _, rfl, Below.refl _ _, rfl⟩
  case round =>
   obtain ⟨j, hj, rfl, hbr, hall⟩ := hrel
   have HBR := Lib.hid hbr
   have HALL := Lib.hid hall
   have RBr := Lib.hid ((hbr.block _ (lt_heap RB3.out)).trans RB3.out)
   have XBr := Lib.hid ((hbr.block _ (lt_heap XB3.out)).trans XB3.out)
   have HRr := Lib.hid (HR3.out.up hbr)
   clear hbr hall
   obtain ⟨r0, r1, r2, r3, r4, r5⟩ := six_cells RBr.out
   have yr := lt_heap RBr.out
   by_cases hjt : j < tn
   ·
    obtain ⟨t, ht⟩ := get_someF (l := T) (k := j) (by rw [HTL.out]; exact hjt)
    obtain ⟨gt, ot, rfl, hgt, hct⟩ := row_get HRr.out ht
    have hj0 : (0 : Int) ≤ (j : Int) := by omega
    have hj1 : (j : Int) < (tn : Int) := by omega
    have HAT := Lib.hid (any_take (p := ouB c.n) ht)
    have HOF := Lib.hid (any_of (p := ouB c.n) ht)
    clear ht
    cases hex : exB c.n t with
    | false =>
     have HET := Lib.hid hex
     have H := Lib.hid (in_2 (L := L) (c := c) HE.out (by rw [HT.out]; exact HOF.out (by unfold ouB; rw [hex]; rfl)))
     clear hex
     go_wp2_with (go_at_call 28; (with_reducible refine (cex_gen _ _).mono ?_); rintro e w2 ⟨rfl, hb2⟩; rw [HET.out])
     go_ret
     exact ⟨by rw [← HR.out, H.out]; rfl, below_on (below_on HB3.out HBR.out) hb2⟩
    | true =>
     have HET := Lib.hid hex
     have HO := Lib.hid (show ouB c.n t = false by unfold ouB; rw [hex]; rfl)
     clear hex
     go_wp2_with (go_at_call 28; (with_reducible refine (cex_gen _ _).mono ?_); rintro e w2 ⟨rfl, hb2⟩; rw [HET.out])
     exact ⟨⟨j + 1, hjt, by go_num, below_on HBR.out hb2, by rw [HAT.out, HALL.out, HO.out]; rfl⟩, by simp [intOf]; omega⟩
   ·
    obtain ⟨rfl⟩ : tn = j := by omega
    have HAN := Lib.hid (show (tgL i).any (ouB c.n) = false by have h9 := HALL.out; rw [List.take_of_length_le (by rw [HTL.out]; exact Nat.le_refl _)] at h9; rw [HT.out]; exact h9)
    have HPr := Lib.hid (HP3.out.up HBR.out)
    have HBB := Lib.hid (below_on HB3.out HBR.out)
    obtain ⟨b0, b1, b2, b3, b4, b5, b6, b7, b8, b9⟩ := ten_cells XBr.out
    have yb := lt_heap XBr.out
    obtain ⟨kv, hkv⟩ : ∃ kv, kindV i.op = kv := ⟨_, rfl⟩
    have HKV := Lib.hid hkv
    clear hkv
    go_upto_region 11 with (go_at_call 60; refine (kind_any i.op _).mono ?_; rintro e w' ⟨rfl, rfl⟩; rw [HKV.out])
    by_cases h4 : kv = 4
    ·
     by_cases hlo : c.lo ≤ i.a
     ·
      have H := Lib.hid (in_3 (L := L) HE.out HAN.out HKV.out (Or.inl h4) hlo)
      rw [h4]
      go_wp2
      go_ret
      exact ⟨by rw [← HR.out, H.out]; rfl, HBB.out⟩
     ·
      have H := Lib.hid (in_4 (L := L) HE.out HAN.out HKV.out (Or.inl h4) hlo)
      rw [h4]
      go_wp2
      go_ret
      exact ⟨by rw [← HR.out, H.out]; rfl, HBB.out⟩
    ·
     have e4 : (kv == 4) = false := by simpa using h4
     by_cases h5 : kv = 5
     ·
      by_cases hlo : c.lo ≤ i.a
      ·
       have H := Lib.hid (in_3 (L := L) HE.out HAN.out HKV.out (Or.inr h5) hlo)
       rw [h5]
       go_wp2
       go_ret
       exact ⟨by rw [← HR.out, H.out]; rfl, HBB.out⟩
      ·
       have H := Lib.hid (in_4 (L := L) HE.out HAN.out HKV.out (Or.inr h5) hlo)
       rw [h5]
       go_wp2
       go_ret
       exact ⟨by rw [← HR.out, H.out]; rfl, HBB.out⟩
     ·
      have e5 : (kv == 5) = false := by simpa using h5
      by_cases h2 : kv = 2
      ·
       have H := Lib.hid (in_5 (L := L) HE.out HAN.out HKV.out h2)
       rw [h2]
       go_wp2_with (go_at_call 61; refine (ccn_any i _ HS.out HN.out hN HPr.out).mono ?_; rintro e w3 ⟨rfl, hb3⟩)
       go_ret
       exact ⟨by rw [← HR.out, H.out]; rfl, below_on HBB.out hb3⟩
      ·
       have H := Lib.hid (in_6 (L := L) (c := c) HE.out HAN.out HKV.out (fun e => e.elim h4 h5) h2)
       have e2 : (kv == 2) = false := by simpa using h2
       go_wp2
       go_ret
       exact ⟨by rw [← HR.out, H.out]; rfl, HBB.out⟩
 ·
  have H := Lib.hid (in_1 (L := L) (c := c) (show ¬ ciE i = 0 by rw [HCE.out]; exact hE))
  have hne : (ce != 0) = true := by simpa using hE
  go_wp2_with (go_at_call 59; refine (chk_any i _ IOK1.out).mono ?_; rintro e w2 ⟨rfl, hb2⟩; rw [HCE.out])
  go_ret
  exact ⟨by rw [← HR.out, H.out, HCE.out]; rfl, below_on HB.out hb2⟩
end Go.Proofs.YtalejaklggnnpaaGreatDoor.I
