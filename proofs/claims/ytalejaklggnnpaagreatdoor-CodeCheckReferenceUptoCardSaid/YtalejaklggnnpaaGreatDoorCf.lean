import Derived.Test.YtalejaklggnnpaaGreatDoorCe
import Derived.Deep.RegionHeld3
import Derived.Deep.DrawnRows
/- Layer 9: tags, array names; checkConstant. -/
namespace Go.Proofs.YtalejaklggnnpaaGreatDoor.I
open Go.ChangeShapes Go.WideShapes Go.ChangeAt Go.RowKit Go.PlainAid
set_option linter.unusedSimpArgs false
set_option linter.unusedVariables false
theorem tagsI_any (o : Int) (w : World) : Calls Tryz.prog 109 #[.int .i64 o] w (IntsRet w (tagsL o)) := by
 refine (tags_any o w).mono ?_
 rintro e w' ⟨rfl, rfl⟩
 unfold tagsV tagsW
 by_cases h : tagsL o = []
 ·
  rw [h]
  exact ints_nil w (Below.refl _ _)
 ·
  rw [if_neg h, if_neg h]
  refine ⟨some ⟨w.heap.size, 0, none⟩, (tagsL o).length, rfl, Nat.le_refl _, ?_, fun e => (by cases e), ?_, below_al (Below.refl _ _) _⟩
  ·
   unfold maxLen tagsL
   repeat' split
   all_goals simp
  ·
   refine Or.inr ⟨w.heap.size, 0, rfl, by simp, fun k x hk => ?_⟩
   have h1 := World.alloc_heap_new w (.cells ((tagsL o).map (Value.int .i64)).toArray 3)
   simp only [World.cell?, h1]
   simp [hk]
theorem tagsL_len (o : Int) : (tagsL o).length ≤ 3 := by
 unfold tagsL
 repeat' split
 all_goals simp
set_option maxRecDepth 100000 in
set_option maxHeartbeats 4000000 in
theorem ixn_any {A : Option Addr} {n c : Nat} {L : List Int} (x : Int) (hn : L.length = n) (hN : n ≤ 1000000) (w : World) (hp : Row w w.heap.size A L) :
  Calls Tryz.prog 148 #[.slice A n c, .int .i64 x] w (IxRet (L.any fun y => x == y) w) := by
 have HP := Lib.hid hp
 have HN := Lib.hid hn
 have HB := Lib.hid (Below.refl w.heap.size w)
 clear hp hn
 go_enter Tryz.func148, Tryz.ntmps148
 go_wp2
 go_loopw [8] (fun z wr => ∃ k : Nat, k ≤ n ∧ z = .int .i64 k ∧ (L.take k).any (fun y => x == y) = false ∧ w = wr) (fun z _ => n - (intOf z).toNat)
 case atStart => exact ⟨0, Nat.zero_le _, rfl, rfl, rfl⟩
 case round =>
  obtain ⟨k, hk, rfl, hall, rfl⟩ := hrel
  have HALL := Lib.hid hall
  clear hall
  by_cases hlt : k < n
  ·
   obtain ⟨i, hi⟩ := get_someF (l := L) (k := k) (by rw [HN.out]; exact hlt)
   obtain ⟨gt, ot, rfl, hgt, hct⟩ := row_get HP.out hi
   have HAT := Lib.hid (any_take (p := fun y => x == y) hi)
   have HOF := Lib.hid (any_of (p := fun y => x == y) hi)
   have hk0 : (0 : Int) ≤ (k : Int) := by omega
   have hk1 : (k : Int) < (n : Int) := by omega
   clear hi
   cases hc : (x == i) with
   | true =>
    have HC := Lib.hid (HOF.out hc)
    go_wp2
    go_ret
    exact ⟨k, rfl, by rw [HC.out]; simp, HB.out⟩
   | false =>
    have HC := Lib.hid hc
    go_wp2
    exact ⟨⟨k + 1, hlt, by go_num, by rw [HAT.out, HALL.out]; exact HC.out, trivial⟩, by simp [intOf]; omega⟩
  ·
   obtain rfl : n = k := by omega
   go_wp2
   go_ret
   exact ⟨-1, rfl, by have h9 := HALL.out; rw [List.take_of_length_le (by rw [HN.out]; exact Nat.le_refl _)] at h9; rw [h9]; decide, HB.out⟩
def hasI (L : List Int) (x : Int) : Bool := L.any fun y => x == y
set_option maxRecDepth 100000 in
set_option maxHeartbeats 4000000 in
theorem ctn_any {A : Option Addr} {n c : Nat} {L : List Int} (x : Int) (hn : L.length = n) (hN : n ≤ 1000000) (w : World) (hp : Row w w.heap.size A L) :
  Calls Tryz.prog 108 #[.slice A n c, .int .i64 x] w fun e w' => e = .returned (.bool (hasI L x)) ∧ Below w.heap.size w w' := by
 have K := Lib.hid (ixn_any (c := c) x hn hN w hp)
 unfold hasI
 clear hn hp
 generalize (L.any fun y => x == y) = b at K ⊢
 go_enter Tryz.func108, Tryz.ntmps108
 go_wp2_with (go_at_call 148; refine K.out.mono ?_; rintro e w2 ⟨r, rfl, hr, hb2⟩)
 go_ret
 exact ⟨by rw [← hr]; first | rfl | simp, hb2⟩
def arB (s : ByteArray) : Bool := Lib.hasPrefix s.data.toList [91]
theorem ar_any (s : ByteArray) (w : World) : Calls Tryz.prog 63 #[.string s] w fun e w' => e = .returned (.bool (arB s)) ∧ w = w' := by
 have K := Lib.hid (show Calls Tryz.prog 113 #[.string s, .string ⟨#[91]⟩] w fun e w' => e = .returned (.bool (arB s)) ∧ w = w' from (Tryz.strings_HasPrefix s ⟨#[91]⟩ w).mono fun e w' h => ⟨h.1, h.2.symm⟩)
 generalize arB s = b at K ⊢
 go_enter Tryz.func63, Tryz.ntmps63
 go_wp2_with (go_at_call 113; refine K.out.mono ?_; rintro e w' ⟨rfl, rfl⟩)
 go_ret
 exact ⟨rfl, rfl⟩
theorem fits_at {L : List Cn} (h : Fits L) (i : Int) : (atC L i).s.size ≤ 140737488351232 := by
 by_cases hi : 1 ≤ i ∧ i ≤ L.length
 ·
  unfold atC
  rw [if_pos hi, List.getD_eq_getElem?_getD, List.getElem?_eq_getElem (by omega)]
  exact h _ (List.getElem_mem _)
 ·
  rw [(at_out hi).1]; decide
/-- what checkConstant says of the constant that it finds -/
def cnK (L : List Cn) (op a : Int) (k : Cn) : Int :=
 if k.t = 7 then (if op = 67 ∧ arB (nmS L a 7) = true then 13 else 0)
 else if k.t = 1 then (if paE k.s ≠ 0 ∨ paB k.s = 86 then 13 else 0)
 else if k.t = 9 ∨ k.t = 10 ∨ k.t = 11 then (if arB (mrC L a k.t) = true then 13 else if Go.Proofs.YtalejaklggnnpaaGreatDoor.inB (mrN L a k.t) = true ∧ op ≠ 64 then 12 else 0)
 else 0
def cnE (L : List Cn) (op a : Int) : Int := if atE L a ≠ 0 then atE L a else if hasI (tagsL op) (atC L a).t = true then cnK L op a (atC L a) else 11
theorem cn_1 {L : List Cn} {op a : Int} (h : ¬ atE L a = 0) : cnE L op a = atE L a := by unfold cnE; rw [if_pos h]
theorem cn_2 {L : List Cn} {op a : Int} (h : atE L a = 0) (h1 : hasI (tagsL op) (atC L a).t = false) : cnE L op a = 11 := by unfold cnE; rw [if_neg (fun e => e h), h1]; rfl
theorem cn_3 {L : List Cn} {op a : Int} (h : atE L a = 0) (h1 : hasI (tagsL op) (atC L a).t = true) : cnE L op a = cnK L op a (atC L a) := by unfold cnE; rw [if_neg (fun e => e h), if_pos h1]
theorem ck_7a {L : List Cn} {op a : Int} {k : Cn} (h : k.t = 7) (h1 : op = 67) (h2 : arB (nmS L a 7) = true) : cnK L op a k = 13 := by unfold cnK; rw [if_pos h, if_pos ⟨h1, h2⟩]
theorem ck_7b {L : List Cn} {op a : Int} {k : Cn} (h : k.t = 7) (h1 : ¬ (op = 67 ∧ arB (nmS L a 7) = true)) : cnK L op a k = 0 := by unfold cnK; rw [if_pos h, if_neg h1]
theorem ck_1a {L : List Cn} {op a : Int} {k : Cn} (h : k.t = 1) (h1 : paE k.s ≠ 0 ∨ paB k.s = 86) : cnK L op a k = 13 := by unfold cnK; rw [if_neg (by omega), if_pos h, if_pos h1]
theorem ck_1b {L : List Cn} {op a : Int} {k : Cn} (h : k.t = 1) (h1 : ¬ (paE k.s ≠ 0 ∨ paB k.s = 86)) : cnK L op a k = 0 := by unfold cnK; rw [if_neg (by omega), if_pos h, if_neg h1]
theorem ck_ma {L : List Cn} {op a : Int} {k : Cn} {t : Int} (h : t = 9 ∨ t = 10 ∨ t = 11) (ht : k.t = t) (h1 : arB (mrC L a t) = true) : cnK L op a k = 13 := by
 subst ht; unfold cnK; rw [if_neg (by omega), if_neg (by omega), if_pos h, if_pos h1]
theorem ck_mb {L : List Cn} {op a : Int} {k : Cn} {t : Int} (h : t = 9 ∨ t = 10 ∨ t = 11) (ht : k.t = t) (h1 : arB (mrC L a t) = false) (h2 : Go.Proofs.YtalejaklggnnpaaGreatDoor.inB (mrN L a t) = true) (h3 : op ≠ 64) : cnK L op a k = 12 := by
 subst ht; unfold cnK; rw [if_neg (by omega), if_neg (by omega), if_pos h, h1, if_neg (by decide), if_pos ⟨h2, h3⟩]
theorem ck_mc {L : List Cn} {op a : Int} {k : Cn} {t : Int} (h : t = 9 ∨ t = 10 ∨ t = 11) (ht : k.t = t) (h1 : arB (mrC L a t) = false) (h2 : ¬ (Go.Proofs.YtalejaklggnnpaaGreatDoor.inB (mrN L a t) = true ∧ op ≠ 64)) : cnK L op a k = 0 := by
 subst ht; unfold cnK; rw [if_neg (by omega), if_neg (by omega), if_pos h, h1, if_neg (by decide), if_neg h2]
theorem ck_o {L : List Cn} {op a : Int} {k : Cn} (h : ¬ k.t = 7) (h1 : ¬ k.t = 1) (h2 : ¬ (k.t = 9 ∨ k.t = 10 ∨ k.t = 11)) : cnK L op a k = 0 := by unfold cnK; rw [if_neg h, if_neg h1, if_neg h2]
set_option maxRecDepth 100000 in
set_option maxHeartbeats 8000000 in
theorem ccn_any {A : Option Addr} {n cap : Nat} {L : List Cn} (i : In) (w : World) (hS : Fits L) (hn : L.length = n) (hN : n ≤ 100000) (hp : Pool w w.heap.size A L) :
  Calls Tryz.prog 61 #[.slice A n cap, (Value.agg #[Value.int IntKind.i64 (In.op i), Value.int IntKind.i64 (In.a i), Value.int IntKind.i64 (In.b i), Value.int IntKind.i64 (In.t i), Value.slice (In.kA i) (In.kn i) (In.kc i), Value.slice (In.tA i) (In.tn i) (In.tc i), Value.string (In.r1 i), Value.string (In.r2 i), Value.string (In.r3 i), Value.string (In.s i)])] w fun e w' => e = .returned (.int .i64 (cnE L i.op i.a)) ∧ Below w.heap.size w w' := by
 have hB : Below w.heap.size w w := Below.refl _ _
 have HS := Lib.hid (fits_at hS i.a)
 have HP := Lib.hid hp
 have HN := Lib.hid hn
 clear hS hp hn
 obtain ⟨r, hr⟩ : ∃ r, cnE L i.op i.a = r := ⟨_, rfl⟩
 have HR := Lib.hid hr
 rw [hr]
 clear hr
 obtain ⟨ae, hae⟩ : ∃ ae, atE L i.a = ae := ⟨_, rfl⟩
 have HAE := Lib.hid hae
 obtain ⟨k, hk⟩ : ∃ k, atC L i.a = k := ⟨_, rfl⟩
 have HK := Lib.hid hk
 rw [hk] at HS
 clear hae hk
 go_enter Tryz.func61, Tryz.ntmps61
 go_upto_region 1 with fail
 have R := World.alloc_heap_new w (.cells #[.int .i64 i.op, .int .i64 i.a, .int .i64 i.b, .int .i64 i.t, .slice i.kA i.kn i.kc, .slice i.tA i.tn i.tc, .string i.r1, .string i.r2, .string i.r3, .string i.s] 50)
 replace hB := below_al hB (.cells #[.int .i64 i.op, .int .i64 i.a, .int .i64 i.b, .int .i64 i.t, .slice i.kA i.kn i.kc, .slice i.tA i.tn i.tc, .string i.r1, .string i.r2, .string i.r3, .string i.s] 50)
 generalize w.alloc (.cells #[.int .i64 i.op, .int .i64 i.a, .int .i64 i.b, .int .i64 i.t, .slice i.kA i.kn i.kc, .slice i.tA i.tn i.tc, .string i.r1, .string i.r2, .string i.r3, .string i.s] 50) = W1 at R hB ⊢
 obtain ⟨r0, r1, r2, r3, r4, r5, r6, r7, r8, r9⟩ := ten_cells R
 have y1 := lt_heap R
 replace R := Lib.hid R
 have HP1 := Lib.hid (HP.out.up hB)
 go_upto_region 2 with (go_at_call 107; refine (at_any i.a HN.out hN HP1.out _ (Below.refl _ _)).mono ?_; rintro e w1 ⟨rfl, hb1⟩; rw [HAE.out, HK.out])
 have hX2 := World.alloc_heap_new w1 (.cells #[.int .i64 k.t, .string k.s, .int .i64 k.n, .int .i64 k.a, .int .i64 k.b] 155)
 have hbl := below_al hb1 (.cells #[.int .i64 k.t, .string k.s, .int .i64 k.n, .int .i64 k.a, .int .i64 k.b] 155)
 generalize hbb : w1.heap.size = B at hX2 ⊢
 generalize w1.alloc (.cells #[.int .i64 k.t, .string k.s, .int .i64 k.n, .int .i64 k.a, .int .i64 k.b] 155) = wA at hX2 hbl ⊢
 have XB := Lib.hid hX2
 have RB := Lib.hid ((hbl.block _ y1).trans R.out)
 have HB := Lib.hid (below_on hB hbl)
 have HPA := Lib.hid (HP1.out.up hbl)
 clear hX2 hbb r0 r1 r2 r3 r4 r5 r6 r7 r8 r9 y1 R hbl hb1 hB HP1
 clear w1 W1
 by_cases hE : ae = 0
 ·
  have HE := Lib.hid (show atE L i.a = 0 by rw [HAE.out]; exact hE)
  rw [hE]
  go_upto_region 4 with fail
  obtain ⟨b0, b1, b2, b3, b4, _⟩ := five_cells XB.out
  obtain ⟨r0, r1, r2, r3, r4, r5, r6, r7, r8, r9⟩ := ten_cells RB.out
  have yb := lt_heap XB.out
  have yr := lt_heap RB.out
  obtain ⟨hb, hhb⟩ : ∃ b, hasI (tagsL i.op) k.t = b := ⟨_, rfl⟩
  have HHB := Lib.hid hhb
  clear hhb
  go_region_held3 (fun w' => w'.cell? ⟨w.heap.size, 0, none⟩ = some (.int .i64 i.op) ∧ w'.cell? ⟨B, 0, none⟩ = some (.int .i64 k.t) ∧ w.heap.size < w'.heap.size ∧ B < w'.heap.size ∧ Below wA.heap.size wA w') (((try go_split_ands); (repeat' apply And.intro) <;> (first | assumption | exact (Below.refl _ _).drew | (first | exact below_on (w := wA) (by assumption) hq | exact Below.drew (by assumption) | assumption) | exact (Below.cell hq (by first | omega | (simp; omega))).trans (by assumption) | (have := hq.size; omega) | (simp; omega) | go_keep)))
   (first | (go_at_call 109; (with_reducible refine (tagsI_any i.op _).mono ?_); rintro e w2 ⟨A4, c4, rfl, _, _, _, hr4, hq⟩; have HR4 := Lib.hid hr4; clear hr4) | (go_at_call 108; (with_reducible refine (ctn_any k.t rfl (by have := tagsL_len i.op; omega) _ HR4.out).mono ?_); rintro e w2 ⟨rfl, hq⟩; rw [HHB.out]))
  go_split_ands
  have hend : Below wA.heap.size wA w2 := by assumption
  have RB2 := Lib.hid ((hend.block _ yr).trans RB.out)
  have XB2 := Lib.hid ((hend.block _ yb).trans XB.out)
  have HB2 := Lib.hid (below_on HB.out hend)
  have HP2 := Lib.hid (HPA.out.up hend)
  generalize hw2 : w2 = wB at RB2 XB2 HB2 HP2 ⊢
  clear hw2
  cases hb with
  | false =>
   have H := Lib.hid (cn_2 (op := i.op) HE.out (by rw [HK.out]; exact HHB.out))
   go_wp2
   go_ret
   exact ⟨by rw [← HR.out, H.out]; rfl, HB2.out⟩
  | true =>
   have H := Lib.hid (cn_3 (op := i.op) HE.out (by rw [HK.out]; exact HHB.out))
   have H9 := Lib.hid (show r = cnK L i.op i.a k by rw [← HR.out, H.out, HK.out])
   go_upto_region 6 with fail
   clear hend r0 r1 r2 r3 r4 r5 r6 r7 r8 r9 yr b0 b1 b2 b3 b4 yb RB XB HB HPA H HR HHB
   try clear hq
   obtain ⟨b0, b1, b2, b3, b4, _⟩ := five_cells XB2.out
   obtain ⟨r0, r1, r2, r3, r4, r5, r6, r7, r8, r9⟩ := ten_cells RB2.out
   have yb := lt_heap XB2.out
   have yr := lt_heap RB2.out
   obtain ⟨t, ht⟩ : ∃ t, k.t = t := ⟨_, rfl⟩
   have HT := Lib.hid ht
   rw [ht] at b0
   clear ht
   by_cases h7 : t = 7
   ·
    have HT7 := Lib.hid (show k.t = 7 by rw [HT.out]; exact h7)
    by_cases hop : i.op = 67
    ·
     have HOP := Lib.hid hop
     obtain ⟨ab, hab⟩ : ∃ ab, arB (nmS L i.a 7) = ab := ⟨_, rfl⟩
     have HAR := Lib.hid hab
     rw [h7] at b0
     rw [hop] at r0
     clear hab hop
     cases ab with
     | true =>
      have H := Lib.hid (ck_7a (L := L) HT7.out HOP.out HAR.out)
      go_wp2_with (first | (go_at_call 62; refine (cn_any i.a HN.out hN HP2.out _ (Below.refl _ _)).mono ?_; rintro e w3 ⟨rfl, hb3⟩; obtain ⟨hc3, hf3⟩ := bcell hb3; have hz3 := hb3.size) | (go_at_call 63; refine (ar_any _ _).mono ?_; rintro e w' ⟨rfl, rfl⟩; rw [HAR.out]))
      go_ret
      exact ⟨by rw [H9.out, H.out]; rfl, below_on HB2.out hb3⟩
     | false =>
      have H := Lib.hid (ck_7b (L := L) (op := i.op) HT7.out (fun e => by rw [HAR.out] at e; cases e.2))
      go_wp2_with (first | (go_at_call 62; refine (cn_any i.a HN.out hN HP2.out _ (Below.refl _ _)).mono ?_; rintro e w3 ⟨rfl, hb3⟩; obtain ⟨hc3, hf3⟩ := bcell hb3; have hz3 := hb3.size) | (go_at_call 63; refine (ar_any _ _).mono ?_; rintro e w' ⟨rfl, rfl⟩; rw [HAR.out]))
      go_ret
      exact ⟨by rw [H9.out, H.out]; rfl, below_on HB2.out hb3⟩
    ·
     have H := Lib.hid (ck_7b (L := L) (op := i.op) (a := i.a) HT7.out (fun e => hop e.1))
     have hne : (i.op == 67) = false := by simpa using hop
     rw [h7] at b0
     go_wp2_with (go_at_call 62; refine (cn_any i.a HN.out hN HP2.out _ (Below.refl _ _)).mono ?_; rintro e w3 ⟨rfl, hb3⟩; obtain ⟨hc3, hf3⟩ := bcell hb3; have hz3 := hb3.size)
     go_ret
     exact ⟨by rw [H9.out, H.out]; rfl, below_on HB2.out hb3⟩
   ·
    by_cases h1 : t = 1
    ·
     have HT1 := Lib.hid (show k.t = 1 by rw [HT.out]; exact h1)
     rw [h1] at b0
     clear h7
     obtain ⟨pe, hpe⟩ : ∃ pe, paE k.s = pe := ⟨_, rfl⟩
     have HPE := Lib.hid hpe
     obtain ⟨pb, hpb⟩ : ∃ pb, paB k.s = pb := ⟨_, rfl⟩
     have HPB := Lib.hid hpb
     clear hpe hpb
     by_cases h2 : pe = 0
     ·
      by_cases h3 : pb = 86
      ·
       have H := Lib.hid (ck_1a (L := L) (op := i.op) (a := i.a) HT1.out (Or.inr (by rw [HPB.out]; exact h3)))
       have e2 : (pe != 0) = false := by simpa using h2
       have e3 : (pb == 86) = true := by simpa using h3
       go_wp2_with (go_at_call 110; refine (parse_any k.s (by have := HS.out; omega) _).mono ?_; rintro e w3 ⟨rfl, hb3⟩; rw [HPE.out, HPB.out]; have hz3 := hb3.size)
       go_ret
       exact ⟨by rw [H9.out, H.out]; rfl, below_al (below_on HB2.out hb3) _⟩
      ·
       have H := Lib.hid (ck_1b (L := L) (op := i.op) (a := i.a) HT1.out (by rw [HPE.out, HPB.out]; rintro (e | e); exact e h2; exact h3 e))
       have e2 : (pe != 0) = false := by simpa using h2
       have e3 : (pb == 86) = false := by simpa using h3
       go_wp2_with (go_at_call 110; refine (parse_any k.s (by have := HS.out; omega) _).mono ?_; rintro e w3 ⟨rfl, hb3⟩; rw [HPE.out, HPB.out]; have hz3 := hb3.size)
       go_ret
       exact ⟨by rw [H9.out, H.out]; rfl, below_al (below_on HB2.out hb3) _⟩
     ·
      have H := Lib.hid (ck_1a (L := L) (op := i.op) (a := i.a) HT1.out (Or.inl (by rw [HPE.out]; exact h2)))
      have e2 : (pe != 0) = true := by simpa using h2
      go_wp2_with (go_at_call 110; refine (parse_any k.s (by have := HS.out; omega) _).mono ?_; rintro e w3 ⟨rfl, hb3⟩; rw [HPE.out, HPB.out]; have hz3 := hb3.size)
      go_ret
      exact ⟨by rw [H9.out, H.out]; rfl, below_al (below_on HB2.out hb3) _⟩
    ·
     by_cases hm : t = 9 ∨ t = 10 ∨ t = 11
     ·
      have HM := Lib.hid hm
      obtain ⟨ab, hab⟩ : ∃ ab, arB (mrC L i.a t) = ab := ⟨_, rfl⟩
      have HAR := Lib.hid hab
      obtain ⟨mn, hmn⟩ : ∃ mn, mrN L i.a t = mn := ⟨_, rfl⟩
      have HMN := Lib.hid hmn
      clear hab hmn
      have e7 : (t == 7) = false := by simpa using h7
      have e1 : (t == 1) = false := by simpa using h1
      clear h7 h1
      rcases hm with rfl | rfl | rfl
      ·
       cases ab with
       | true =>
        have H := Lib.hid (ck_ma (op := i.op) HM.out HT.out HAR.out)
        go_wp2_with (first | (go_at_call 111; refine (mr_any i.a 9 HN.out hN HP2.out _ (Below.refl _ _)).mono ?_; rintro e w3 ⟨rfl, hb3⟩; rw [HMN.out]; obtain ⟨hc3, hf3⟩ := bcell hb3; have hz3 := hb3.size; have hz4 : w.heap.size < w3.heap.size := by omega) | (go_at_call 63; refine (ar_any _ _).mono ?_; rintro e w' ⟨rfl, rfl⟩; rw [HAR.out]))
        go_ret
        exact ⟨by rw [H9.out, H.out]; rfl, below_al (below_on HB2.out hb3) _⟩
       | false =>
        by_cases hin : mn.toList = [60, 105, 110, 105, 116, 62]
        ·
         by_cases hop : i.op = 64
         ·
          have H := Lib.hid (ck_mc (op := i.op) HM.out HT.out HAR.out (fun e => e.2 hop))
          rw [hop] at r0
          clear hop
          go_wp2_with (first | (go_at_call 111; refine (mr_any i.a 9 HN.out hN HP2.out _ (Below.refl _ _)).mono ?_; rintro e w3 ⟨rfl, hb3⟩; rw [HMN.out]; obtain ⟨hc3, hf3⟩ := bcell hb3; have hz3 := hb3.size; have hz4 : w.heap.size < w3.heap.size := by omega) | (go_at_call 63; refine (ar_any _ _).mono ?_; rintro e w' ⟨rfl, rfl⟩; rw [HAR.out]))
          go_ret
          exact ⟨by rw [H9.out, H.out]; rfl, below_al (below_on HB2.out hb3) _⟩
         ·
          have H := Lib.hid (ck_mb (op := i.op) HM.out HT.out HAR.out (by rw [HMN.out]; exact in_p hin) hop)
          have eop : (i.op != 64) = true := by simpa using hop
          go_wp2_with (first | (go_at_call 111; refine (mr_any i.a 9 HN.out hN HP2.out _ (Below.refl _ _)).mono ?_; rintro e w3 ⟨rfl, hb3⟩; rw [HMN.out]; obtain ⟨hc3, hf3⟩ := bcell hb3; have hz3 := hb3.size; have hz4 : w.heap.size < w3.heap.size := by omega) | (go_at_call 63; refine (ar_any _ _).mono ?_; rintro e w' ⟨rfl, rfl⟩; rw [HAR.out]))
          go_ret
          exact ⟨by rw [H9.out, H.out]; rfl, below_al (below_on HB2.out hb3) _⟩
        ·
         have H := Lib.hid (ck_mc (op := i.op) HM.out HT.out HAR.out (fun e => by have e9 := e.1; rw [HMN.out, in_n hin] at e9; cases e9))
         go_wp2_with (first | (go_at_call 111; refine (mr_any i.a 9 HN.out hN HP2.out _ (Below.refl _ _)).mono ?_; rintro e w3 ⟨rfl, hb3⟩; rw [HMN.out]; obtain ⟨hc3, hf3⟩ := bcell hb3; have hz3 := hb3.size; have hz4 : w.heap.size < w3.heap.size := by omega) | (go_at_call 63; refine (ar_any _ _).mono ?_; rintro e w' ⟨rfl, rfl⟩; rw [HAR.out]))
         go_ret
         exact ⟨by rw [H9.out, H.out]; rfl, below_al (below_on HB2.out hb3) _⟩
      ·
       cases ab with
       | true =>
        have H := Lib.hid (ck_ma (op := i.op) HM.out HT.out HAR.out)
        go_wp2_with (first | (go_at_call 111; refine (mr_any i.a 10 HN.out hN HP2.out _ (Below.refl _ _)).mono ?_; rintro e w3 ⟨rfl, hb3⟩; rw [HMN.out]; obtain ⟨hc3, hf3⟩ := bcell hb3; have hz3 := hb3.size; have hz4 : w.heap.size < w3.heap.size := by omega) | (go_at_call 63; refine (ar_any _ _).mono ?_; rintro e w' ⟨rfl, rfl⟩; rw [HAR.out]))
        go_ret
        exact ⟨by rw [H9.out, H.out]; rfl, below_al (below_on HB2.out hb3) _⟩
       | false =>
        by_cases hin : mn.toList = [60, 105, 110, 105, 116, 62]
        ·
         by_cases hop : i.op = 64
         ·
          have H := Lib.hid (ck_mc (op := i.op) HM.out HT.out HAR.out (fun e => e.2 hop))
          rw [hop] at r0
          clear hop
          go_wp2_with (first | (go_at_call 111; refine (mr_any i.a 10 HN.out hN HP2.out _ (Below.refl _ _)).mono ?_; rintro e w3 ⟨rfl, hb3⟩; rw [HMN.out]; obtain ⟨hc3, hf3⟩ := bcell hb3; have hz3 := hb3.size; have hz4 : w.heap.size < w3.heap.size := by omega) | (go_at_call 63; refine (ar_any _ _).mono ?_; rintro e w' ⟨rfl, rfl⟩; rw [HAR.out]))
          go_ret
          exact ⟨by rw [H9.out, H.out]; rfl, below_al (below_on HB2.out hb3) _⟩
         ·
          have H := Lib.hid (ck_mb (op := i.op) HM.out HT.out HAR.out (by rw [HMN.out]; exact in_p hin) hop)
          have eop : (i.op != 64) = true := by simpa using hop
          go_wp2_with (first | (go_at_call 111; refine (mr_any i.a 10 HN.out hN HP2.out _ (Below.refl _ _)).mono ?_; rintro e w3 ⟨rfl, hb3⟩; rw [HMN.out]; obtain ⟨hc3, hf3⟩ := bcell hb3; have hz3 := hb3.size; have hz4 : w.heap.size < w3.heap.size := by omega) | (go_at_call 63; refine (ar_any _ _).mono ?_; rintro e w' ⟨rfl, rfl⟩; rw [HAR.out]))
          go_ret
          exact ⟨by rw [H9.out, H.out]; rfl, below_al (below_on HB2.out hb3) _⟩
        ·
         have H := Lib.hid (ck_mc (op := i.op) HM.out HT.out HAR.out (fun e => by have e9 := e.1; rw [HMN.out, in_n hin] at e9; cases e9))
         go_wp2_with (first | (go_at_call 111; refine (mr_any i.a 10 HN.out hN HP2.out _ (Below.refl _ _)).mono ?_; rintro e w3 ⟨rfl, hb3⟩; rw [HMN.out]; obtain ⟨hc3, hf3⟩ := bcell hb3; have hz3 := hb3.size; have hz4 : w.heap.size < w3.heap.size := by omega) | (go_at_call 63; refine (ar_any _ _).mono ?_; rintro e w' ⟨rfl, rfl⟩; rw [HAR.out]))
         go_ret
         exact ⟨by rw [H9.out, H.out]; rfl, below_al (below_on HB2.out hb3) _⟩
      ·
       cases ab with
       | true =>
        have H := Lib.hid (ck_ma (op := i.op) HM.out HT.out HAR.out)
        go_wp2_with (first | (go_at_call 111; refine (mr_any i.a 11 HN.out hN HP2.out _ (Below.refl _ _)).mono ?_; rintro e w3 ⟨rfl, hb3⟩; rw [HMN.out]; obtain ⟨hc3, hf3⟩ := bcell hb3; have hz3 := hb3.size; have hz4 : w.heap.size < w3.heap.size := by omega) | (go_at_call 63; refine (ar_any _ _).mono ?_; rintro e w' ⟨rfl, rfl⟩; rw [HAR.out]))
        go_ret
        exact ⟨by rw [H9.out, H.out]; rfl, below_al (below_on HB2.out hb3) _⟩
       | false =>
        by_cases hin : mn.toList = [60, 105, 110, 105, 116, 62]
        ·
         by_cases hop : i.op = 64
         ·
          have H := Lib.hid (ck_mc (op := i.op) HM.out HT.out HAR.out (fun e => e.2 hop))
          rw [hop] at r0
          clear hop
          go_wp2_with (first | (go_at_call 111; refine (mr_any i.a 11 HN.out hN HP2.out _ (Below.refl _ _)).mono ?_; rintro e w3 ⟨rfl, hb3⟩; rw [HMN.out]; obtain ⟨hc3, hf3⟩ := bcell hb3; have hz3 := hb3.size; have hz4 : w.heap.size < w3.heap.size := by omega) | (go_at_call 63; refine (ar_any _ _).mono ?_; rintro e w' ⟨rfl, rfl⟩; rw [HAR.out]))
          go_ret
          exact ⟨by rw [H9.out, H.out]; rfl, below_al (below_on HB2.out hb3) _⟩
         ·
          have H := Lib.hid (ck_mb (op := i.op) HM.out HT.out HAR.out (by rw [HMN.out]; exact in_p hin) hop)
          have eop : (i.op != 64) = true := by simpa using hop
          go_wp2_with (first | (go_at_call 111; refine (mr_any i.a 11 HN.out hN HP2.out _ (Below.refl _ _)).mono ?_; rintro e w3 ⟨rfl, hb3⟩; rw [HMN.out]; obtain ⟨hc3, hf3⟩ := bcell hb3; have hz3 := hb3.size; have hz4 : w.heap.size < w3.heap.size := by omega) | (go_at_call 63; refine (ar_any _ _).mono ?_; rintro e w' ⟨rfl, rfl⟩; rw [HAR.out]))
          go_ret
          exact ⟨by rw [H9.out, H.out]; rfl, below_al (below_on HB2.out hb3) _⟩
        ·
         have H := Lib.hid (ck_mc (op := i.op) HM.out HT.out HAR.out (fun e => by have e9 := e.1; rw [HMN.out, in_n hin] at e9; cases e9))
         go_wp2_with (first | (go_at_call 111; refine (mr_any i.a 11 HN.out hN HP2.out _ (Below.refl _ _)).mono ?_; rintro e w3 ⟨rfl, hb3⟩; rw [HMN.out]; obtain ⟨hc3, hf3⟩ := bcell hb3; have hz3 := hb3.size; have hz4 : w.heap.size < w3.heap.size := by omega) | (go_at_call 63; refine (ar_any _ _).mono ?_; rintro e w' ⟨rfl, rfl⟩; rw [HAR.out]))
         go_ret
         exact ⟨by rw [H9.out, H.out]; rfl, below_al (below_on HB2.out hb3) _⟩
     ·
      have H := Lib.hid (ck_o (L := L) (op := i.op) (a := i.a) (k := k) (by rw [HT.out]; exact h7) (by rw [HT.out]; exact h1) (by rw [HT.out]; exact hm))
      have e7 : (t == 7) = false := by simpa using h7
      have e1 : (t == 1) = false := by simpa using h1
      have e9 : (t == 9) = false := by simp; omega
      have e10 : (t == 10) = false := by simp; omega
      have e11 : (t == 11) = false := by simp; omega
      clear h7 h1 hm
      go_wp2
      go_ret
      exact ⟨by rw [H9.out, H.out]; rfl, HB2.out⟩
 ·
  have H := Lib.hid (cn_1 (op := i.op) (show ¬ atE L i.a = 0 by rw [HAE.out]; exact hE))
  have hne : (ae != 0) = true := by simpa using hE
  go_wp2
  go_ret
  exact ⟨by rw [← HR.out, H.out, HAE.out]; rfl, HB.out⟩
end Go.Proofs.YtalejaklggnnpaaGreatDoor.I
