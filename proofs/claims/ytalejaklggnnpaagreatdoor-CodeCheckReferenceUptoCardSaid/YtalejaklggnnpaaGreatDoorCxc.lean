import Derived.Test.YtalejaklggnnpaaGreatDoorCxb
/- Layer 9, the reference: place. -/
namespace Go.Proofs.YtalejaklggnnpaaGreatDoor.I
open Go.ChangeShapes Go.WideShapes Go.ChangeAt Go.RowKit Go.PlainAid
set_option linter.unusedSimpArgs false
set_option linter.unusedVariables false
theorem tagsI_ret (o : Int) (w : World) : IntsRet w (tagsL o) (.returned (tagsV w (tagsL o))) (tagsW w (tagsL o)) := by
 unfold tagsV tagsW
 by_cases h : tagsL o = []
 ·
  rw [h]
  exact ints_nil w (Below.refl _ _)
 ·
  rw [if_neg h, if_neg h]
  refine ⟨some ⟨w.heap.size, 0, none⟩, (tagsL o).length, rfl, Nat.le_refl _, ?_, fun e => (by cases e), ?_, below_al (Below.refl _ _) _⟩
  ·
   unfold maxLen tagsL
   repeat' split
   all_goals simp
  ·
   refine Or.inr ⟨w.heap.size, 0, rfl, by simp, fun k x hk => ?_⟩
   have h1 := World.alloc_heap_new w (.cells ((tagsL o).map (Value.int .i64)).toArray 3)
   simp only [World.cell?, h1]
   simp [hk]
theorem rtagsI_any (o : Int) (w : World) : Calls Tryz.prog 123 #[.int .i64 o] w (IntsRet w (tagsL o)) := by
 refine (rtags_any o w).mono ?_
 rintro e w' ⟨rfl, rfl⟩
 exact tagsI_ret o w
set_option maxRecDepth 100000 in
set_option maxHeartbeats 16000000 in
theorem rpl_any {A : Option Addr} {n cap : Nat} {L : List Cn} (i : In) (w : World) (hS : Fits L) (hn : L.length = n) (hN : n ≤ 100000) (hp : Pool w w.heap.size A L) :
  Calls Tryz.prog 72 #[.slice A n cap, (Value.agg #[Value.int IntKind.i64 (In.op i), Value.int IntKind.i64 (In.a i), Value.int IntKind.i64 (In.b i), Value.int IntKind.i64 (In.t i), Value.slice (In.kA i) (In.kn i) (In.kc i), Value.slice (In.tA i) (In.tn i) (In.tc i), Value.string (In.r1 i), Value.string (In.r2 i), Value.string (In.r3 i), Value.string (In.s i)])] w fun e w' => e = .returned (.int .i64 (plR L i.op i.a)) ∧ Below w.heap.size w w' := by
 have hB : Below w.heap.size w w := Below.refl _ _
 have HS := Lib.hid (fits_at hS i.a)
 have HSS := Lib.hid hS
 have HP := Lib.hid hp
 have HN := Lib.hid hn
 clear hS hp hn
 obtain ⟨r, hr⟩ : ∃ r, plR L i.op i.a = r := ⟨_, rfl⟩
 have HR := Lib.hid hr
 rw [hr]
 clear hr
 obtain ⟨ae, hae⟩ : ∃ ae, atE L i.a = ae := ⟨_, rfl⟩
 have HAE := Lib.hid hae
 obtain ⟨k, hk⟩ : ∃ k, atC L i.a = k := ⟨_, rfl⟩
 have HK := Lib.hid hk
 rw [hk] at HS
 clear hae hk
 go_enter Tryz.func72, Tryz.ntmps72
 go_upto_region 1 with fail
 have R := World.alloc_heap_new w (.cells #[.int .i64 i.op, .int .i64 i.a, .int .i64 i.b, .int .i64 i.t, .slice i.kA i.kn i.kc, .slice i.tA i.tn i.tc, .string i.r1, .string i.r2, .string i.r3, .string i.s] 50)
 replace hB := below_al hB (.cells #[.int .i64 i.op, .int .i64 i.a, .int .i64 i.b, .int .i64 i.t, .slice i.kA i.kn i.kc, .slice i.tA i.tn i.tc, .string i.r1, .string i.r2, .string i.r3, .string i.s] 50)
 generalize w.alloc (.cells #[.int .i64 i.op, .int .i64 i.a, .int .i64 i.b, .int .i64 i.t, .slice i.kA i.kn i.kc, .slice i.tA i.tn i.tc, .string i.r1, .string i.r2, .string i.r3, .string i.s] 50) = W1 at R hB ⊢
 obtain ⟨r0, r1, r2, r3, r4, r5, r6, r7, r8, r9⟩ := ten_cells R
 have y1 := lt_heap R
 replace R := Lib.hid R
 have HP1 := Lib.hid (HP.out.up hB)
 go_upto_region 2 with (go_at_call 121; refine (rat_any i.a HN.out hN HP1.out _ (Below.refl _ _)).mono ?_; rintro e w1 ⟨rfl, hb1⟩; rw [HAE.out, HK.out])
 have hX2 := World.alloc_heap_new w1 (.cells #[.int .i64 k.t, .string k.s, .int .i64 k.n, .int .i64 k.a, .int .i64 k.b] 155)
 have hbl := below_al hb1 (.cells #[.int .i64 k.t, .string k.s, .int .i64 k.n, .int .i64 k.a, .int .i64 k.b] 155)
 generalize hbb : w1.heap.size = B at hX2 ⊢
 generalize w1.alloc (.cells #[.int .i64 k.t, .string k.s, .int .i64 k.n, .int .i64 k.a, .int .i64 k.b] 155) = wA at hX2 hbl ⊢
 have XB := Lib.hid hX2
 have RB := Lib.hid ((hbl.block _ y1).trans R.out)
 have HB := Lib.hid (below_on hB hbl)
 have HPA := Lib.hid (HP1.out.up hbl)
 clear hX2 hbb r0 r1 r2 r3 r4 r5 r6 r7 r8 r9 y1 R hbl hb1 hB HP1
 clear w1 W1
 by_cases hE : ae = 0
 ·
  have HE := Lib.hid (show atE L i.a = 0 by rw [HAE.out]; exact hE)
  rw [hE]
  go_upto_region 4 with fail
  obtain ⟨b0, b1, b2, b3, b4, _⟩ := five_cells XB.out
  obtain ⟨r0, r1, r2, r3, r4, r5, r6, r7, r8, r9⟩ := ten_cells RB.out
  have yb := lt_heap XB.out
  have yr := lt_heap RB.out
  obtain ⟨hb, hhb⟩ : ∃ b, hasI (tagsL i.op) k.t = b := ⟨_, rfl⟩
  have HHB := Lib.hid hhb
  clear hhb
  go_region_held3 (fun w' => w'.cell? ⟨w.heap.size, 0, none⟩ = some (.int .i64 i.op) ∧ w'.cell? ⟨B, 0, none⟩ = some (.int .i64 k.t) ∧ w.heap.size < w'.heap.size ∧ B < w'.heap.size ∧ Below wA.heap.size wA w') (((try go_split_ands); (repeat' apply And.intro) <;> (first | assumption | exact (Below.refl _ _).drew | (first | exact below_on (w := wA) (by assumption) hq | exact Below.drew (by assumption) | assumption) | exact (Below.cell hq (by first | omega | (simp; omega))).trans (by assumption) | (have := hq.size; omega) | (simp; omega) | go_keep)))
   (first | (go_at_call 123; (with_reducible refine (rtagsI_any i.op _).mono ?_); rintro e w2 ⟨A4, c4, rfl, _, _, _, hr4, hq⟩; have HR4 := Lib.hid hr4; clear hr4) | (go_at_call 122; (with_reducible refine (r9has_any k.t rfl (by have := tagsL_len i.op; omega) _ HR4.out).mono ?_); rintro e w3 ⟨rfl, rfl⟩; rw [HHB.out]))
  go_split_ands
  have hend : Below wA.heap.size wA w2 := by assumption
  have RB2 := Lib.hid ((hend.block _ yr).trans RB.out)
  have XB2 := Lib.hid ((hend.block _ yb).trans XB.out)
  have HB2 := Lib.hid (below_on HB.out hend)
  have HP2 := Lib.hid (HPA.out.up hend)
  generalize hw2 : w2 = wB at RB2 XB2 HB2 HP2 ⊢
  clear hw2
  cases hb with
  | false =>
   have H := Lib.hid (pl_2 (op := i.op) HE.out (by rw [HK.out]; exact HHB.out))
   go_wp2
   go_ret
   exact ⟨by rw [← HR.out, H.out]; rfl, HB2.out⟩
  | true =>
   have HTG := Lib.hid (show hasI (tagsL i.op) (atC L i.a).t = true by rw [HK.out]; exact HHB.out)
   go_upto_region 6 with fail
   clear hend r0 r1 r2 r3 r4 r5 r6 r7 r8 r9 yr b0 b1 b2 b3 b4 yb RB XB HB HPA HHB
   try clear hq
   obtain ⟨b0, b1, b2, b3, b4, _⟩ := five_cells XB2.out
   obtain ⟨r0, r1, r2, r3, r4, r5, r6, r7, r8, r9⟩ := ten_cells RB2.out
   have yb := lt_heap XB2.out
   have yr := lt_heap RB2.out
   have hops : i.op = 3 ∨ i.op = 59 ∨ i.op = 60 ∨ i.op = 61 ∨ i.op = 62 ∨ i.op = 63 ∨ i.op = 64 ∨ i.op = 65 ∨ i.op = 66 ∨ i.op = 67 ∨ i.op = 68 ∨ i.op = 76 ∨ i.op = 77 := by have := tags_has HTG.out; omega
   rcases hops with hop | hop | hop | hop | hop | hop | hop | hop | hop | hop | hop | hop | hop
   ·
    have HOP := Lib.hid hop
    rw [hop] at r0
    clear hop
    have H := Lib.hid (show r = 0 by rw [← HR.out, pl_5 HE.out HTG.out (by rw [HOP.out]; omega) (by rw [HOP.out]; omega), if_neg (by rw [HOP.out]; omega)])
    go_wp2
    go_ret
    exact ⟨by rw [H.out]; rfl, HB2.out⟩
   ·
    have HOP := Lib.hid hop
    rw [hop] at r0
    clear hop
    obtain ⟨cb, hcb⟩ : ∃ cb, clR L k.a = cb := ⟨_, rfl⟩
    have HCB := Lib.hid hcb
    clear hcb
    cases cb with
    | false =>
     have H := Lib.hid (show r = 13 by rw [← HR.out, pl_3 HE.out HTG.out (Or.inr ⟨by rw [HOP.out]; omega, by rw [HK.out]; exact HCB.out⟩)])
     go_wp2_with (go_at_call 124; refine (r9class_any k.a HSS.out _ HN.out hN HP2.out).mono ?_; rintro e w3 ⟨rfl, hb3⟩; rw [HCB.out]; obtain ⟨hc3, hf3⟩ := bcell hb3; have hz3 := hb3.size; have HP3 := Lib.hid (HP2.out.up hb3); have HB3 := Lib.hid (below_on HB2.out hb3))
     go_ret
     exact ⟨by rw [H.out]; rfl, HB3.out⟩
    | true =>
     have H := Lib.hid (show r = 0 by rw [← HR.out, pl_5 HE.out HTG.out (by rw [HK.out, HCB.out]; rintro (⟨e, _⟩ | ⟨_, e⟩) <;> first | (cases e; done) | (rw [HOP.out] at e; omega)) (by rw [HOP.out]; omega), if_neg (by rw [HOP.out]; omega)])
     go_wp2_with (go_at_call 124; refine (r9class_any k.a HSS.out _ HN.out hN HP2.out).mono ?_; rintro e w3 ⟨rfl, hb3⟩; rw [HCB.out]; obtain ⟨hc3, hf3⟩ := bcell hb3; have hz3 := hb3.size; have HP3 := Lib.hid (HP2.out.up hb3); have HB3 := Lib.hid (below_on HB2.out hb3))
     go_ret
     exact ⟨by rw [H.out]; rfl, HB3.out⟩
   ·
    have HOP := Lib.hid hop
    rw [hop] at r0
    clear hop
    obtain ⟨cb, hcb⟩ : ∃ cb, clR L k.a = cb := ⟨_, rfl⟩
    have HCB := Lib.hid hcb
    clear hcb
    cases cb with
    | false =>
     have H := Lib.hid (show r = 13 by rw [← HR.out, pl_3 HE.out HTG.out (Or.inr ⟨by rw [HOP.out]; omega, by rw [HK.out]; exact HCB.out⟩)])
     go_wp2_with (go_at_call 124; refine (r9class_any k.a HSS.out _ HN.out hN HP2.out).mono ?_; rintro e w3 ⟨rfl, hb3⟩; rw [HCB.out]; obtain ⟨hc3, hf3⟩ := bcell hb3; have hz3 := hb3.size; have HP3 := Lib.hid (HP2.out.up hb3); have HB3 := Lib.hid (below_on HB2.out hb3))
     go_ret
     exact ⟨by rw [H.out]; rfl, HB3.out⟩
    | true =>
     have H := Lib.hid (show r = 0 by rw [← HR.out, pl_5 HE.out HTG.out (by rw [HK.out, HCB.out]; rintro (⟨e, _⟩ | ⟨_, e⟩) <;> first | (cases e; done) | (rw [HOP.out] at e; omega)) (by rw [HOP.out]; omega), if_neg (by rw [HOP.out]; omega)])
     go_wp2_with (go_at_call 124; refine (r9class_any k.a HSS.out _ HN.out hN HP2.out).mono ?_; rintro e w3 ⟨rfl, hb3⟩; rw [HCB.out]; obtain ⟨hc3, hf3⟩ := bcell hb3; have hz3 := hb3.size; have HP3 := Lib.hid (HP2.out.up hb3); have HB3 := Lib.hid (below_on HB2.out hb3))
     go_ret
     exact ⟨by rw [H.out]; rfl, HB3.out⟩
   ·
    have HOP := Lib.hid hop
    rw [hop] at r0
    clear hop
    obtain ⟨cb, hcb⟩ : ∃ cb, clR L k.a = cb := ⟨_, rfl⟩
    have HCB := Lib.hid hcb
    clear hcb
    cases cb with
    | false =>
     have H := Lib.hid (show r = 13 by rw [← HR.out, pl_3 HE.out HTG.out (Or.inr ⟨by rw [HOP.out]; omega, by rw [HK.out]; exact HCB.out⟩)])
     go_wp2_with (go_at_call 124; refine (r9class_any k.a HSS.out _ HN.out hN HP2.out).mono ?_; rintro e w3 ⟨rfl, hb3⟩; rw [HCB.out]; obtain ⟨hc3, hf3⟩ := bcell hb3; have hz3 := hb3.size; have HP3 := Lib.hid (HP2.out.up hb3); have HB3 := Lib.hid (below_on HB2.out hb3))
     go_ret
     exact ⟨by rw [H.out]; rfl, HB3.out⟩
    | true =>
     have H := Lib.hid (show r = 0 by rw [← HR.out, pl_5 HE.out HTG.out (by rw [HK.out, HCB.out]; rintro (⟨e, _⟩ | ⟨_, e⟩) <;> first | (cases e; done) | (rw [HOP.out] at e; omega)) (by rw [HOP.out]; omega), if_neg (by rw [HOP.out]; omega)])
     go_wp2_with (go_at_call 124; refine (r9class_any k.a HSS.out _ HN.out hN HP2.out).mono ?_; rintro e w3 ⟨rfl, hb3⟩; rw [HCB.out]; obtain ⟨hc3, hf3⟩ := bcell hb3; have hz3 := hb3.size; have HP3 := Lib.hid (HP2.out.up hb3); have HB3 := Lib.hid (below_on HB2.out hb3))
     go_ret
     exact ⟨by rw [H.out]; rfl, HB3.out⟩
   ·
    have HOP := Lib.hid hop
    rw [hop] at r0
    clear hop
    obtain ⟨cb, hcb⟩ : ∃ cb, clR L k.a = cb := ⟨_, rfl⟩
    have HCB := Lib.hid hcb
    clear hcb
    cases cb with
    | false =>
     have H := Lib.hid (show r = 13 by rw [← HR.out, pl_3 HE.out HTG.out (Or.inr ⟨by rw [HOP.out]; omega, by rw [HK.out]; exact HCB.out⟩)])
     go_wp2_with (go_at_call 124; refine (r9class_any k.a HSS.out _ HN.out hN HP2.out).mono ?_; rintro e w3 ⟨rfl, hb3⟩; rw [HCB.out]; obtain ⟨hc3, hf3⟩ := bcell hb3; have hz3 := hb3.size; have HP3 := Lib.hid (HP2.out.up hb3); have HB3 := Lib.hid (below_on HB2.out hb3))
     go_ret
     exact ⟨by rw [H.out]; rfl, HB3.out⟩
    | true =>
     have H := Lib.hid (show r = 0 by rw [← HR.out, pl_5 HE.out HTG.out (by rw [HK.out, HCB.out]; rintro (⟨e, _⟩ | ⟨_, e⟩) <;> first | (cases e; done) | (rw [HOP.out] at e; omega)) (by rw [HOP.out]; omega), if_neg (by rw [HOP.out]; omega)])
     go_wp2_with (go_at_call 124; refine (r9class_any k.a HSS.out _ HN.out hN HP2.out).mono ?_; rintro e w3 ⟨rfl, hb3⟩; rw [HCB.out]; obtain ⟨hc3, hf3⟩ := bcell hb3; have hz3 := hb3.size; have HP3 := Lib.hid (HP2.out.up hb3); have HB3 := Lib.hid (below_on HB2.out hb3))
     go_ret
     exact ⟨by rw [H.out]; rfl, HB3.out⟩
   ·
    have HOP := Lib.hid hop
    rw [hop] at r0
    clear hop
    obtain ⟨cb, hcb⟩ : ∃ cb, clR L k.a = cb := ⟨_, rfl⟩
    have HCB := Lib.hid hcb
    clear hcb
    cases cb with
    | false =>
     have H := Lib.hid (show r = 13 by rw [← HR.out, pl_3 HE.out HTG.out (Or.inr ⟨by rw [HOP.out]; omega, by rw [HK.out]; exact HCB.out⟩)])
     go_wp2_with (go_at_call 124; refine (r9class_any k.a HSS.out _ HN.out hN HP2.out).mono ?_; rintro e w3 ⟨rfl, hb3⟩; rw [HCB.out]; obtain ⟨hc3, hf3⟩ := bcell hb3; have hz3 := hb3.size; have HP3 := Lib.hid (HP2.out.up hb3); have HB3 := Lib.hid (below_on HB2.out hb3))
     go_ret
     exact ⟨by rw [H.out]; rfl, HB3.out⟩
    | true =>
     obtain ⟨nb, hnb⟩ : ∃ nb, nmR L i.a = nb := ⟨_, rfl⟩
     have HNB := Lib.hid hnb
     clear hnb
     cases nb with
     | true =>
      have H := Lib.hid (show r = 12 by rw [← HR.out, pl_5 HE.out HTG.out (by rw [HK.out, HCB.out]; rintro (⟨e, _⟩ | ⟨_, e⟩) <;> first | (cases e; done) | (rw [HOP.out] at e; omega)) (by rw [HOP.out]; omega), if_pos ⟨by rw [HOP.out]; omega, HNB.out⟩])
      go_wp2_with (first | (go_at_call 124; refine (r9class_any k.a HSS.out _ HN.out hN HP2.out).mono ?_; rintro e w3 ⟨rfl, hb3⟩; rw [HCB.out]; obtain ⟨hc3, hf3⟩ := bcell hb3; have hz3 := hb3.size; have HP3 := Lib.hid (HP2.out.up hb3); have HB3 := Lib.hid (below_on HB2.out hb3)) | (go_at_call 126; refine (r9named_any i.a _ HN.out hN HP3.out).mono ?_; rintro e w4 ⟨rfl, hb4⟩; rw [HNB.out]; have HB4 := Lib.hid (below_on HB3.out hb4)))
      go_ret
      exact ⟨by rw [H.out]; rfl, HB4.out⟩
     | false =>
      have H := Lib.hid (show r = 0 by rw [← HR.out, pl_5 HE.out HTG.out (by rw [HK.out, HCB.out]; rintro (⟨e, _⟩ | ⟨_, e⟩) <;> first | (cases e; done) | (rw [HOP.out] at e; omega)) (by rw [HOP.out]; omega), if_neg (by rw [HNB.out]; rintro ⟨_, e⟩; cases e)])
      go_wp2_with (first | (go_at_call 124; refine (r9class_any k.a HSS.out _ HN.out hN HP2.out).mono ?_; rintro e w3 ⟨rfl, hb3⟩; rw [HCB.out]; obtain ⟨hc3, hf3⟩ := bcell hb3; have hz3 := hb3.size; have HP3 := Lib.hid (HP2.out.up hb3); have HB3 := Lib.hid (below_on HB2.out hb3)) | (go_at_call 126; refine (r9named_any i.a _ HN.out hN HP3.out).mono ?_; rintro e w4 ⟨rfl, hb4⟩; rw [HNB.out]; have HB4 := Lib.hid (below_on HB3.out hb4)))
      go_ret
      exact ⟨by rw [H.out]; rfl, HB4.out⟩
   ·
    have HOP := Lib.hid hop
    rw [hop] at r0
    clear hop
    obtain ⟨cb, hcb⟩ : ∃ cb, clR L k.a = cb := ⟨_, rfl⟩
    have HCB := Lib.hid hcb
    clear hcb
    cases cb with
    | false =>
     have H := Lib.hid (show r = 13 by rw [← HR.out, pl_3 HE.out HTG.out (Or.inr ⟨by rw [HOP.out]; omega, by rw [HK.out]; exact HCB.out⟩)])
     go_wp2_with (go_at_call 124; refine (r9class_any k.a HSS.out _ HN.out hN HP2.out).mono ?_; rintro e w3 ⟨rfl, hb3⟩; rw [HCB.out]; obtain ⟨hc3, hf3⟩ := bcell hb3; have hz3 := hb3.size; have HP3 := Lib.hid (HP2.out.up hb3); have HB3 := Lib.hid (below_on HB2.out hb3))
     go_ret
     exact ⟨by rw [H.out]; rfl, HB3.out⟩
    | true =>
     have H := Lib.hid (show r = 0 by rw [← HR.out, pl_5 HE.out HTG.out (by rw [HK.out, HCB.out]; rintro (⟨e, _⟩ | ⟨_, e⟩) <;> first | (cases e; done) | (rw [HOP.out] at e; omega)) (by rw [HOP.out]; omega), if_neg (by rw [HOP.out]; omega)])
     go_wp2_with (go_at_call 124; refine (r9class_any k.a HSS.out _ HN.out hN HP2.out).mono ?_; rintro e w3 ⟨rfl, hb3⟩; rw [HCB.out]; obtain ⟨hc3, hf3⟩ := bcell hb3; have hz3 := hb3.size; have HP3 := Lib.hid (HP2.out.up hb3); have HB3 := Lib.hid (below_on HB2.out hb3))
     go_ret
     exact ⟨by rw [H.out]; rfl, HB3.out⟩
   ·
    have HOP := Lib.hid hop
    rw [hop] at r0
    clear hop
    obtain ⟨cb, hcb⟩ : ∃ cb, clR L k.a = cb := ⟨_, rfl⟩
    have HCB := Lib.hid hcb
    clear hcb
    cases cb with
    | false =>
     have H := Lib.hid (show r = 13 by rw [← HR.out, pl_3 HE.out HTG.out (Or.inr ⟨by rw [HOP.out]; omega, by rw [HK.out]; exact HCB.out⟩)])
     go_wp2_with (go_at_call 124; refine (r9class_any k.a HSS.out _ HN.out hN HP2.out).mono ?_; rintro e w3 ⟨rfl, hb3⟩; rw [HCB.out]; obtain ⟨hc3, hf3⟩ := bcell hb3; have hz3 := hb3.size; have HP3 := Lib.hid (HP2.out.up hb3); have HB3 := Lib.hid (below_on HB2.out hb3))
     go_ret
     exact ⟨by rw [H.out]; rfl, HB3.out⟩
    | true =>
     obtain ⟨nb, hnb⟩ : ∃ nb, nmR L i.a = nb := ⟨_, rfl⟩
     have HNB := Lib.hid hnb
     clear hnb
     cases nb with
     | true =>
      have H := Lib.hid (show r = 12 by rw [← HR.out, pl_5 HE.out HTG.out (by rw [HK.out, HCB.out]; rintro (⟨e, _⟩ | ⟨_, e⟩) <;> first | (cases e; done) | (rw [HOP.out] at e; omega)) (by rw [HOP.out]; omega), if_pos ⟨by rw [HOP.out]; omega, HNB.out⟩])
      go_wp2_with (first | (go_at_call 124; refine (r9class_any k.a HSS.out _ HN.out hN HP2.out).mono ?_; rintro e w3 ⟨rfl, hb3⟩; rw [HCB.out]; obtain ⟨hc3, hf3⟩ := bcell hb3; have hz3 := hb3.size; have HP3 := Lib.hid (HP2.out.up hb3); have HB3 := Lib.hid (below_on HB2.out hb3)) | (go_at_call 126; refine (r9named_any i.a _ HN.out hN HP3.out).mono ?_; rintro e w4 ⟨rfl, hb4⟩; rw [HNB.out]; have HB4 := Lib.hid (below_on HB3.out hb4)))
      go_ret
      exact ⟨by rw [H.out]; rfl, HB4.out⟩
     | false =>
      have H := Lib.hid (show r = 0 by rw [← HR.out, pl_5 HE.out HTG.out (by rw [HK.out, HCB.out]; rintro (⟨e, _⟩ | ⟨_, e⟩) <;> first | (cases e; done) | (rw [HOP.out] at e; omega)) (by rw [HOP.out]; omega), if_neg (by rw [HNB.out]; rintro ⟨_, e⟩; cases e)])
      go_wp2_with (first | (go_at_call 124; refine (r9class_any k.a HSS.out _ HN.out hN HP2.out).mono ?_; rintro e w3 ⟨rfl, hb3⟩; rw [HCB.out]; obtain ⟨hc3, hf3⟩ := bcell hb3; have hz3 := hb3.size; have HP3 := Lib.hid (HP2.out.up hb3); have HB3 := Lib.hid (below_on HB2.out hb3)) | (go_at_call 126; refine (r9named_any i.a _ HN.out hN HP3.out).mono ?_; rintro e w4 ⟨rfl, hb4⟩; rw [HNB.out]; have HB4 := Lib.hid (below_on HB3.out hb4)))
      go_ret
      exact ⟨by rw [H.out]; rfl, HB4.out⟩
   ·
    have HOP := Lib.hid hop
    rw [hop] at r0
    clear hop
    obtain ⟨cb, hcb⟩ : ∃ cb, clR L k.a = cb := ⟨_, rfl⟩
    have HCB := Lib.hid hcb
    clear hcb
    cases cb with
    | false =>
     have H := Lib.hid (show r = 13 by rw [← HR.out, pl_3 HE.out HTG.out (Or.inr ⟨by rw [HOP.out]; omega, by rw [HK.out]; exact HCB.out⟩)])
     go_wp2_with (go_at_call 124; refine (r9class_any k.a HSS.out _ HN.out hN HP2.out).mono ?_; rintro e w3 ⟨rfl, hb3⟩; rw [HCB.out]; obtain ⟨hc3, hf3⟩ := bcell hb3; have hz3 := hb3.size; have HP3 := Lib.hid (HP2.out.up hb3); have HB3 := Lib.hid (below_on HB2.out hb3))
     go_ret
     exact ⟨by rw [H.out]; rfl, HB3.out⟩
    | true =>
     obtain ⟨nb, hnb⟩ : ∃ nb, nmR L i.a = nb := ⟨_, rfl⟩
     have HNB := Lib.hid hnb
     clear hnb
     cases nb with
     | true =>
      have H := Lib.hid (show r = 12 by rw [← HR.out, pl_5 HE.out HTG.out (by rw [HK.out, HCB.out]; rintro (⟨e, _⟩ | ⟨_, e⟩) <;> first | (cases e; done) | (rw [HOP.out] at e; omega)) (by rw [HOP.out]; omega), if_pos ⟨by rw [HOP.out]; omega, HNB.out⟩])
      go_wp2_with (first | (go_at_call 124; refine (r9class_any k.a HSS.out _ HN.out hN HP2.out).mono ?_; rintro e w3 ⟨rfl, hb3⟩; rw [HCB.out]; obtain ⟨hc3, hf3⟩ := bcell hb3; have hz3 := hb3.size; have HP3 := Lib.hid (HP2.out.up hb3); have HB3 := Lib.hid (below_on HB2.out hb3)) | (go_at_call 126; refine (r9named_any i.a _ HN.out hN HP3.out).mono ?_; rintro e w4 ⟨rfl, hb4⟩; rw [HNB.out]; have HB4 := Lib.hid (below_on HB3.out hb4)))
      go_ret
      exact ⟨by rw [H.out]; rfl, HB4.out⟩
     | false =>
      have H := Lib.hid (show r = 0 by rw [← HR.out, pl_5 HE.out HTG.out (by rw [HK.out, HCB.out]; rintro (⟨e, _⟩ | ⟨_, e⟩) <;> first | (cases e; done) | (rw [HOP.out] at e; omega)) (by rw [HOP.out]; omega), if_neg (by rw [HNB.out]; rintro ⟨_, e⟩; cases e)])
      go_wp2_with (first | (go_at_call 124; refine (r9class_any k.a HSS.out _ HN.out hN HP2.out).mono ?_; rintro e w3 ⟨rfl, hb3⟩; rw [HCB.out]; obtain ⟨hc3, hf3⟩ := bcell hb3; have hz3 := hb3.size; have HP3 := Lib.hid (HP2.out.up hb3); have HB3 := Lib.hid (below_on HB2.out hb3)) | (go_at_call 126; refine (r9named_any i.a _ HN.out hN HP3.out).mono ?_; rintro e w4 ⟨rfl, hb4⟩; rw [HNB.out]; have HB4 := Lib.hid (below_on HB3.out hb4)))
      go_ret
      exact ⟨by rw [H.out]; rfl, HB4.out⟩
   ·
    have HOP := Lib.hid hop
    rw [hop] at r0
    clear hop
    obtain ⟨cb, hcb⟩ : ∃ cb, clR L i.a = cb := ⟨_, rfl⟩
    have HCB := Lib.hid hcb
    clear hcb
    cases cb with
    | false =>
     have H := Lib.hid (show r = 13 by rw [← HR.out, pl_3 HE.out HTG.out (Or.inl ⟨HOP.out, HCB.out⟩)])
     go_wp2_with (go_at_call 124; refine (r9class_any i.a HSS.out _ HN.out hN HP2.out).mono ?_; rintro e w3 ⟨rfl, hb3⟩; rw [HCB.out]; obtain ⟨hc3, hf3⟩ := bcell hb3; have hz3 := hb3.size; have HP3 := Lib.hid (HP2.out.up hb3); have HB3 := Lib.hid (below_on HB2.out hb3))
     go_ret
     exact ⟨by rw [H.out]; rfl, HB3.out⟩
    | true =>
     have H := Lib.hid (show r = 0 by rw [← HR.out, pl_5 HE.out HTG.out (by rw [HOP.out, HCB.out]; rintro (⟨_, e⟩ | ⟨e, _⟩) <;> first | (cases e; done) | omega) (by rw [HOP.out]; omega), if_neg (by rw [HOP.out]; omega)])
     go_wp2_with (go_at_call 124; refine (r9class_any i.a HSS.out _ HN.out hN HP2.out).mono ?_; rintro e w3 ⟨rfl, hb3⟩; rw [HCB.out]; obtain ⟨hc3, hf3⟩ := bcell hb3; have hz3 := hb3.size; have HP3 := Lib.hid (HP2.out.up hb3); have HB3 := Lib.hid (below_on HB2.out hb3))
     go_ret
     exact ⟨by rw [H.out]; rfl, HB3.out⟩
   ·
    have HOP := Lib.hid hop
    rw [hop] at r0
    clear hop
    obtain ⟨pe, hpe⟩ : ∃ pe, paE k.s = pe := ⟨_, rfl⟩
    have HPE := Lib.hid hpe
    obtain ⟨pb, hpb⟩ : ∃ pb, paB k.s = pb := ⟨_, rfl⟩
    have HPB := Lib.hid hpb
    clear hpe hpb
    by_cases h2 : pe = 0
    ·
     by_cases h3 : pb = 86
     ·
      have H := Lib.hid (show r = 13 by rw [← HR.out, pl_4 HE.out HTG.out (by rw [HOP.out]; omega) ⟨HOP.out, Or.inr (by rw [HK.out, HPB.out]; exact h3)⟩])
      have e2 : (pe != 0) = false := by simpa using h2
      have e3 : (pb == 86) = true := by simpa using h3
      go_wp2_with (go_at_call 125; refine (rparse_any k.s (by have := HS.out; omega) _).mono ?_; rintro e w3 ⟨rfl, hb3⟩; rw [HPE.out, HPB.out]; obtain ⟨hc3, hf3⟩ := bcell hb3; have hz3 := hb3.size; have hz4 : w.heap.size < w3.heap.size := (by omega); have HB3 := Lib.hid (below_on HB2.out hb3))
      go_ret
      exact ⟨by rw [H.out]; rfl, below_al HB3.out _⟩
     ·
      have H := Lib.hid (show r = 0 by rw [← HR.out, pl_5 HE.out HTG.out (by rw [HOP.out]; omega) (by rw [HK.out, HPE.out, HPB.out]; rintro ⟨_, e | e⟩; exact e h2; exact h3 e), if_neg (by rw [HOP.out]; omega)])
      have e2 : (pe != 0) = false := by simpa using h2
      have e3 : (pb == 86) = false := by simpa using h3
      go_wp2_with (go_at_call 125; refine (rparse_any k.s (by have := HS.out; omega) _).mono ?_; rintro e w3 ⟨rfl, hb3⟩; rw [HPE.out, HPB.out]; obtain ⟨hc3, hf3⟩ := bcell hb3; have hz3 := hb3.size; have hz4 : w.heap.size < w3.heap.size := (by omega); have HB3 := Lib.hid (below_on HB2.out hb3))
      go_ret
      exact ⟨by rw [H.out]; rfl, below_al HB3.out _⟩
    ·
     have H := Lib.hid (show r = 13 by rw [← HR.out, pl_4 HE.out HTG.out (by rw [HOP.out]; omega) ⟨HOP.out, Or.inl (by rw [HK.out, HPE.out]; exact h2)⟩])
     have e2 : (pe != 0) = true := by simpa using h2
     go_wp2_with (go_at_call 125; refine (rparse_any k.s (by have := HS.out; omega) _).mono ?_; rintro e w3 ⟨rfl, hb3⟩; rw [HPE.out, HPB.out]; obtain ⟨hc3, hf3⟩ := bcell hb3; have hz3 := hb3.size; have hz4 : w.heap.size < w3.heap.size := (by omega); have HB3 := Lib.hid (below_on HB2.out hb3))
     go_ret
     exact ⟨by rw [H.out]; rfl, below_al HB3.out _⟩
   ·
    have HOP := Lib.hid hop
    rw [hop] at r0
    clear hop
    have H := Lib.hid (show r = 0 by rw [← HR.out, pl_5 HE.out HTG.out (by rw [HOP.out]; omega) (by rw [HOP.out]; omega), if_neg (by rw [HOP.out]; omega)])
    go_wp2
    go_ret
    exact ⟨by rw [H.out]; rfl, HB2.out⟩
   ·
    have HOP := Lib.hid hop
    rw [hop] at r0
    clear hop
    have H := Lib.hid (show r = 0 by rw [← HR.out, pl_5 HE.out HTG.out (by rw [HOP.out]; omega) (by rw [HOP.out]; omega), if_neg (by rw [HOP.out]; omega)])
    go_wp2
    go_ret
    exact ⟨by rw [H.out]; rfl, HB2.out⟩
 ·
  have H := Lib.hid (pl_1 (op := i.op) (show ¬ atE L i.a = 0 by rw [HAE.out]; exact hE))
  have h2 : ae = 2 := by rw [← HAE.out]; exact at_two (by rw [HAE.out]; exact hE)
  rw [h2]
  clear hE h2
  go_wp2
  go_ret
  exact ⟨by rw [← HR.out, H.out]; rfl, HB.out⟩
end Go.Proofs.YtalejaklggnnpaaGreatDoor.I
