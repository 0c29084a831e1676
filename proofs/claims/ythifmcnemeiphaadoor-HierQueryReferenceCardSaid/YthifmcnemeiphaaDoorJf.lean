/- Layer 16: the law of all queries against the reference. -/
import Derived.Test.YthifmcnemeiphaaDoorJe
import Derived.Test.YthifmcnemeiphaaDoorIg
import Derived.Test.YthifmcnemeiphaaDoorHu
namespace Go.Proofs.YthifmcnemeiphaaDoor
open Go.ChangeShapes Go.WideShapes Go.ChangeAt Go.RowKit Go.PlainAid Go.Maps
set_option linter.unusedSimpArgs false
set_option linter.unusedVariables false

set_option maxRecDepth 100000 in
set_option maxHeartbeats 4000000 in
theorem query_law (A : Option Addr) (n c : Nat) (L : List CI) (a b : ByteArray) (w : World) (hn : L.length = n) (hcap : n ≤ c) (hcm : c ≤ 9223372036854775807) (h : CIs w w.heap.size A L) (ha : a.size ≤ 9223372036854775807) (hb : b.size ≤ 9223372036854775807) :
    Calls Tryd.prog 4 #[.slice A n c, .string a, .string b] w fun e w' => e = .returned (.bool true) ∧ Below w.heap.size w w' := by
  have HL := Lib.hid h
  have HN := Lib.hid hn
  have HF := Lib.hid (right_any A n c L w hn hcap hcm h)
  clear h hn
  cases hs : rgB L with
  | false =>
    rw [hs] at HF
    clear hs
    go_enter Tryd.func4, Tryd.ntmps4
    go_wp2_with (first | (go_at_call 19; (with_reducible refine (HF.out).mono ?_); rintro e w1 ⟨rfl, hb1⟩; have HB1 := Lib.hid hb1; clear hb1) | (go_at_call 16; (with_reducible refine (awake16_any _).mono ?_); rintro e w2 ⟨rfl, hb2⟩; have HB2 := Lib.hid (below_on HB1.out hb2); clear hb2))
    go_ret
    exact ⟨rfl, HB2.out⟩
  | true =>
    rw [hs] at HF
    obtain ⟨hsm, hv⟩ := rgB_iff.1 hs
    have HV := Lib.hid hv
    have HSM := Lib.hid hsm
    have hn60 : n ≤ 60 := by rw [← HN.out]; exact hsm.1
    have hxn : (lkC L a).n ≤ 1000000 := by
      rw [← (lkC_ok HL.out a).2.2.1]
      cases hf : fB L a with
      | true =>
        obtain ⟨x, k1, _, k3⟩ := nm_place hf
        rw [k3]
        have := hsm.2 x (List.mem_of_getElem? k1)
        omega
      | false => rw [lkC_none hf]; exact Nat.zero_le _
    clear hs hsm hv
    obtain ⟨vi, hvi⟩ : ∃ v, isV L a b = v := ⟨_, rfl⟩
    obtain ⟨vc, hvc⟩ : ∃ v, csV L a b = v := ⟨_, rfl⟩
    obtain ⟨P, hP⟩ : ∃ P, supL L a = P := ⟨_, rfl⟩
    obtain ⟨Q, hQ⟩ : ∃ Q, ifL L a = Q := ⟨_, rfl⟩
    obtain ⟨x, hx⟩ : ∃ x, lkC L a = x := ⟨_, rfl⟩
    obtain ⟨f, hf⟩ : ∃ f, fB L a = f := ⟨_, rfl⟩
    have hPn : P.length ≤ 1000000 := by rw [← hP]; have := sup_le HV.out a; rw [HN.out] at this; omega
    have hQn : Q.length ≤ 1000000 := by rw [← hQ, ← ifN_all, HN.out]; have := ifN_le L a n; omega
    rw [hx] at hxn
    have K1 := Lib.hid (fun (W : World) (h : Below w.heap.size w W) => by have q := lookup_any A n c L a W HN.out (by omega) (HL.out.up h); rw [hx, hf] at q; exact q)
    have K2 := Lib.hid (fun (W : World) (h : Below w.heap.size w W) => by have q := rlookup_any A n c L a W HN.out (by omega) (HL.out.up h); rw [hx, hf] at q; exact q)
    have SA := Lib.hid (fun (W : World) (h : Below w.heap.size w W) => same_any x W (by rw [← hx]; exact (lkC_ok HL.out a).up h) hxn)
    have I1 := Lib.hid (fun (W : World) (h : Below w.heap.size w W) => by have q := sub_any A n c L a b W HN.out (by omega) (HL.out.up h) ha hb; rw [hvi] at q; exact q)
    have I2 := Lib.hid (fun (W : World) (h : Below w.heap.size w W) => by have q := rsub_any A n c L a b W HN.out HSM.out HV.out (HL.out.up h); rw [hvi] at q; exact q)
    have C1 := Lib.hid (fun (W : World) (h : Below w.heap.size w W) => by have q := cs_any A n c L a b W HN.out (by omega) HV.out (HL.out.up h) ha hb; rw [hvc] at q; exact q)
    have C2 := Lib.hid (fun (W : World) (h : Below w.heap.size w W) => by have q := rcs_any A n c L a b W HN.out (by omega) (HL.out.up h); rw [hvc] at q; exact q)
    have S1 := Lib.hid (fun (W : World) (h : Below w.heap.size w W) => by have q := sup_any A n c L a W HN.out (by omega) HV.out (HL.out.up h) ha; rw [hP] at q; exact q)
    have S2 := Lib.hid (fun (W : World) (h : Below w.heap.size w W) => by have q := rsup_any A n c L a W HN.out (by omega) (HL.out.up h); rw [hP] at q; exact q)
    have F1 := Lib.hid (fun (W : World) (h : Below w.heap.size w W) => by have q := ifs_any A n c L a W HN.out (by omega) (HL.out.up h) ha; rw [hQ] at q; exact q)
    have F2 := Lib.hid (fun (W : World) (h : Below w.heap.size w W) => by have q := rifs_any A n c L a W HN.out HSM.out HV.out (HL.out.up h); rw [hQ] at q; exact q)
    have TX := Lib.hid (fun (P : List ByteArray) => show txB P P = true from decide_eq_true rfl)
    clear hvi hvc hP hQ hx hf
    go_enter Tryd.func4, Tryd.ntmps4
    go_upto_region 4 with (first | (go_at_call 19; (with_reducible refine (HF.out).mono ?_); rintro e w1 ⟨rfl, hb1⟩; have HB := Lib.hid hb1; clear hb1) | (go_at_call 20; (with_reducible refine (K1.out _ HB.out).mono ?_); rintro e w2 ⟨rfl, hb2⟩; replace HB := Lib.hid (below_on HB.out hb2); clear hb2))
    have HX1 := Lib.hid (World.alloc_heap_new w2 (.cells #[.string x.nm, .string x.su, .slice x.iA x.n x.c, .bool x.isI] 30))
    have HB2 := Lib.hid (below_al HB.out (.cells #[.string x.nm, .string x.su, .slice x.iA x.n x.c, .bool x.isI] 30))
    generalize w2.alloc (.cells #[.string x.nm, .string x.su, .slice x.iA x.n x.c, .bool x.isI] 30) = W2 at HX1 HB2 ⊢
    generalize w2.heap.size = B1 at HX1 ⊢
    have hl1 := lt_heap HX1.out
    go_upto_region 5 with (go_at_call 21; (with_reducible refine (K2.out _ HB2.out).mono ?_); rintro e w3 ⟨rfl, hb3⟩; have HX2 := Lib.hid ((hb3.block B1 hl1).trans HX1.out); have hs3 := hb3.size; replace HB2 := Lib.hid (below_on HB2.out hb3); clear hb3)
    have HX3 := Lib.hid (World.alloc_heap_new w3 (.cells #[.string x.nm, .string x.su, .slice x.iA x.n x.c, .bool x.isI] 30))
    have HX4 := Lib.hid (((below_al (Below.refl w3.heap.size w3) (.cells #[.string x.nm, .string x.su, .slice x.iA x.n x.c, .bool x.isI] 30)).block B1 (show B1 < w3.heap.size by omega)).trans HX2.out)
    have HB3 := Lib.hid (below_al HB2.out (.cells #[.string x.nm, .string x.su, .slice x.iA x.n x.c, .bool x.isI] 30))
    generalize w3.alloc (.cells #[.string x.nm, .string x.su, .slice x.iA x.n x.c, .bool x.isI] 30) = W3 at HX3 HX4 HB3 ⊢
    generalize w3.heap.size = B2 at HX3 ⊢
    obtain ⟨⟨x0, x1, x2, x3⟩, _⟩ := four_cells HX4.out
    obtain ⟨⟨y0, y1, y2, y3⟩, _⟩ := four_cells HX3.out
    have e1 : (vi != vi) = false := by cases vi <;> rfl
    have e2 : (f != f) = false := by cases f <;> rfl
    go_upto_region 7 with (first | (go_at_call 22; (with_reducible refine (SA.out _ HB3.out).mono ?_); rintro e w15 ⟨rfl, hb15⟩; replace HB3 := Lib.hid (below_on HB3.out hb15); clear hb15) | (go_at_call 23; (with_reducible refine (I1.out _ HB3.out).mono ?_); rintro e w16 ⟨rfl, hb16⟩; replace HB3 := Lib.hid (below_on HB3.out hb16); clear hb16) | (go_at_call 24; (with_reducible refine (I2.out _ HB3.out).mono ?_); rintro e w17 ⟨rfl, hb17⟩; replace HB3 := Lib.hid (below_on HB3.out hb17); clear hb17) | (go_at_call 25; (with_reducible refine (C1.out _ HB3.out).mono ?_); rintro e w18 ⟨rfl, hb18⟩; replace HB3 := Lib.hid (below_on HB3.out hb18); clear hb18) | (go_at_call 26; (with_reducible refine (C2.out _ HB3.out).mono ?_); rintro e w19 ⟨rfl, hb19⟩; replace HB3 := Lib.hid (below_on HB3.out hb19); clear hb19))
    clear x0 x1 x2 x3 y0 y1 y2 y3
    go_wp2_with (first
      | (go_at_call 16; (with_reducible refine (awake16_any _).mono ?_); rintro e w13 ⟨rfl, hb13⟩; replace HB3 := Lib.hid (below_on HB3.out hb13); clear hb13)
      | (go_at_call 28; (with_reducible refine (S1.out _ HB3.out).mono ?_); rintro e w8 ⟨v8, rfl, ho8, hb8⟩; obtain ⟨A8, c8, rfl, _, _⟩ := own_shape ho8; have R1 := Lib.hid ho8; replace HB3 := Lib.hid (below_on HB3.out hb8); clear hb8 ho8)
      | (go_at_call 29; (with_reducible refine (S2.out _ HB3.out).mono ?_); rintro e w9 ⟨v9, rfl, ho9, hb9⟩; obtain ⟨A9, c9, rfl, _, _⟩ := own_shape ho9; have R2 := Lib.hid ho9; replace R1 := Lib.hid (own_bel R1.out hb9); replace HB3 := Lib.hid (below_on HB3.out hb9); clear hb9 ho9)
      | (go_at_call 27; (with_reducible refine (texts_any _ _ _ P _ _ _ P _ rfl rfl hPn hPn (SRow.of_own R1.out).1 (SRow.of_own R2.out).1).mono ?_); rintro e w10 ⟨rfl, hb10⟩; rw [TX.out]; replace HB3 := Lib.hid (below_on HB3.out hb10); clear hb10 R1 R2)
      | (go_at_call 30; (with_reducible refine (F1.out _ HB3.out).mono ?_); rintro e w11 ⟨v11, rfl, ho11, hb11⟩; obtain ⟨A11, c11, rfl, _, _⟩ := own_shape ho11; have R3 := Lib.hid ho11; replace HB3 := Lib.hid (below_on HB3.out hb11); clear hb11 ho11)
      | (go_at_call 31; (with_reducible refine (F2.out _ HB3.out).mono ?_); rintro e w12 ⟨v12, rfl, ho12, hb12⟩; obtain ⟨A12, c12, rfl, _, _⟩ := own_shape ho12; have R4 := Lib.hid ho12; replace R3 := Lib.hid (own_bel R3.out hb12); replace HB3 := Lib.hid (below_on HB3.out hb12); clear hb12 ho12)
      | (go_at_call 27; (with_reducible refine (texts_any _ _ _ Q _ _ _ Q _ rfl rfl hQn hQn (SRow.of_own R3.out).1 (SRow.of_own R4.out).1).mono ?_); rintro e w14 ⟨rfl, hb14⟩; rw [TX.out]; replace HB3 := Lib.hid (below_on HB3.out hb14); clear hb14))
    go_ret
    exact ⟨rfl, HB3.out⟩
end Go.Proofs.YthifmcnemeiphaaDoor
