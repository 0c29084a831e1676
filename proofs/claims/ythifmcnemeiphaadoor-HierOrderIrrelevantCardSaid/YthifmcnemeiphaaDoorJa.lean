/- Layer 16: the law that the order of the entries doesn't matter. -/
import Derived.Test.YthifmcnemeiphaaDoorIm
import Derived.Test.YthifmcnemeiphaaDoorReg
namespace Go.Proofs.YthifmcnemeiphaaDoor
open Go.ChangeShapes Go.WideShapes Go.ChangeAt Go.RowKit Go.PlainAid Go.Maps
set_option linter.unusedSimpArgs false
set_option linter.unusedVariables false

theorem ChkV.ok {L : List CI} {s : ByteArray} {v : Int} (h : ChkV L s v) (hv : VH L) : v = 0 := by
  rcases h with ⟨i, x, h1, h2, h3, h4, h5⟩ | ⟨h1, h2, h3⟩
  · rw [hv i x h1] at h3
    exact absurd h3.symm h4
  · exact h2
/-- the rows of the loop: what of the reversed list has been built -/
structure RvInv (L : List CI) (w : World) (k : Nat) (v : Value) (wr : World) : Prop where
  ex : ∃ R m A c, R ++ (L.take k).reverse = L.reverse ∧ R.length = m ∧ v = .slice A m c ∧ wr.ownsRow w.heap.size 30 4 v m (crow R)
  bel : Below w.heap.size w wr
theorem rv_snoc {L R : List CI} {k : Nat} {x : CI} (hx : L[k]? = some x) (h : R ++ (L.take (k + 1)).reverse = L.reverse) : (R ++ [x]) ++ (L.take k).reverse = L.reverse := by
  rw [show L.take (k + 1) = L.take k ++ [x] by rw [List.take_add_one, hx]; rfl, List.reverse_append] at h
  rw [List.append_assoc]
  exact h
set_option maxRecDepth 100000 in
set_option maxHeartbeats 4000000 in
theorem irr_law (A : Option Addr) (n c : Nat) (L : List CI) (a b : ByteArray) (w : World) (hn : L.length = n) (hcap : n ≤ c) (hcm : c ≤ 9223372036854775807) (h : CIs w w.heap.size A L) (ha : a.size ≤ 9223372036854775807) (hb : b.size ≤ 9223372036854775807) :
    Calls Tryd.prog 8 #[.slice A n c, .string a, .string b] w fun e w' => e = .returned (.bool true) ∧ Below w.heap.size w w' := by
  have HL := Lib.hid h
  have HN := Lib.hid hn
  have HF := Lib.hid (right_any A n c L w hn hcap hcm h)
  clear h hn
  cases hs : rgB L with
  | false =>
    rw [hs] at HF
    clear hs
    go_enter Tryd.func8, Tryd.ntmps8
    go_wp2_with (first | (go_at_call 19; (with_reducible refine (HF.out).mono ?_); rintro e w1 ⟨rfl, hb1⟩; have HB1 := Lib.hid hb1; clear hb1) | (go_at_call 16; (with_reducible refine (awake16_any _).mono ?_); rintro e w2 ⟨rfl, hb2⟩; have HB2 := Lib.hid (below_on HB1.out hb2); clear hb2))
    go_ret
    exact ⟨rfl, HB2.out⟩
  | true =>
    rw [hs] at HF
    obtain ⟨hsm, hv⟩ := rgB_iff.1 hs
    have HV := Lib.hid hv
    have hn60 : n ≤ 60 := by rw [← HN.out]; exact hsm.1
    clear hs hsm hv
    have HVR := Lib.hid (HV.out.sm.vh HV.out)
    obtain ⟨vi, hvi⟩ : ∃ v, isV L a b = v := ⟨_, rfl⟩
    obtain ⟨vc, hvc⟩ : ∃ v, csV L a b = v := ⟨_, rfl⟩
    obtain ⟨P, hP⟩ : ∃ P, supL L a = P := ⟨_, rfl⟩
    obtain ⟨Q, hQ⟩ : ∃ Q, ifL L a = Q := ⟨_, rfl⟩
    have hPn : P.length ≤ 1000000 := by rw [← hP]; have := sup_le HV.out a; rw [HN.out] at this; omega
    have hQn : Q.length ≤ 1000000 := by rw [← hQ, ← ifN_all, HN.out]; have := ifN_le L a n; omega
    have I1 := Lib.hid (fun (W : World) (h : Below w.heap.size w W) => by have q := sub_any A n c L a b W HN.out (by omega) (HL.out.up h) ha hb; rw [hvi] at q; exact q)
    have C1 := Lib.hid (fun (W : World) (h : Below w.heap.size w W) => by have q := cs_any A n c L a b W HN.out (by omega) HV.out (HL.out.up h) ha hb; rw [hvc] at q; exact q)
    have S1 := Lib.hid (fun (W : World) (h : Below w.heap.size w W) => by have q := sup_any A n c L a W HN.out (by omega) HV.out (HL.out.up h) ha; rw [hP] at q; exact q)
    have F1 := Lib.hid (fun (W : World) (h : Below w.heap.size w W) => by have q := ifs_any A n c L a W HN.out (by omega) (HL.out.up h) ha; rw [hQ] at q; exact q)
    have hRn : L.reverse.length = n := by rw [List.length_reverse]; exact HN.out
    have I2 := Lib.hid (fun (B : Option Addr) (d : Nat) (W : World) (h : CIs W W.heap.size B L.reverse) => by have q := sub_any B n d L.reverse a b W hRn (by omega) h ha hb; rw [HV.out.sm.isV, hvi] at q; exact q)
    have C2 := Lib.hid (fun (B : Option Addr) (d : Nat) (W : World) (h : CIs W W.heap.size B L.reverse) => by have q := cs_any B n d L.reverse a b W hRn (by omega) HVR.out h ha hb; rw [HV.out.sm.cs, hvc] at q; exact q)
    have S2 := Lib.hid (fun (B : Option Addr) (d : Nat) (W : World) (h : CIs W W.heap.size B L.reverse) => by have q := sup_any B n d L.reverse a W hRn (by omega) HVR.out h ha; rw [HV.out.sm.sup, hP] at q; exact q)
    have F2 := Lib.hid (fun (B : Option Addr) (d : Nat) (W : World) (h : CIs W W.heap.size B L.reverse) => by have q := ifs_any B n d L.reverse a W hRn (by omega) h ha; rw [HV.out.sm.ifs HV.out, hQ] at q; exact q)
    have K2 := Lib.hid (fun (B : Option Addr) (d : Nat) (W : World) (h : CIs W W.heap.size B L.reverse) => check_any B n d L.reverse W hRn (by omega) h)
    have TX := Lib.hid (fun (P : List ByteArray) => show txB P P = true from decide_eq_true rfl)
    clear hvi hvc hP hQ
    have HRN := Lib.hid hRn
    clear hRn
    go_enter Tryd.func8, Tryd.ntmps8
    go_upto_region 3 with (go_at_call 19; (with_reducible refine (HF.out).mono ?_); rintro e w1 ⟨rfl, hb1⟩; have HB1 := Lib.hid hb1; clear hb1)
    have HO0 := Lib.hid (own_lit0C (w := w1) (Nat.le_refl _))
    have HB2 := Lib.hid (below_al (Below.refl w1.heap.size w1) (.cells #[] 30))
    go_wp2
    go_loopw [7, 8] (fun v z wr => ∃ k : Nat, k ≤ n ∧ z = .int .i64 ((k : Int) - 1) ∧ RvInv L w1 k v wr) (fun _ z _ => (intOf z + 1).toNat)
    case atStart => exact ⟨n, Nat.le_refl _, by go_num, ⟨⟨[], 0, some ⟨w1.heap.size, 0, none⟩, 0, by rw [← HN.out, List.take_length]; rfl, rfl, rfl, HO0.out⟩, HB2.out⟩⟩
    case round =>
      obtain ⟨k, hk, rfl, ⟨⟨R, m, A', c', hR, hm, rfl, hown⟩, hbel⟩⟩ := hrel
      have HR := Lib.hid hR
      have HO := Lib.hid hown
      have HBW := Lib.hid hbel
      clear hR hown hbel HO0 HB2
      cases k with
      | succ i =>
        have hil : i < L.length := by rw [HN.out]; exact hk
        have HB := Lib.hid (below_on HB1.out HBW.out)
        have HLW := Lib.hid (HL.out.up HB.out)
        obtain ⟨g, o, rfl, hgl, hok, c0, c1, c2, c3⟩ := HLW.out.at hil
        have HX := Lib.hid (show L[i]? = some L[i] from List.getElem?_eq_getElem hil)
        clear hok
        generalize L[i] = x at c0 c1 c2 c3 HX
        have HR2 := Lib.hid (rv_snoc HX.out HR.out)
        have HM := Lib.hid hm
        have hmn : m ≤ n := by
          have := congrArg List.length HR.out
          rw [List.length_append, List.length_reverse, List.length_reverse, HN.out] at this
          omega
        have hws := HBW.out.size
        clear hm
        have ez : ((i + 1 : Nat) : Int) - 1 = (i : Int) := by omega
        rw [ez]
        clear ez
        go_wp2_with (at_builtin; refine wpList_append_liesC rfl _ _ rfl w1.heap.size m wr.heap.size R x _ rfl (HO.out.alloc _) rfl (World.alloc_heap_new _ _) (by omega) (by rw [World.size_alloc]; omega) ?_; intro A4 c4 w4 ho4 hg4; have HO4 := Lib.hid ho4; have HG4 := Lib.hid hg4; clear ho4 hg4)
        go_roundw
        case rel =>
          refine ⟨i, by omega, by go_num, ⟨⟨R ++ [x], m + 1, A4, c4, HR2.out, by rw [List.length_append, HM.out]; rfl, rfl, HO4.out⟩, ?_⟩⟩
          exact (below_al HBW.out _).trans (grown_below HG4.out (fun k hk => (HO.out.lt k hk).1) (by rw [World.size_alloc]; omega))
        case measure => simp [intOf] <;> omega
      | zero =>
        obtain rfl : R = L.reverse := by have := HR.out; simpa using this
        obtain rfl : m = n := by rw [← hm]; exact HRN.out
        have HB := Lib.hid (below_on HB1.out HBW.out)
        have HLW := HL.out.up HB.out
        have HT := Lib.hid (cis_of_own HO.out HRN.out (fun x hx => HLW.ok (List.mem_reverse.1 hx)))
        clear HR hm HLW
        have ez : ((0 : Nat) : Int) - 1 = -1 := by omega
        rw [ez]
        clear ez
        go_upto_region 9 with (go_at_call 17; (with_reducible refine (K2.out _ _ _ HT.out).mono ?_); rintro e w2 ⟨⟨s2, v2, rfl, hc2⟩, hb2⟩; obtain rfl := hc2.ok HVR.out; clear hc2; replace HB := Lib.hid (below_on HB.out hb2); replace HT := Lib.hid (HT.out.up hb2); clear hb2)
        go_wp2_with (first
          | (go_at_call 16; (with_reducible refine (awake16_any _).mono ?_); rintro e w3 ⟨rfl, hb3⟩; replace HB := Lib.hid (below_on HB.out hb3); replace HT := Lib.hid (HT.out.up hb3); clear hb3)
          | (go_at_call 23; (with_reducible refine (I1.out _ HB.out).mono ?_); rintro e w4 ⟨rfl, hb4⟩; replace HB := Lib.hid (below_on HB.out hb4); replace HT := Lib.hid (HT.out.up hb4); clear hb4)
          | (go_at_call 23; (with_reducible refine (I2.out _ _ _ HT.out).mono ?_); rintro e w5 ⟨rfl, hb5⟩; replace HB := Lib.hid (below_on HB.out hb5); replace HT := Lib.hid (HT.out.up hb5); clear hb5)
          | (go_at_call 25; (with_reducible refine (C1.out _ HB.out).mono ?_); rintro e w6 ⟨rfl, hb6⟩; replace HB := Lib.hid (below_on HB.out hb6); replace HT := Lib.hid (HT.out.up hb6); clear hb6)
          | (go_at_call 25; (with_reducible refine (C2.out _ _ _ HT.out).mono ?_); rintro e w7 ⟨rfl, hb7⟩; replace HB := Lib.hid (below_on HB.out hb7); replace HT := Lib.hid (HT.out.up hb7); clear hb7)
          | (go_at_call 28; (with_reducible refine (S1.out _ HB.out).mono ?_); rintro e w8 ⟨v8, rfl, ho8, hb8⟩; obtain ⟨A8, c8, rfl, _, _⟩ := own_shape ho8; have R1 := Lib.hid ho8; replace HB := Lib.hid (below_on HB.out hb8); replace HT := Lib.hid (HT.out.up hb8); clear hb8 ho8)
          | (go_at_call 28; (with_reducible refine (S2.out _ _ _ HT.out).mono ?_); rintro e w9 ⟨v9, rfl, ho9, hb9⟩; obtain ⟨A9, c9, rfl, _, _⟩ := own_shape ho9; have R2 := Lib.hid ho9; replace R1 := Lib.hid (own_bel R1.out hb9); replace HB := Lib.hid (below_on HB.out hb9); replace HT := Lib.hid (HT.out.up hb9); clear hb9 ho9)
          | (go_at_call 27; (with_reducible refine (texts_any _ _ _ P _ _ _ P _ rfl rfl hPn hPn (SRow.of_own R1.out).1 (SRow.of_own R2.out).1).mono ?_); rintro e w10 ⟨rfl, hb10⟩; rw [TX.out]; replace HB := Lib.hid (below_on HB.out hb10); replace HT := Lib.hid (HT.out.up hb10); clear hb10 R1 R2)
          | (go_at_call 30; (with_reducible refine (F1.out _ HB.out).mono ?_); rintro e w11 ⟨v11, rfl, ho11, hb11⟩; obtain ⟨A11, c11, rfl, _, _⟩ := own_shape ho11; have R3 := Lib.hid ho11; replace HB := Lib.hid (below_on HB.out hb11); replace HT := Lib.hid (HT.out.up hb11); clear hb11 ho11)
          | (go_at_call 30; (with_reducible refine (F2.out _ _ _ HT.out).mono ?_); rintro e w12 ⟨v12, rfl, ho12, hb12⟩; obtain ⟨A12, c12, rfl, _, _⟩ := own_shape ho12; have R4 := Lib.hid ho12; replace R3 := Lib.hid (own_bel R3.out hb12); replace HB := Lib.hid (below_on HB.out hb12); replace HT := Lib.hid (HT.out.up hb12); clear hb12 ho12)
          | (go_at_call 27; (with_reducible refine (texts_any _ _ _ Q _ _ _ Q _ rfl rfl hQn hQn (SRow.of_own R3.out).1 (SRow.of_own R4.out).1).mono ?_); rintro e w13 ⟨rfl, hb13⟩; rw [TX.out]; replace HB := Lib.hid (below_on HB.out hb13); clear hb13 HT))
        go_ret
        exact ⟨rfl, HB.out⟩
end Go.Proofs.YthifmcnemeiphaaDoor
