/- Layer 16: the law of superclass chains. -/
import Derived.Test.YthifmcnemeiphaaDoorIh
import Derived.Test.YthifmcnemeiphaaDoorReg
namespace Go.Proofs.YthifmcnemeiphaaDoor
open Go.ChangeShapes Go.WideShapes Go.ChangeAt Go.RowKit Go.PlainAid Go.Maps
set_option linter.unusedSimpArgs false
set_option linter.unusedVariables false

theorem sup_last {L : List CI} (hv : VH L) {a : ByteArray} (ha : fB L a = true) {P : List ByteArray} (hP : supL L a = P) : ∃ m, P.length = m + 1 ∧ ∃ h0 : 0 < P.length, P[0] = a ∧ ∃ hm : m < P.length, P[m] = rootS := by
  obtain ⟨P', h1, h2⟩ := sup_shape hv ha
  rw [hP] at h1 h2
  subst h1
  refine ⟨P'.length, rfl, by simp, rfl, by simp, ?_⟩
  rw [List.getLast?_eq_getElem?] at h2
  simp only [List.length_cons, Nat.add_sub_cancel] at h2
  rw [List.getElem?_eq_getElem (by simp)] at h2
  exact Option.some.inj h2
set_option maxRecDepth 100000 in
set_option maxHeartbeats 4000000 in
theorem chain_law (A : Option Addr) (n c : Nat) (L : List CI) (a b : ByteArray) (w : World) (hn : L.length = n) (hcap : n ≤ c) (hcm : c ≤ 9223372036854775807) (h : CIs w w.heap.size A L) (ha : a.size ≤ 9223372036854775807) (hb : b.size ≤ 9223372036854775807) :
    Calls Tryd.prog 6 #[.slice A n c, .string a, .string b] w fun e w' => e = .returned (.bool true) ∧ Below w.heap.size w w' := by
  have HL := Lib.hid h
  have HN := Lib.hid hn
  have HF := Lib.hid (right_any A n c L w hn hcap hcm h)
  clear h hn
  cases hs : rgB L with
  | false =>
    rw [hs] at HF
    clear hs
    go_enter Tryd.func6, Tryd.ntmps6
    go_wp2_with (first | (go_at_call 19; (with_reducible refine (HF.out).mono ?_); rintro e w1 ⟨rfl, hb1⟩; have HB1 := Lib.hid hb1; clear hb1) | (go_at_call 16; (with_reducible refine (awake16_any _).mono ?_); rintro e w2 ⟨rfl, hb2⟩; have HB2 := Lib.hid (below_on HB1.out hb2); clear hb2))
    go_ret
    exact ⟨rfl, HB2.out⟩
  | true =>
    rw [hs] at HF
    obtain ⟨hsm, hv⟩ := rgB_iff.1 hs
    have HV := Lib.hid hv
    have hn60 : n ≤ 60 := by rw [← HN.out]; exact hsm.1
    clear hs hsm hv
    obtain ⟨x, hx⟩ : ∃ x, lkC L a = x := ⟨_, rfl⟩
    obtain ⟨y, hy⟩ : ∃ y, lkC L b = y := ⟨_, rfl⟩
    obtain ⟨fb, hfb⟩ : ∃ f, fB L b = f := ⟨_, rfl⟩
    have KA := Lib.hid (fun (W : World) (h : Below w.heap.size w W) => by have q := lookup_any A n c L a W HN.out (by omega) (HL.out.up h); rw [hx] at q; exact q)
    have KB := Lib.hid (fun (W : World) (h : Below w.heap.size w W) => by have q := lookup_any A n c L b W HN.out (by omega) (HL.out.up h); rw [hy, hfb] at q; exact q)
    have KS := Lib.hid (fun (s : ByteArray) (W : World) (h : Below w.heap.size w W) => lookup_any A n c L s W HN.out (by omega) (HL.out.up h))
    have SU := Lib.hid (fun (W : World) (h : Below w.heap.size w W) => sup_any A n c L a W HN.out (by omega) HV.out (HL.out.up h) ha)
    have HC := Lib.hid (fun (x y : ByteArray) (W : World) (hx : x.size ≤ 9223372036854775807) (hy : y.size ≤ 9223372036854775807) (hb : Below w.heap.size w W) => sub_any A n c L x y W HN.out (by omega) (HL.out.up hb) hx hy)
    obtain ⟨z, hz⟩ : ∃ z, csV L a b = z := ⟨_, rfl⟩
    have hzc : csV L b a = z := by
      rw [← hz]
      cases he : (a.toList == b.toList) with
      | true => rw [toList_iff.1 (beq_iff_eq.1 he)]
      | false => exact (csV_comm HV.out he).symm
    have hzs : z.size ≤ 9223372036854775807 := by rw [← hz]; exact csV_size HL.out ha
    have C1 := Lib.hid (fun (W : World) (h : Below w.heap.size w W) => by have q := cs_any A n c L a b W HN.out (by omega) HV.out (HL.out.up h) ha hb; rw [hz] at q; exact q)
    have C2 := Lib.hid (fun (W : World) (h : Below w.heap.size w W) => by have q := cs_any A n c L b a W HN.out (by omega) HV.out (HL.out.up h) hb ha; rw [hzc] at q; exact q)
    have HP := Lib.hid (chain_size HL.out (L.length + 1) a ha)
    change Hid (∀ s, s ∈ supL L a → _) at HP
    have HPl := Lib.hid (sup_le HV.out a)
    have hab := fun h1 h2 => csV_above (a := a) (b := b) HV.out h1 h2
    rw [hz] at hab
    have HAB := Lib.hid hab
    clear hab hz hzc hx hy
    cases hfa : fB L a with
    | false =>
      have hP : supL L a = [] := chain_no hfa _
      rw [hfa] at KA
      rw [hP] at SU
      clear hP hfa
      go_enter Tryd.func6, Tryd.ntmps6
      go_upto_region 4 with (first | (go_at_call 19; (with_reducible refine (HF.out).mono ?_); rintro e w1 ⟨rfl, hb1⟩; have HB1 := Lib.hid hb1; clear hb1) | (go_at_call 20; (with_reducible refine (KA.out _ HB1.out).mono ?_); rintro e w2 ⟨rfl, hb2⟩; replace HB1 := Lib.hid (below_on HB1.out hb2); clear hb2))
      have HB2 := Lib.hid (below_al HB1.out (.cells #[.string x.nm, .string x.su, .slice x.iA x.n x.c, .bool x.isI] 30))
      generalize w2.alloc (.cells #[.string x.nm, .string x.su, .slice x.iA x.n x.c, .bool x.isI] 30) = W2 at HB2 ⊢
      go_upto_region 5 with (go_at_call 20; (with_reducible refine (KB.out _ HB2.out).mono ?_); rintro e w3 ⟨rfl, hb3⟩; replace HB2 := Lib.hid (below_on HB2.out hb3); clear hb3)
      have HB3 := Lib.hid (below_al HB2.out (.cells #[.string y.nm, .string y.su, .slice y.iA y.n y.c, .bool y.isI] 30))
      generalize w3.alloc (.cells #[.string y.nm, .string y.su, .slice y.iA y.n y.c, .bool y.isI] 30) = W3 at HB3 ⊢
      go_upto_region 8 with (go_at_call 28; (with_reducible refine (SU.out _ HB3.out).mono ?_); rintro e w4 ⟨v4, rfl, ho4, hb4⟩; obtain ⟨pA, pc, rfl, _, _⟩ := own_shape ho4; replace HB3 := Lib.hid (below_on HB3.out hb4); clear hb4 ho4)
      go_wp2
      go_loopw [12] (fun jv wr => jv = .int .i64 0 ∧ Hid (Below w.heap.size w wr)) (fun _ _ => 0)
      case atStart => exact ⟨rfl, HB3⟩
      case round =>
        obtain ⟨rfl, HB3⟩ := hrel
        go_upto_region 15 with (go_at_call 25; (with_reducible refine (C1.out _ HB3.out).mono ?_); rintro e w5 ⟨rfl, hb5⟩; replace HB3 := Lib.hid (below_on HB3.out hb5); clear hb5)
        go_upto_region 17 with (go_at_call 25; (with_reducible refine (C2.out _ HB3.out).mono ?_); rintro e w5 ⟨rfl, hb5⟩; replace HB3 := Lib.hid (below_on HB3.out hb5); clear hb5)
        go_wp2_with (go_at_call 16; (with_reducible refine (awake16_any _).mono ?_); rintro e w6 ⟨rfl, hb6⟩; replace HB3 := Lib.hid (below_on HB3.out hb6); clear hb6)
        go_ret
        exact ⟨rfl, HB3.out⟩
    | true =>
      obtain ⟨P, hP⟩ : ∃ P, supL L a = P := ⟨_, rfl⟩
      have HNX := Lib.hid (fun (j : Nat) (h : j + 1 < P.length) => show P[j + 1] = (lkC L P[j]).su by subst hP; exact chain_next _ a j h)
      have HFS := Lib.hid (fun (s : ByteArray) (h : s ∈ P) => show fB L s = true ∧ isV L a s = true by subst hP; exact ⟨chain_found _ a s h, (sup_is HV.out h).2⟩)
      obtain ⟨m, hm, h0, hP0, hml, hPm⟩ := sup_last HV.out hfa hP
      have hP60 := HPl.out
      rw [hP] at SU HP hP60
      rw [HN.out] at hP60
      rw [hfa] at KA
      have HAF := Lib.hid hfa
      have HBF := Lib.hid hfb
      clear hP hfa hfb HPl
      go_enter Tryd.func6, Tryd.ntmps6
      go_upto_region 4 with (first | (go_at_call 19; (with_reducible refine (HF.out).mono ?_); rintro e w1 ⟨rfl, hb1⟩; have HB1 := Lib.hid hb1; clear hb1) | (go_at_call 20; (with_reducible refine (KA.out _ HB1.out).mono ?_); rintro e w2 ⟨rfl, hb2⟩; replace HB1 := Lib.hid (below_on HB1.out hb2); clear hb2))
      have HB2 := Lib.hid (below_al HB1.out (.cells #[.string x.nm, .string x.su, .slice x.iA x.n x.c, .bool x.isI] 30))
      generalize w2.alloc (.cells #[.string x.nm, .string x.su, .slice x.iA x.n x.c, .bool x.isI] 30) = W2 at HB2 ⊢
      go_upto_region 5 with (go_at_call 20; (with_reducible refine (KB.out _ HB2.out).mono ?_); rintro e w3 ⟨rfl, hb3⟩; replace HB2 := Lib.hid (below_on HB2.out hb3); clear hb3)
      have HB3 := Lib.hid (below_al HB2.out (.cells #[.string y.nm, .string y.su, .slice y.iA y.n y.c, .bool y.isI] 30))
      generalize w3.alloc (.cells #[.string y.nm, .string y.su, .slice y.iA y.n y.c, .bool y.isI] 30) = W3 at HB3 ⊢
      go_upto_region 6 with (go_at_call 28; (with_reducible refine (SU.out _ HB3.out).mono ?_); rintro e w4 ⟨v4, rfl, ho4, hb4⟩; obtain ⟨pA, pc, rfl, hpc, _⟩ := own_shape ho4; have HO4 := Lib.hid ho4; replace HB3 := Lib.hid (below_on HB3.out hb4); clear hb4 ho4)
      obtain ⟨g, rfl, k0, hgl, hgb⟩ := str_at (j := 0) HO4.out h0 rfl
      have km : w4.cell? ⟨g, m, none⟩ = some (.string P[m]) := by
        obtain ⟨_, hq1, k1, _⟩ := str_at (j := m) HO4.out hml rfl
        obtain rfl : g = _ := by injection hq1 with h; injection h
        exact k1
      rw [hP0] at k0
      rw [hPm] at km
      have HML := Lib.hid hm
      rw [hm] at hpc
      try rw [hm]
      clear hm
      have hm1 : ((m + 1 : Nat) : Int) - 1 = m := by omega
      clear hP0 hPm
      go_upto_region 8 with fail
      clear k0 km
      have HO5 := Lib.hid (show w4.ownsRow W3.heap.size 9 1 (.slice (some ⟨g, 0, none⟩) (m + 1) pc) (m + 1) (strs P) by have := HO4.out; rw [HML.out] at this; exact this)
      clear HO4
      go_wp2
      go_loopw [12] (fun jv wr => ∃ j : Nat, jv = .int .i64 j ∧ j ≤ m + 1 ∧ Hid (Below w.heap.size w wr) ∧ Hid (wr.ownsRow W3.heap.size 9 1 (.slice (some ⟨g, 0, none⟩) (m + 1) pc) (m + 1) (strs P))) (fun jv _ => m + 1 - (intOf jv).toNat)
      case atStart => exact ⟨0, rfl, Nat.zero_le _, HB3, HO5⟩
      case round =>
        obtain ⟨j, rfl, hj, HB, HO⟩ := hrel
        clear HO5 HB3
        have hm60 : m + 1 ≤ 60 := by rw [← HML.out]; omega
        by_cases hlt : j < m + 1
        · have hjP : j < P.length := by rw [HML.out]; exact hlt
          have row : ∀ (W : World) (h : W.ownsRow W3.heap.size 9 1 (.slice (some ⟨g, 0, none⟩) (m + 1) pc) (m + 1) (strs P)) (q : Nat) (hq : q < P.length), W.cell? ⟨g, q, none⟩ = some (.string P[q]) := by
            intro W h q hq
            obtain ⟨_, hq1, k1, _⟩ := str_at (j := q) h hq HML.out
            obtain rfl : g = _ := by injection hq1 with h; injection h
            exact k1
          have hgw : g < wr.heap.size := (HO.out.lt g rfl).2
          have kj := row wr HO.out j hjP
          have HROW := Lib.hid row
          obtain ⟨hfs, his⟩ := HFS.out P[j] (List.getElem_mem hjP)
          have hsz := HP.out P[j] (List.getElem_mem hjP)
          have KJ := Lib.hid (KS.out P[j] wr HB.out)
          have HN1 := Lib.hid (fun (h : j + 1 < P.length) => HNX.out j h)
          obtain ⟨s, hs⟩ : ∃ s, P[j] = s := ⟨_, rfl⟩
          rw [hs] at kj hfs his hsz KJ
          have HN2 := Lib.hid (show ∀ (h : j + 1 < P.length), P[j + 1] = (lkC L s).su from fun h => by rw [← hs]; exact HN1.out h)
          clear row HN1
          obtain ⟨k, hk⟩ : ∃ k, lkC L s = k := ⟨_, rfl⟩
          rw [hk, hfs] at KJ
          rw [hk] at HN2
          have KI := Lib.hid (fun (W : World) (h : Below w.heap.size w W) => HC.out a s W ha hsz h)
          have HIS := Lib.hid his
          have HSJ := Lib.hid hs
          clear hk hfs his hs
          go_upto_region 12 with (go_at_call 20; (with_reducible refine (KJ.out).mono ?_); rintro e w8 ⟨rfl, hb8⟩)
          have HBX := Lib.hid (World.alloc_heap_new w8 (.cells #[.string k.nm, .string k.su, .slice k.iA k.n k.c, .bool k.isI] 30))
          have HB9 := Lib.hid (below_al (below_on HB.out hb8) (.cells #[.string k.nm, .string k.su, .slice k.iA k.n k.c, .bool k.isI] 30))
          have HO9 := Lib.hid ((own_bel HO.out hb8).alloc (.cells #[.string k.nm, .string k.su, .slice k.iA k.n k.c, .bool k.isI] 30))
          generalize w8.alloc (.cells #[.string k.nm, .string k.su, .slice k.iA k.n k.c, .bool k.isI] 30) = W9 at HBX HB9 HO9 ⊢
          generalize w8.heap.size = B13 at HBX ⊢
          obtain ⟨⟨x0, x1, x2, x3⟩, _⟩ := four_cells HBX.out
          have hlb := lt_heap HBX.out
          have hg9 : g < W9.heap.size := (HO9.out.lt g rfl).2
          have k9 : W9.cell? ⟨g, j, none⟩ = some (.string s) := by rw [← HSJ.out]; exact HROW.out W9 HO9.out j hjP
          clear kj hb8 hgw
          have e1 : IntKind.i64.wrap ((j : Int) + 1) = (j : Int) + 1 := IntWalk.i64_in _ (by omega)
          by_cases hlast : j + 1 < m + 1
          · have hj1P : j + 1 < P.length := by rw [HML.out]; exact hlast
            have k9b : W9.cell? ⟨g, j + 1, none⟩ = some (.string k.su) := by rw [← HN2.out hj1P]; exact HROW.out W9 HO9.out (j + 1) hj1P
            have e2 : decide ((j : Int) + 1 < (m : Int) + 1) = true := decide_eq_true (by omega)
            have e2b : decide (j < m) = true := decide_eq_true (by omega)
            have e2c : decide ((j : Int) < (m : Int)) = true := decide_eq_true (by omega)
            have e3 : ((j : Int) + 1).toNat = j + 1 := by omega
            have e4 : (0 : Int) ≤ (j : Int) + 1 := by omega
            refine regN_start (N := 28) (S := (fun W' => W'.cell? ⟨g, j, none⟩ = some (.string s) ∧ W'.cell? ⟨g, j + 1, none⟩ = some (.string k.su) ∧ W'.cell? ⟨B13, 1, none⟩ = some (.string k.su) ∧ Below w.heap.size w W' ∧ W'.ownsRow W3.heap.size 9 1 (.slice (some ⟨g, 0, none⟩) (m + 1) pc) (m + 1) (strs P))) (by kernel_rfl) ?_
            change wpAnyN _ _ _ _ _ _ _ #[false, false, false, false, false, false, false, false, false, false, false, false, false, false, false, false, false, false, false, false, false, false, false, false, false, false, false, false, false] _ (World.drew _)
            have hS0 := (show (fun W' => W'.cell? ⟨g, j, none⟩ = some (.string s) ∧ W'.cell? ⟨g, j + 1, none⟩ = some (.string k.su) ∧ W'.cell? ⟨B13, 1, none⟩ = some (.string k.su) ∧ Below w.heap.size w W' ∧ W'.ownsRow W3.heap.size 9 1 (.slice (some ⟨g, 0, none⟩) (m + 1) pc) (m + 1) (strs P)) W9.drew from ⟨k9, k9b, x1, HB9.out.drew, HO9.out⟩)
            refine regN_takeC [12, 11, 2, 1] (i := 0) (d := (some 74)) (v := ?v12x1) (l2 := #[true, false, false, false, false, false, false, false, false, false, false, false, false, false, false, false, false, false, false, false, false, false, false, false, false, false, false, false, false]) rfl rfl rfl (by kernel_rfl) (by kernel_rfl) (by kernel_rfl) (by kernel_rfl) (fun _ _ _ h => h) (by rfl) ?hv12x1 hS0 ?h12x1
            case hv12x1 => intro u hSu; clear hSu; go_simp; (try with_reducible rfl)
            (try simp only [Act.put, List.setIfInBounds_toArray, List.set_cons_zero, List.set_cons_succ])
            refine regN_takeC [12, 11, 2] (i := 1) (d := (some 75)) (v := ?v12x2) (l2 := #[true, true, false, false, false, false, false, false, false, false, false, false, false, false, false, false, false, false, false, false, false, false, false, false, false, false, false, false, false]) rfl rfl rfl (by kernel_rfl) (by kernel_rfl) (by kernel_rfl) (by kernel_rfl) (fun _ _ _ h => h) (by rfl) ?hv12x2 hS0 ?h12x2
            case hv12x2 => intro u hSu; clear hSu; go_simp; (try with_reducible rfl)
            (try simp only [Act.put, List.setIfInBounds_toArray, List.set_cons_zero, List.set_cons_succ])
            refine regN_takeC [12, 11] (i := 2) (d := (some 76)) (v := ?v12x3) (l2 := #[true, true, true, false, false, false, false, false, false, false, false, false, false, false, false, false, false, false, false, false, false, false, false, false, false, false, false, false, false]) rfl rfl rfl (by kernel_rfl) (by kernel_rfl) (by kernel_rfl) (by kernel_rfl) (fun _ _ _ h => h) (by rfl) ?hv12x3 hS0 ?h12x3
            case hv12x3 => intro u hSu; clear hSu; go_simp; (try with_reducible rfl)
            (try simp only [Act.put, List.setIfInBounds_toArray, List.set_cons_zero, List.set_cons_succ])
            refine regN_takeC [12, 9] (i := 3) (d := (some 77)) (v := ?v12x4) (l2 := #[true, true, true, true, false, false, false, false, false, false, false, false, false, false, false, false, false, false, false, false, false, false, false, false, false, false, false, false, false]) rfl rfl rfl (by kernel_rfl) (by kernel_rfl) (by kernel_rfl) (by kernel_rfl) (fun _ _ _ h => h) (by rfl) ?hv12x4 hS0 ?h12x4
            case hv12x4 => intro u hSu; clear hSu; go_simp; (try with_reducible rfl)
            (try simp only [Act.put, List.setIfInBounds_toArray, List.set_cons_zero, List.set_cons_succ])
            refine regN_takeC [12, 9] (i := 4) (d := (some 78)) (v := ?v12x5) (l2 := #[true, true, true, true, true, false, false, false, false, false, false, false, false, false, false, false, false, false, false, false, false, false, false, false, false, false, false, false, false]) rfl rfl rfl (by kernel_rfl) (by kernel_rfl) (by kernel_rfl) (by kernel_rfl) (fun _ _ _ h => h) (by rfl) ?hv12x5 hS0 ?h12x5
            case hv12x5 => intro u hSu; clear hSu; go_simp; (try with_reducible rfl)
            (try simp only [Act.put, List.setIfInBounds_toArray, List.set_cons_zero, List.set_cons_succ])
            refine regN_takeC [12, 9, 8, 7] (i := 5) (d := (some 79)) (v := ?v12x6) (l2 := #[true, true, true, true, true, true, false, false, false, false, false, false, false, false, false, false, false, false, false, false, false, false, false, false, false, false, false, false, false]) rfl rfl rfl (by kernel_rfl) (by kernel_rfl) (by kernel_rfl) (by kernel_rfl) (fun _ _ _ h => h) (by rfl) ?hv12x6 hS0 ?h12x6
            case hv12x6 => intro u hSu; clear hSu; go_simp; (try with_reducible rfl)
            (try simp only [Act.put, List.setIfInBounds_toArray, List.set_cons_zero, List.set_cons_succ])
            refine regN_takeC [12, 9, 8, 7] (i := 6) (d := (some 80)) (v := ?v12x7) (l2 := #[true, true, true, true, true, true, true, false, false, false, false, false, false, false, false, false, false, false, false, false, false, false, false, false, false, false, false, false, false]) rfl rfl rfl (by kernel_rfl) (by kernel_rfl) (by kernel_rfl) (by kernel_rfl) (fun _ _ _ h => h) (by rfl) ?hv12x7 hS0 ?h12x7
            case hv12x7 => intro u hSu; clear hSu; go_simp; (try with_reducible rfl)
            (try simp only [Act.put, List.setIfInBounds_toArray, List.set_cons_zero, List.set_cons_succ])
            refine regN_takeC [12, 9, 8] (i := 7) (d := (some 81)) (v := ?v12x8) (l2 := #[true, true, true, true, true, true, true, true, false, false, false, false, false, false, false, false, false, false, false, false, false, false, false, false, false, false, false, false, false]) rfl rfl rfl (by kernel_rfl) (by kernel_rfl) (by kernel_rfl) (by kernel_rfl) (fun _ _ _ h => h) (by rfl) ?hv12x8 hS0 ?h12x8
            case hv12x8 => intro u hSu; clear hSu; go_simp; (try with_reducible rfl)
            (try simp only [Act.put, List.setIfInBounds_toArray, List.set_cons_zero, List.set_cons_succ])
            refine regN_takeC [12, 9] (i := 8) (d := (some 82)) (v := ?v12x9) (l2 := #[true, true, true, true, true, true, true, true, true, false, false, false, false, false, false, false, false, false, false, false, false, false, false, false, false, false, false, false, false]) rfl rfl rfl (by kernel_rfl) (by kernel_rfl) (by kernel_rfl) (by kernel_rfl) (fun _ _ _ h => h) (by rfl) ?hv12x9 hS0 ?h12x9
            case hv12x9 => intro u hSu; (try dsimp only at hSu); (try go_split_ands); go_simp; (try with_reducible rfl)
            (try simp only [Act.put, List.setIfInBounds_toArray, List.set_cons_zero, List.set_cons_succ])
            refine regN_ready (rs := [9]) (by kernel_rfl) (by simp) ?_
            refine (AllN.cons (i := 9) (l2 := #[true, true, true, true, true, true, true, true, true, true, false, false, false, false, false, false, false, false, false, false, false, false, false, false, false, false, false, false, false]) rfl rfl (fun K hK => ?_) AllN.nil)
            go_simp
            go_at_call 23
            (with_reducible refine (KI.out _ HB9.out.drew).mono ?_)
            rintro e w10 ⟨rfl, hb10⟩
            rw [HIS.out]
            have HBN := Lib.hid (below_on (show Below w.heap.size w _ from HB9.out.drew) hb10)
            have HON := Lib.hid (own_bel (show World.ownsRow W9.drew W3.heap.size 9 1 (.slice (some ⟨g, 0, none⟩) (m + 1) pc) (m + 1) (strs P) from HO9.out) hb10)
            have q1 := (hb10.cell (p := ⟨g, j, none⟩) (by exact hg9)).trans (show W9.drew.cell? _ = _ from k9)
            have q2 := (hb10.cell (p := ⟨g, j + 1, none⟩) (by exact hg9)).trans (show W9.drew.cell? _ = _ from k9b)
            have q3 := (hb10.cell (p := ⟨B13, 1, none⟩) (by exact hlb)).trans (show W9.drew.cell? _ = _ from x1)
            clear hb10
            go_simp
            have hS1 : ((fun W' => W'.cell? ⟨g, j, none⟩ = some (.string s) ∧ W'.cell? ⟨g, j + 1, none⟩ = some (.string k.su) ∧ W'.cell? ⟨B13, 1, none⟩ = some (.string k.su) ∧ Below w.heap.size w W' ∧ W'.ownsRow W3.heap.size 9 1 (.slice (some ⟨g, 0, none⟩) (m + 1) pc) (m + 1) (strs P)) : World → Prop) _ := (show (fun W' => W'.cell? ⟨g, j, none⟩ = some (.string s) ∧ W'.cell? ⟨g, j + 1, none⟩ = some (.string k.su) ∧ W'.cell? ⟨B13, 1, none⟩ = some (.string k.su) ∧ Below w.heap.size w W' ∧ W'.ownsRow W3.heap.size 9 1 (.slice (some ⟨g, 0, none⟩) (m + 1) pc) (m + 1) (strs P)) _ from ⟨q1, q2, q3, HBN.out, HON.out⟩)
            refine hK _ _ (fun _ => hS1) ?_
            clear hK K
            (try simp only [Act.put, List.setIfInBounds_toArray, List.set_cons_zero, List.set_cons_succ])
            refine regN_takeC [12, 11] (i := 10) (d := (some 84)) (v := ?v12x10) (l2 := #[true, true, true, true, true, true, true, true, true, true, true, false, false, false, false, false, false, false, false, false, false, false, false, false, false, false, false, false, false]) rfl rfl rfl (by kernel_rfl) (by kernel_rfl) (by kernel_rfl) (by kernel_rfl) (fun _ _ _ h => h) (by rfl) ?hv12x10 hS1 ?h12x10
            case hv12x10 => intro u hSu; clear hSu; go_simp; (try with_reducible rfl)
            (try simp only [Act.put, List.setIfInBounds_toArray, List.set_cons_zero, List.set_cons_succ])
            refine regN_takeC [12] (i := 11) (d := (some 85)) (v := ?v12x11) (l2 := #[true, true, true, true, true, true, true, true, true, true, true, true, false, false, false, false, false, false, false, false, false, false, false, false, false, false, false, false, false]) rfl rfl rfl (by kernel_rfl) (by kernel_rfl) (by kernel_rfl) (by kernel_rfl) (fun _ _ _ h => h) (by rfl) ?hv12x11 hS1 ?h12x11
            case hv12x11 => intro u hSu; clear hSu; go_simp; (try with_reducible rfl)
            (try simp only [Act.put, List.setIfInBounds_toArray, List.set_cons_zero, List.set_cons_succ])
            refine regN_take (i := 12) (d := (some 86)) (v := ?v12x12) (l2 := #[true, true, true, true, true, true, true, true, true, true, true, true, true, false, false, false, false, false, false, false, false, false, false, false, false, false, false, false, false]) rfl rfl rfl (by kernel_rfl) (by kernel_rfl) (by kernel_rfl) (by kernel_rfl) (fun _ _ _ h => h) (by rfl) ?hv12x12 hS1 ?h12x12
            case hv12x12 => intro u hSu; clear hSu; go_simp; (try with_reducible rfl)
            (try simp only [Act.put, List.setIfInBounds_toArray, List.set_cons_zero, List.set_cons_succ])
            refine regN_takeC [27, 18, 17, 14] (i := 13) (d := (some 87)) (v := ?v12x13) (l2 := #[true, true, true, true, true, true, true, true, true, true, true, true, true, true, false, false, false, false, false, false, false, false, false, false, false, false, false, false, false]) rfl rfl rfl (by kernel_rfl) (by kernel_rfl) (by kernel_rfl) (by kernel_rfl) (fun _ _ _ h => h) (by rfl) ?hv12x13 hS1 ?h12x13
            case hv12x13 => intro u hSu; clear hSu; go_simp; (try with_reducible rfl)
            (try simp only [Act.put, List.setIfInBounds_toArray, List.set_cons_zero, List.set_cons_succ])
            refine regN_takeC [27, 18, 17] (i := 14) (d := (some 88)) (v := ?v12x14) (l2 := #[true, true, true, true, true, true, true, true, true, true, true, true, true, true, true, false, false, false, false, false, false, false, false, false, false, false, false, false, false]) rfl rfl rfl (by kernel_rfl) (by kernel_rfl) (by kernel_rfl) (by kernel_rfl) (fun _ _ _ h => h) (by rfl) ?hv12x14 hS1 ?h12x14
            case hv12x14 => intro u hSu; clear hSu; go_simp; (try with_reducible rfl)
            (try simp only [Act.put, List.setIfInBounds_toArray, List.set_cons_zero, List.set_cons_succ])
            refine regN_takeC [27, 18, 17, 16] (i := 15) (d := (some 89)) (v := ?v12x15) (l2 := #[true, true, true, true, true, true, true, true, true, true, true, true, true, true, true, true, false, false, false, false, false, false, false, false, false, false, false, false, false]) rfl rfl rfl (by kernel_rfl) (by kernel_rfl) (by kernel_rfl) (by kernel_rfl) (fun _ _ _ h => h) (by rfl) ?hv12x15 hS1 ?h12x15
            case hv12x15 => intro u hSu; clear hSu; go_simp; (try with_reducible rfl)
            (try simp only [Act.put, List.setIfInBounds_toArray, List.set_cons_zero, List.set_cons_succ])
            refine regN_takeC [27, 18, 17] (i := 16) (d := (some 90)) (v := ?v12x16) (l2 := #[true, true, true, true, true, true, true, true, true, true, true, true, true, true, true, true, true, false, false, false, false, false, false, false, false, false, false, false, false]) rfl rfl rfl (by kernel_rfl) (by kernel_rfl) (by kernel_rfl) (by kernel_rfl) (fun _ _ _ h => h) (by rfl) ?hv12x16 hS1 ?h12x16
            case hv12x16 => intro u hSu; clear hSu; go_simp; (try with_reducible rfl)
            (try simp only [Act.put, List.setIfInBounds_toArray, List.set_cons_zero, List.set_cons_succ])
            refine regN_ready (rs := [17]) (by kernel_rfl) (by simp) ?_
            refine (AllN.cons (i := 17) (l2 := #[true, true, true, true, true, true, true, true, true, true, true, true, true, true, true, true, true, true, false, false, false, false, false, false, false, false, false, false, false]) rfl rfl (fun K hK => ?_) AllN.nil)
            go_simp
            have hS2 : ((fun W' => W'.cell? ⟨g, j, none⟩ = some (.string s) ∧ W'.cell? ⟨g, j + 1, none⟩ = some (.string k.su) ∧ W'.cell? ⟨B13, 1, none⟩ = some (.string k.su) ∧ Below w.heap.size w W' ∧ W'.ownsRow W3.heap.size 9 1 (.slice (some ⟨g, 0, none⟩) (m + 1) pc) (m + 1) (strs P)) : World → Prop) _ := (show (fun W' => W'.cell? ⟨g, j, none⟩ = some (.string s) ∧ W'.cell? ⟨g, j + 1, none⟩ = some (.string k.su) ∧ W'.cell? ⟨B13, 1, none⟩ = some (.string k.su) ∧ Below w.heap.size w W' ∧ W'.ownsRow W3.heap.size 9 1 (.slice (some ⟨g, 0, none⟩) (m + 1) pc) (m + 1) (strs P)) _ from ⟨q1, q2, q3, HBN.out, HON.out⟩)
            refine hK _ _ (fun _ => hS2) ?_
            clear hK K
            (try simp only [Act.put, List.setIfInBounds_toArray, List.set_cons_zero, List.set_cons_succ])
            refine regN_takeC [27] (i := 18) (d := (some 92)) (v := ?v12x17) (l2 := #[true, true, true, true, true, true, true, true, true, true, true, true, true, true, true, true, true, true, true, false, false, false, false, false, false, false, false, false, false]) rfl rfl rfl (by kernel_rfl) (by kernel_rfl) (by kernel_rfl) (by kernel_rfl) (fun _ _ _ h => h) (by rfl) ?hv12x17 hS2 ?h12x17
            case hv12x17 => intro u hSu; clear hSu; go_simp; (try with_reducible rfl)
            (try simp only [Act.put, List.setIfInBounds_toArray, List.set_cons_zero, List.set_cons_succ])
            refine regN_takeC [27, 26, 20] (i := 19) (d := (some 93)) (v := ?v12x18) (l2 := #[true, true, true, true, true, true, true, true, true, true, true, true, true, true, true, true, true, true, true, true, false, false, false, false, false, false, false, false, false]) rfl rfl rfl (by kernel_rfl) (by kernel_rfl) (by kernel_rfl) (by kernel_rfl) (fun _ _ _ h => h) (by rfl) ?hv12x18 hS2 ?h12x18
            case hv12x18 => intro u hSu; clear hSu; go_simp; (try with_reducible rfl)
            (try simp only [Act.put, List.setIfInBounds_toArray, List.set_cons_zero, List.set_cons_succ])
            refine regN_takeC [27, 26] (i := 20) (d := (some 94)) (v := ?v12x19) (l2 := #[true, true, true, true, true, true, true, true, true, true, true, true, true, true, true, true, true, true, true, true, true, false, false, false, false, false, false, false, false]) rfl rfl rfl (by kernel_rfl) (by kernel_rfl) (by kernel_rfl) (by kernel_rfl) (fun _ _ _ h => h) (by rfl) ?hv12x19 hS2 ?h12x19
            case hv12x19 => intro u hSu; (try dsimp only at hSu); (try go_split_ands); go_simp; (try with_reducible rfl)
            (try simp only [Act.put, List.setIfInBounds_toArray, List.set_cons_zero, List.set_cons_succ])
            refine regN_takeC [27, 26, 25, 24] (i := 21) (d := (some 95)) (v := ?v12x20) (l2 := #[true, true, true, true, true, true, true, true, true, true, true, true, true, true, true, true, true, true, true, true, true, true, false, false, false, false, false, false, false]) rfl rfl rfl (by kernel_rfl) (by kernel_rfl) (by kernel_rfl) (by kernel_rfl) (fun _ _ _ h => h) (by rfl) ?hv12x20 hS2 ?h12x20
            case hv12x20 => intro u hSu; clear hSu; go_simp; (try with_reducible rfl)
            (try simp only [Act.put, List.setIfInBounds_toArray, List.set_cons_zero, List.set_cons_succ])
            refine regN_takeC [27, 26, 25, 24, 23] (i := 22) (d := (some 96)) (v := ?v12x21) (l2 := #[true, true, true, true, true, true, true, true, true, true, true, true, true, true, true, true, true, true, true, true, true, true, true, false, false, false, false, false, false]) rfl rfl rfl (by kernel_rfl) (by kernel_rfl) (by kernel_rfl) (by kernel_rfl) (fun _ _ _ h => h) (by rfl) ?hv12x21 hS2 ?h12x21
            case hv12x21 => intro u hSu; clear hSu; go_simp; (try with_reducible rfl)
            (try simp only [Act.put, List.setIfInBounds_toArray, List.set_cons_zero, List.set_cons_succ])
            refine regN_takeC [27, 26, 25, 24] (i := 23) (d := (some 97)) (v := ?v12x22) (l2 := #[true, true, true, true, true, true, true, true, true, true, true, true, true, true, true, true, true, true, true, true, true, true, true, true, false, false, false, false, false]) rfl rfl rfl (by kernel_rfl) (by kernel_rfl) (by kernel_rfl) (by kernel_rfl) (fun _ _ _ h => h) (by rfl) ?hv12x22 hS2 ?h12x22
            case hv12x22 => intro u hSu; clear hSu; go_simp; (try with_reducible rfl)
            (try simp only [Act.put, List.setIfInBounds_toArray, List.set_cons_zero, List.set_cons_succ])
            refine regN_ready (rs := [24]) (by kernel_rfl) (by simp) ?_
            refine (AllN.cons (i := 24) (l2 := #[true, true, true, true, true, true, true, true, true, true, true, true, true, true, true, true, true, true, true, true, true, true, true, true, true, false, false, false, false]) rfl rfl (fun K hK => ?_) AllN.nil)
            go_simp
            rw [if_pos (show j < m by omega)]
            go_simp
            have hS3 : ((fun W' => W'.cell? ⟨g, j, none⟩ = some (.string s) ∧ W'.cell? ⟨g, j + 1, none⟩ = some (.string k.su) ∧ W'.cell? ⟨B13, 1, none⟩ = some (.string k.su) ∧ Below w.heap.size w W' ∧ W'.ownsRow W3.heap.size 9 1 (.slice (some ⟨g, 0, none⟩) (m + 1) pc) (m + 1) (strs P)) : World → Prop) _ := (show (fun W' => W'.cell? ⟨g, j, none⟩ = some (.string s) ∧ W'.cell? ⟨g, j + 1, none⟩ = some (.string k.su) ∧ W'.cell? ⟨B13, 1, none⟩ = some (.string k.su) ∧ Below w.heap.size w W' ∧ W'.ownsRow W3.heap.size 9 1 (.slice (some ⟨g, 0, none⟩) (m + 1) pc) (m + 1) (strs P)) _ from ⟨q1, q2, q3, HBN.out, HON.out⟩)
            refine hK _ _ (fun _ => hS3) ?_
            clear hK K
            (try simp only [Act.put, List.setIfInBounds_toArray, List.set_cons_zero, List.set_cons_succ])
            refine regN_takeC [27, 26] (i := 25) (d := (some 99)) (v := ?v12x23) (l2 := #[true, true, true, true, true, true, true, true, true, true, true, true, true, true, true, true, true, true, true, true, true, true, true, true, true, true, false, false, false]) rfl rfl rfl (by kernel_rfl) (by kernel_rfl) (by kernel_rfl) (by kernel_rfl) (fun _ _ _ h => h) (by rfl) ?hv12x23 hS3 ?h12x23
            case hv12x23 => intro u hSu; (try dsimp only at hSu); (try go_split_ands); go_simp; (try with_reducible rfl)
            (try simp only [Act.put, List.setIfInBounds_toArray, List.set_cons_zero, List.set_cons_succ])
            refine regN_takeC [27] (i := 26) (d := (some 100)) (v := ?v12x24) (l2 := #[true, true, true, true, true, true, true, true, true, true, true, true, true, true, true, true, true, true, true, true, true, true, true, true, true, true, true, false, false]) rfl rfl rfl (by kernel_rfl) (by kernel_rfl) (by kernel_rfl) (by kernel_rfl) (fun _ _ _ h => h) (by rfl) ?hv12x24 hS3 ?h12x24
            case hv12x24 => intro u hSu; clear hSu; go_simp; (try with_reducible rfl)
            (try simp only [Act.put, List.setIfInBounds_toArray, List.set_cons_zero, List.set_cons_succ])
            refine regN_take (i := 27) (d := (some 101)) (v := ?v12x25) (l2 := #[true, true, true, true, true, true, true, true, true, true, true, true, true, true, true, true, true, true, true, true, true, true, true, true, true, true, true, true, false]) rfl rfl rfl (by kernel_rfl) (by kernel_rfl) (by kernel_rfl) (by kernel_rfl) (fun _ _ _ h => h) (by rfl) ?hv12x25 hS3 ?h12x25
            case hv12x25 => intro u hSu; clear hSu; go_simp; (try with_reducible rfl)
            (try simp only [Act.put, List.setIfInBounds_toArray, List.set_cons_zero, List.set_cons_succ])
            refine regN_ready (rs := [28]) (by kernel_rfl) (by simp) ?_
            refine (AllN.cons (i := 28) (l2 := #[true, true, true, true, true, true, true, true, true, true, true, true, true, true, true, true, true, true, true, true, true, true, true, true, true, true, true, true, true]) rfl rfl (fun K hK => ?_) AllN.nil)
            go_simp
            refine hK _ _ (fun h => absurd rfl h) ?_
            clear hK K
            (try simp only [Act.put, List.setIfInBounds_toArray, List.set_cons_zero, List.set_cons_succ])
            refine regN_done (by kernel_rfl) ?_ _
            go_wp2
            go_roundw
            case rel => exact ⟨j + 1, by go_num, by omega, HBN, HON⟩
            case measure => simp [intOf] <;> omega
          · obtain rfl : j = m := by omega
            have e2 : decide ((j : Int) + 1 < (j : Int) + 1) = false := decide_eq_false (by omega)
            refine regN_start (N := 28) (S := (fun W' => W'.cell? ⟨g, j, none⟩ = some (.string s) ∧ Below w.heap.size w W' ∧ W'.ownsRow W3.heap.size 9 1 (.slice (some ⟨g, 0, none⟩) (j + 1) pc) (j + 1) (strs P))) (by kernel_rfl) ?_
            change wpAnyN _ _ _ _ _ _ _ #[false, false, false, false, false, false, false, false, false, false, false, false, false, false, false, false, false, false, false, false, false, false, false, false, false, false, false, false, false] _ (World.drew _)
            have hS0 := (show (fun W' => W'.cell? ⟨g, j, none⟩ = some (.string s) ∧ Below w.heap.size w W' ∧ W'.ownsRow W3.heap.size 9 1 (.slice (some ⟨g, 0, none⟩) (j + 1) pc) (j + 1) (strs P)) W9.drew from ⟨k9, HB9.out.drew, HO9.out⟩)
            refine regN_takeC [12, 11, 2, 1] (i := 0) (d := (some 74)) (v := ?v12y1) (l2 := #[true, false, false, false, false, false, false, false, false, false, false, false, false, false, false, false, false, false, false, false, false, false, false, false, false, false, false, false, false]) rfl rfl rfl (by kernel_rfl) (by kernel_rfl) (by kernel_rfl) (by kernel_rfl) (fun _ _ _ h => h) (by rfl) ?hv12y1 hS0 ?h12y1
            case hv12y1 => intro u hSu; clear hSu; go_simp; (try with_reducible rfl)
            (try simp only [Act.put, List.setIfInBounds_toArray, List.set_cons_zero, List.set_cons_succ])
            refine regN_takeC [12, 11, 2] (i := 1) (d := (some 75)) (v := ?v12y2) (l2 := #[true, true, false, false, false, false, false, false, false, false, false, false, false, false, false, false, false, false, false, false, false, false, false, false, false, false, false, false, false]) rfl rfl rfl (by kernel_rfl) (by kernel_rfl) (by kernel_rfl) (by kernel_rfl) (fun _ _ _ h => h) (by rfl) ?hv12y2 hS0 ?h12y2
            case hv12y2 => intro u hSu; clear hSu; go_simp; (try with_reducible rfl)
            (try simp only [Act.put, List.setIfInBounds_toArray, List.set_cons_zero, List.set_cons_succ])
            refine regN_takeC [12, 11] (i := 2) (d := (some 76)) (v := ?v12y3) (l2 := #[true, true, true, false, false, false, false, false, false, false, false, false, false, false, false, false, false, false, false, false, false, false, false, false, false, false, false, false, false]) rfl rfl rfl (by kernel_rfl) (by kernel_rfl) (by kernel_rfl) (by kernel_rfl) (fun _ _ _ h => h) (by rfl) ?hv12y3 hS0 ?h12y3
            case hv12y3 => intro u hSu; clear hSu; go_simp; (try with_reducible rfl)
            (try simp only [Act.put, List.setIfInBounds_toArray, List.set_cons_zero, List.set_cons_succ])
            refine regN_takeC [12, 9] (i := 3) (d := (some 77)) (v := ?v12y4) (l2 := #[true, true, true, true, false, false, false, false, false, false, false, false, false, false, false, false, false, false, false, false, false, false, false, false, false, false, false, false, false]) rfl rfl rfl (by kernel_rfl) (by kernel_rfl) (by kernel_rfl) (by kernel_rfl) (fun _ _ _ h => h) (by rfl) ?hv12y4 hS0 ?h12y4
            case hv12y4 => intro u hSu; clear hSu; go_simp; (try with_reducible rfl)
            (try simp only [Act.put, List.setIfInBounds_toArray, List.set_cons_zero, List.set_cons_succ])
            refine regN_takeC [12, 9] (i := 4) (d := (some 78)) (v := ?v12y5) (l2 := #[true, true, true, true, true, false, false, false, false, false, false, false, false, false, false, false, false, false, false, false, false, false, false, false, false, false, false, false, false]) rfl rfl rfl (by kernel_rfl) (by kernel_rfl) (by kernel_rfl) (by kernel_rfl) (fun _ _ _ h => h) (by rfl) ?hv12y5 hS0 ?h12y5
            case hv12y5 => intro u hSu; clear hSu; go_simp; (try with_reducible rfl)
            (try simp only [Act.put, List.setIfInBounds_toArray, List.set_cons_zero, List.set_cons_succ])
            refine regN_takeC [12, 9, 8, 7] (i := 5) (d := (some 79)) (v := ?v12y6) (l2 := #[true, true, true, true, true, true, false, false, false, false, false, false, false, false, false, false, false, false, false, false, false, false, false, false, false, false, false, false, false]) rfl rfl rfl (by kernel_rfl) (by kernel_rfl) (by kernel_rfl) (by kernel_rfl) (fun _ _ _ h => h) (by rfl) ?hv12y6 hS0 ?h12y6
            case hv12y6 => intro u hSu; clear hSu; go_simp; (try with_reducible rfl)
            (try simp only [Act.put, List.setIfInBounds_toArray, List.set_cons_zero, List.set_cons_succ])
            refine regN_takeC [12, 9, 8, 7] (i := 6) (d := (some 80)) (v := ?v12y7) (l2 := #[true, true, true, true, true, true, true, false, false, false, false, false, false, false, false, false, false, false, false, false, false, false, false, false, false, false, false, false, false]) rfl rfl rfl (by kernel_rfl) (by kernel_rfl) (by kernel_rfl) (by kernel_rfl) (fun _ _ _ h => h) (by rfl) ?hv12y7 hS0 ?h12y7
            case hv12y7 => intro u hSu; clear hSu; go_simp; (try with_reducible rfl)
            (try simp only [Act.put, List.setIfInBounds_toArray, List.set_cons_zero, List.set_cons_succ])
            refine regN_takeC [12, 9, 8] (i := 7) (d := (some 81)) (v := ?v12y8) (l2 := #[true, true, true, true, true, true, true, true, false, false, false, false, false, false, false, false, false, false, false, false, false, false, false, false, false, false, false, false, false]) rfl rfl rfl (by kernel_rfl) (by kernel_rfl) (by kernel_rfl) (by kernel_rfl) (fun _ _ _ h => h) (by rfl) ?hv12y8 hS0 ?h12y8
            case hv12y8 => intro u hSu; clear hSu; go_simp; (try with_reducible rfl)
            (try simp only [Act.put, List.setIfInBounds_toArray, List.set_cons_zero, List.set_cons_succ])
            refine regN_takeC [12, 9] (i := 8) (d := (some 82)) (v := ?v12y9) (l2 := #[true, true, true, true, true, true, true, true, true, false, false, false, false, false, false, false, false, false, false, false, false, false, false, false, false, false, false, false, false]) rfl rfl rfl (by kernel_rfl) (by kernel_rfl) (by kernel_rfl) (by kernel_rfl) (fun _ _ _ h => h) (by rfl) ?hv12y9 hS0 ?h12y9
            case hv12y9 => intro u hSu; (try dsimp only at hSu); (try go_split_ands); go_simp; (try with_reducible rfl)
            (try simp only [Act.put, List.setIfInBounds_toArray, List.set_cons_zero, List.set_cons_succ])
            refine regN_ready (rs := [9]) (by kernel_rfl) (by simp) ?_
            refine (AllN.cons (i := 9) (l2 := #[true, true, true, true, true, true, true, true, true, true, false, false, false, false, false, false, false, false, false, false, false, false, false, false, false, false, false, false, false]) rfl rfl (fun K hK => ?_) AllN.nil)
            go_simp
            go_at_call 23
            (with_reducible refine (KI.out _ HB9.out.drew).mono ?_)
            rintro e w10 ⟨rfl, hb10⟩
            rw [HIS.out]
            have HBN := Lib.hid (below_on (show Below w.heap.size w _ from HB9.out.drew) hb10)
            have HON := Lib.hid (own_bel (show World.ownsRow W9.drew W3.heap.size 9 1 (.slice (some ⟨g, 0, none⟩) (j + 1) pc) (j + 1) (strs P) from HO9.out) hb10)
            have q1 := (hb10.cell (p := ⟨g, j, none⟩) (by exact hg9)).trans (show W9.drew.cell? _ = _ from k9)
            clear hb10
            go_simp
            have hS1 : ((fun W' => W'.cell? ⟨g, j, none⟩ = some (.string s) ∧ Below w.heap.size w W' ∧ W'.ownsRow W3.heap.size 9 1 (.slice (some ⟨g, 0, none⟩) (j + 1) pc) (j + 1) (strs P)) : World → Prop) _ := (show (fun W' => W'.cell? ⟨g, j, none⟩ = some (.string s) ∧ Below w.heap.size w W' ∧ W'.ownsRow W3.heap.size 9 1 (.slice (some ⟨g, 0, none⟩) (j + 1) pc) (j + 1) (strs P)) _ from ⟨q1, HBN.out, HON.out⟩)
            refine hK _ _ (fun _ => hS1) ?_
            clear hK K
            (try simp only [Act.put, List.setIfInBounds_toArray, List.set_cons_zero, List.set_cons_succ])
            refine regN_takeC [12, 11] (i := 10) (d := (some 84)) (v := ?v12y10) (l2 := #[true, true, true, true, true, true, true, true, true, true, true, false, false, false, false, false, false, false, false, false, false, false, false, false, false, false, false, false, false]) rfl rfl rfl (by kernel_rfl) (by kernel_rfl) (by kernel_rfl) (by kernel_rfl) (fun _ _ _ h => h) (by rfl) ?hv12y10 hS1 ?h12y10
            case hv12y10 => intro u hSu; clear hSu; go_simp; (try with_reducible rfl)
            (try simp only [Act.put, List.setIfInBounds_toArray, List.set_cons_zero, List.set_cons_succ])
            refine regN_takeC [12] (i := 11) (d := (some 85)) (v := ?v12y11) (l2 := #[true, true, true, true, true, true, true, true, true, true, true, true, false, false, false, false, false, false, false, false, false, false, false, false, false, false, false, false, false]) rfl rfl rfl (by kernel_rfl) (by kernel_rfl) (by kernel_rfl) (by kernel_rfl) (fun _ _ _ h => h) (by rfl) ?hv12y11 hS1 ?h12y11
            case hv12y11 => intro u hSu; clear hSu; go_simp; (try with_reducible rfl)
            (try simp only [Act.put, List.setIfInBounds_toArray, List.set_cons_zero, List.set_cons_succ])
            refine regN_take (i := 12) (d := (some 86)) (v := ?v12y12) (l2 := #[true, true, true, true, true, true, true, true, true, true, true, true, true, false, false, false, false, false, false, false, false, false, false, false, false, false, false, false, false]) rfl rfl rfl (by kernel_rfl) (by kernel_rfl) (by kernel_rfl) (by kernel_rfl) (fun _ _ _ h => h) (by rfl) ?hv12y12 hS1 ?h12y12
            case hv12y12 => intro u hSu; clear hSu; go_simp; (try with_reducible rfl)
            (try simp only [Act.put, List.setIfInBounds_toArray, List.set_cons_zero, List.set_cons_succ])
            refine regN_takeC [27, 18, 17, 14] (i := 13) (d := (some 87)) (v := ?v12y13) (l2 := #[true, true, true, true, true, true, true, true, true, true, true, true, true, true, false, false, false, false, false, false, false, false, false, false, false, false, false, false, false]) rfl rfl rfl (by kernel_rfl) (by kernel_rfl) (by kernel_rfl) (by kernel_rfl) (fun _ _ _ h => h) (by rfl) ?hv12y13 hS1 ?h12y13
            case hv12y13 => intro u hSu; clear hSu; go_simp; (try with_reducible rfl)
            (try simp only [Act.put, List.setIfInBounds_toArray, List.set_cons_zero, List.set_cons_succ])
            refine regN_takeC [27, 18, 17] (i := 14) (d := (some 88)) (v := ?v12y14) (l2 := #[true, true, true, true, true, true, true, true, true, true, true, true, true, true, true, false, false, false, false, false, false, false, false, false, false, false, false, false, false]) rfl rfl rfl (by kernel_rfl) (by kernel_rfl) (by kernel_rfl) (by kernel_rfl) (fun _ _ _ h => h) (by rfl) ?hv12y14 hS1 ?h12y14
            case hv12y14 => intro u hSu; clear hSu; go_simp; (try with_reducible rfl)
            (try simp only [Act.put, List.setIfInBounds_toArray, List.set_cons_zero, List.set_cons_succ])
            refine regN_takeC [27, 18, 17, 16] (i := 15) (d := (some 89)) (v := ?v12y15) (l2 := #[true, true, true, true, true, true, true, true, true, true, true, true, true, true, true, true, false, false, false, false, false, false, false, false, false, false, false, false, false]) rfl rfl rfl (by kernel_rfl) (by kernel_rfl) (by kernel_rfl) (by kernel_rfl) (fun _ _ _ h => h) (by rfl) ?hv12y15 hS1 ?h12y15
            case hv12y15 => intro u hSu; clear hSu; go_simp; (try with_reducible rfl)
            (try simp only [Act.put, List.setIfInBounds_toArray, List.set_cons_zero, List.set_cons_succ])
            refine regN_takeC [27, 18, 17] (i := 16) (d := (some 90)) (v := ?v12y16) (l2 := #[true, true, true, true, true, true, true, true, true, true, true, true, true, true, true, true, true, false, false, false, false, false, false, false, false, false, false, false, false]) rfl rfl rfl (by kernel_rfl) (by kernel_rfl) (by kernel_rfl) (by kernel_rfl) (fun _ _ _ h => h) (by rfl) ?hv12y16 hS1 ?h12y16
            case hv12y16 => intro u hSu; clear hSu; go_simp; (try with_reducible rfl)
            (try simp only [Act.put, List.setIfInBounds_toArray, List.set_cons_zero, List.set_cons_succ])
            refine regN_ready (rs := [17]) (by kernel_rfl) (by simp) ?_
            refine (AllN.cons (i := 17) (l2 := #[true, true, true, true, true, true, true, true, true, true, true, true, true, true, true, true, true, true, false, false, false, false, false, false, false, false, false, false, false]) rfl rfl (fun K hK => ?_) AllN.nil)
            go_simp
            have hS2 : ((fun W' => W'.cell? ⟨g, j, none⟩ = some (.string s) ∧ Below w.heap.size w W' ∧ W'.ownsRow W3.heap.size 9 1 (.slice (some ⟨g, 0, none⟩) (j + 1) pc) (j + 1) (strs P)) : World → Prop) _ := (show (fun W' => W'.cell? ⟨g, j, none⟩ = some (.string s) ∧ Below w.heap.size w W' ∧ W'.ownsRow W3.heap.size 9 1 (.slice (some ⟨g, 0, none⟩) (j + 1) pc) (j + 1) (strs P)) _ from ⟨q1, HBN.out, HON.out⟩)
            refine hK _ _ (fun _ => hS2) ?_
            clear hK K
            (try simp only [Act.put, List.setIfInBounds_toArray, List.set_cons_zero, List.set_cons_succ])
            refine regN_takeC [27] (i := 18) (d := (some 92)) (v := ?v12y17) (l2 := #[true, true, true, true, true, true, true, true, true, true, true, true, true, true, true, true, true, true, true, false, false, false, false, false, false, false, false, false, false]) rfl rfl rfl (by kernel_rfl) (by kernel_rfl) (by kernel_rfl) (by kernel_rfl) (fun _ _ _ h => h) (by rfl) ?hv12y17 hS2 ?h12y17
            case hv12y17 => intro u hSu; clear hSu; go_simp; (try with_reducible rfl)
            (try simp only [Act.put, List.setIfInBounds_toArray, List.set_cons_zero, List.set_cons_succ])
            refine regN_skipC [27, 26, 20] (i := 19) (d := (some 93)) (l2 := #[true, true, true, true, true, true, true, true, true, true, true, true, true, true, true, true, true, true, true, true, false, false, false, false, false, false, false, false, false]) rfl rfl rfl (by kernel_rfl) (by kernel_rfl) (by kernel_rfl) (by kernel_rfl) (fun _ _ _ h => h) (by rfl) hS2 ?_
            (try simp only [Act.put, List.setIfInBounds_toArray, List.set_cons_zero, List.set_cons_succ])
            refine regN_skipC [27, 26] (i := 20) (d := (some 94)) (l2 := #[true, true, true, true, true, true, true, true, true, true, true, true, true, true, true, true, true, true, true, true, true, false, false, false, false, false, false, false, false]) rfl rfl rfl (by kernel_rfl) (by kernel_rfl) (by kernel_rfl) (by kernel_rfl) (fun _ _ _ h => h) (by rfl) hS2 ?_
            (try simp only [Act.put, List.setIfInBounds_toArray, List.set_cons_zero, List.set_cons_succ])
            refine regN_skipC [27, 26, 25, 24] (i := 21) (d := (some 95)) (l2 := #[true, true, true, true, true, true, true, true, true, true, true, true, true, true, true, true, true, true, true, true, true, true, false, false, false, false, false, false, false]) rfl rfl rfl (by kernel_rfl) (by kernel_rfl) (by kernel_rfl) (by kernel_rfl) (fun _ _ _ h => h) (by rfl) hS2 ?_
            (try simp only [Act.put, List.setIfInBounds_toArray, List.set_cons_zero, List.set_cons_succ])
            refine regN_skipC [27, 26, 25, 24, 23] (i := 22) (d := (some 96)) (l2 := #[true, true, true, true, true, true, true, true, true, true, true, true, true, true, true, true, true, true, true, true, true, true, true, false, false, false, false, false, false]) rfl rfl rfl (by kernel_rfl) (by kernel_rfl) (by kernel_rfl) (by kernel_rfl) (fun _ _ _ h => h) (by rfl) hS2 ?_
            (try simp only [Act.put, List.setIfInBounds_toArray, List.set_cons_zero, List.set_cons_succ])
            refine regN_skipC [27, 26, 25, 24] (i := 23) (d := (some 97)) (l2 := #[true, true, true, true, true, true, true, true, true, true, true, true, true, true, true, true, true, true, true, true, true, true, true, true, false, false, false, false, false]) rfl rfl rfl (by kernel_rfl) (by kernel_rfl) (by kernel_rfl) (by kernel_rfl) (fun _ _ _ h => h) (by rfl) hS2 ?_
            (try simp only [Act.put, List.setIfInBounds_toArray, List.set_cons_zero, List.set_cons_succ])
            refine regN_skipC [27, 26, 25] (i := 24) (d := (some 98)) (l2 := #[true, true, true, true, true, true, true, true, true, true, true, true, true, true, true, true, true, true, true, true, true, true, true, true, true, false, false, false, false]) rfl rfl rfl (by kernel_rfl) (by kernel_rfl) (by kernel_rfl) (by kernel_rfl) (fun _ _ _ h => h) (by rfl) hS2 ?_
            (try simp only [Act.put, List.setIfInBounds_toArray, List.set_cons_zero, List.set_cons_succ])
            refine regN_skipC [27, 26] (i := 25) (d := (some 99)) (l2 := #[true, true, true, true, true, true, true, true, true, true, true, true, true, true, true, true, true, true, true, true, true, true, true, true, true, true, false, false, false]) rfl rfl rfl (by kernel_rfl) (by kernel_rfl) (by kernel_rfl) (by kernel_rfl) (fun _ _ _ h => h) (by rfl) hS2 ?_
            (try simp only [Act.put, List.setIfInBounds_toArray, List.set_cons_zero, List.set_cons_succ])
            refine regN_skipC [27] (i := 26) (d := (some 100)) (l2 := #[true, true, true, true, true, true, true, true, true, true, true, true, true, true, true, true, true, true, true, true, true, true, true, true, true, true, true, false, false]) rfl rfl rfl (by kernel_rfl) (by kernel_rfl) (by kernel_rfl) (by kernel_rfl) (fun _ _ _ h => h) (by rfl) hS2 ?_
            (try simp only [Act.put, List.setIfInBounds_toArray, List.set_cons_zero, List.set_cons_succ])
            refine regN_take (i := 27) (d := (some 101)) (v := ?v12y18) (l2 := #[true, true, true, true, true, true, true, true, true, true, true, true, true, true, true, true, true, true, true, true, true, true, true, true, true, true, true, true, false]) rfl rfl rfl (by kernel_rfl) (by kernel_rfl) (by kernel_rfl) (by kernel_rfl) (fun _ _ _ h => h) (by rfl) ?hv12y18 hS2 ?h12y18
            case hv12y18 => intro u hSu; clear hSu; go_simp; (try with_reducible rfl)
            (try simp only [Act.put, List.setIfInBounds_toArray, List.set_cons_zero, List.set_cons_succ])
            refine regN_ready (rs := [28]) (by kernel_rfl) (by simp) ?_
            refine (AllN.cons (i := 28) (l2 := #[true, true, true, true, true, true, true, true, true, true, true, true, true, true, true, true, true, true, true, true, true, true, true, true, true, true, true, true, true]) rfl rfl (fun K hK => ?_) AllN.nil)
            go_simp
            refine hK _ _ (fun h => absurd rfl h) ?_
            clear hK K
            (try simp only [Act.put, List.setIfInBounds_toArray, List.set_cons_zero, List.set_cons_succ])
            refine regN_done (by kernel_rfl) ?_ _
            go_wp2
            go_roundw
            case rel => exact ⟨j + 1, by go_num, by omega, HBN, HON⟩
            case measure => simp [intOf] <;> omega
        · obtain rfl : j = m + 1 := by omega
          have HAB2 := Lib.hid (fun h => HAB.out HAF.out h)
          go_upto_region 15 with (go_at_call 25; (with_reducible refine (C1.out _ HB.out).mono ?_); rintro e w5 ⟨rfl, hb5⟩; replace HB := Lib.hid (below_on HB.out hb5); clear hb5)
          go_upto_region 17 with (go_at_call 25; (with_reducible refine (C2.out _ HB.out).mono ?_); rintro e w5 ⟨rfl, hb5⟩; replace HB := Lib.hid (below_on HB.out hb5); clear hb5)
          cases fb with
          | false =>
            go_wp2_with (go_at_call 16; (with_reducible refine (awake16_any _).mono ?_); rintro e w6 ⟨rfl, hb6⟩; replace HB := Lib.hid (below_on HB.out hb6); clear hb6)
            go_ret
            exact ⟨rfl, HB.out⟩
          | true =>
            obtain ⟨za, zb⟩ := HAB2.out HBF.out
            have ZA := Lib.hid (fun (W : World) (h : Below w.heap.size w W) => by have q := HC.out a z W ha hzs h; rw [za] at q; exact q)
            have ZB := Lib.hid (fun (W : World) (h : Below w.heap.size w W) => by have q := HC.out b z W hb hzs h; rw [zb] at q; exact q)
            clear za zb
            go_wp2_with (first | (go_at_call 16; (with_reducible refine (awake16_any _).mono ?_); rintro e w6 ⟨rfl, hb6⟩; replace HB := Lib.hid (below_on HB.out hb6); clear hb6) | (go_at_call 23; (with_reducible refine (ZA.out _ HB.out).mono ?_); rintro e w6 ⟨rfl, hb6⟩; replace HB := Lib.hid (below_on HB.out hb6); clear hb6) | (go_at_call 23; (with_reducible refine (ZB.out _ HB.out).mono ?_); rintro e w6 ⟨rfl, hb6⟩; replace HB := Lib.hid (below_on HB.out hb6); clear hb6))
            go_ret
            exact ⟨rfl, HB.out⟩
end Go.Proofs.YthifmcnemeiphaaDoor
