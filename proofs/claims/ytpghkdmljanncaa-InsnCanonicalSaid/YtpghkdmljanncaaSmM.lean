import Derived.Test.YtpghkdmljanncaaDsM
import Derived.Test.YtpghkdmljanncaaSnM
import Derived.Test.YtpghkdmljanncaaBase
import Derived.Test.YtpghkdmljanncaaInLw

/- InIt -/
/- Layer 8: indexTargets. -/
namespace Go.Proofs.Ytpghkdmljanncaa
open Go.ChangeShapes Go.WideShapes Go.ChangeAt Go.RowKit Go.PlainAid
set_option linter.unusedSimpArgs false
set_option linter.unusedVariables false

def IxtRet (w : World) (M : List In) (P : List Int) (v v2 : Value) (n : Nat) (e : Ending) (w' : World) : Prop :=
  ∃ b M', e = .returned (.bool b) ∧ DecI w w' M' v P v2 ∧ (b = true → Ixd P (M.map In.core) M' n) ∧ (b = false → (M.map In.core).all (inC P) = false)
theorem ixt_no {w w' : World} {M M' : List In} {P : List Int} {v v2 : Value} {n : Nat} (I : DecI w w' M' v P v2) (h : (M.map In.core).all (inC P) = false) : IxtRet w M P v v2 n (.returned (.bool false)) w' := ⟨false, M', rfl, I, (fun h => by cases h), fun _ => h⟩
theorem ixt_yes {w w' : World} {M M' : List In} {P : List Int} {v v2 : Value} {n : Nat} (I : DecI w w' M' v P v2) (h : Ixd P (M.map In.core) M' n) : IxtRet w M P v v2 n (.returned (.bool true)) w' := ⟨true, M', rfl, I, fun _ => h, fun h => by cases h⟩
theorem wh_count {P : List Int} {x : Int} (hp : P.Pairwise (· < ·)) (hx : x ∈ P) : ((P.countP (· < x) : Nat) : Int) = whI P x := by
  unfold whI
  rw [if_pos hx, idx_count hp hx]
set_option maxRecDepth 100000 in
set_option maxHeartbeats 4000000 in
theorem ixt_any {w w0 : World} {M : List In} {A A2 : Option Addr} {n c m2 c2 : Nat} {P : List Int} (I : DecI w w0 M (.slice A n c) P (.slice A2 m2 c2)) (hn : M.length = n) (hm : P.length = m2) (hnb : n ≤ 1000) (hmb : m2 ≤ 1000000) (hs : P.Pairwise (· < ·)) :
    Calls Try.prog 65 #[.slice A n c, .slice A2 m2 c2] w0 (IxtRet w M P (.slice A n c) (.slice A2 m2 c2) n) := by
  have HI := Lib.hid I
  have HMN := Lib.hid hn
  have HPM := Lib.hid hm
  have HS := Lib.hid hs
  clear I hn hm hs
  go_enter Try.func65, Try.ntmps65
  go_wp2
  go_loopw [14] (fun x wr => ∃ (k : Nat) (M' : List In), k ≤ n ∧ x = .int .i64 k ∧ DecI w wr M' (.slice A n c) P (.slice A2 m2 c2) ∧ Ixd P (M.map In.core) M' k) (fun x _ => n - (intOf x).toNat)
  case atStart => exact ⟨0, M, Nat.zero_le _, rfl, HI.out, Ixd.start⟩
  case round =>
    clear HI
    obtain ⟨k, M', hk, rfl, I, hix⟩ := hrel
    have HIX := Lib.hid hix
    have HML := Lib.hid (show M'.length = n by rw [hix.len, List.length_map]; exact HMN.out)
    have HI := Lib.hid I
    clear hix
    by_cases hlt : k < n
    · obtain ⟨g, rfl, hgB, hgw⟩ := I.addr HML.out (by omega)
      obtain ⟨i, hi⟩ := get_some (l := M') (k := k) (by rw [HML.out]; exact hlt)
      obtain ⟨cc, hcc⟩ := get_some (l := M.map In.core) (k := k) (by rw [List.length_map, HMN.out]; exact hlt)
      have a0 := I.cell HML.out hi (j := 0) (by decide) rfl
      rw [Nat.add_zero] at a0
      have a3 := I.cell HML.out hi (j := 3) (by decide) rfl
      have f3 := I.thaw HML.out (k * 10 + 3)
      have hcore := HIX.out.new k i cc (Nat.le_refl _) hi hcc
      have hk0 : (0 : Int) ≤ (k : Int) := by omega
      have hk1 : (k : Int) < (n : Int) := by omega
      have HCO := Lib.hid hcore
      have HII := Lib.hid (And.intro hi hcc)
      have hpl2 := I.pl
      rw [HPM.out] at hpl2
      obtain ⟨hrow, _⟩ := Row.of_own hpl2
      have HRW := Lib.hid hrow
      clear I hcore hi hcc hrow hpl2
      cases hb : brB i.op with
      | false =>
        have HBR := Lib.hid hb
        go_wp2_with (go_at_call 55; refine (br_any _ _).mono ?_; rintro e w' ⟨rfl, rfl⟩; rw [HBR.out])
        exact ⟨⟨k + 1, M', hlt, by go_num, HI.out, HIX.out.skip HII.out.1 HII.out.2 (by rw [← HCO.out]; exact HBR.out)⟩, by simp [intOf]; omega⟩
      | true =>
        have HBR := Lib.hid hb
        by_cases hip : i.t ∈ P
        · have HD := Lib.hid (show decide (i.t ∈ P) = true from decide_eq_true hip)
          have HIP := Lib.hid hip
          obtain ⟨x, hx⟩ : ∃ x : Int, ((P.countP (· < i.t) : Nat) : Int) = x := ⟨_, rfl⟩
          have HX := Lib.hid hx
          have HXW := Lib.hid (show whI P i.t = x by rw [← hx]; exact (wh_count HS.out hip).symm)
          clear hip hx hb
          go_upto_region 6 with (first | (go_at_call 55; refine (br_any _ _).mono ?_; rintro e w' ⟨rfl, rfl⟩; rw [HBR.out]) | (go_at_call 59; refine (bs_any i.t HRW.out HPM.out hmb HS.out).mono ?_; rintro e w' ⟨rfl, q, rfl⟩; rw [HD.out, HX.out]))
          have HI4 := Lib.hid (HI.out.below (below_dr (Below.refl _ _) q))
          clear HI HRW a0 a3 f3 HX HD
          generalize wr.drewN q = W4 at HI4 ⊢
          have hgw4 : g < W4.heap.size := by
            obtain ⟨g', hg', _, h4⟩ := HI4.out.addr HML.out (by omega)
            injection hg' with hg'
            injection hg' with hg'
            omega
          have a3 := HI4.out.cell HML.out HII.out.1 (j := 3) (by decide) rfl
          have f3 := HI4.out.thaw HML.out (k * 10 + 3)
          go_upto_region 9 with fail
          have I5 := HI4.out.putT' x HML.out HII.out.1
          have HI5 := Lib.hid I5
          generalize W4.setCell ⟨g, k * 10 + 3, none⟩ (.int .i64 x) = W5 at I5 HI5 ⊢
          have hg5 := set_get (i' := i.setT x) HII.out.1
          have hl5 : (M'.set k (i.setT x)).length = n := by rw [List.length_set]; exact HML.out
          obtain ⟨X, hX⟩ : ∃ X, i.tA = X := ⟨_, rfl⟩
          have e5 : W5.cell? ⟨g, k * 10 + 5, none⟩ = some (.slice i.tA i.tn i.tc) := I5.cell hl5 hg5 (j := 5) (by decide) rfl
          rw [hX] at e5
          have HXA := Lib.hid hX
          have HG5 := Lib.hid hg5
          have HL5 := Lib.hid hl5
          clear a3 f3 I5 hg5 hl5 HI4 hX
          go_wp2
          go_loopw [47] (fun z wr => ∃ (j : Nat) (ij : In), j ≤ i.tn ∧ z = .int .i64 j ∧ DecI w wr (M'.set k ij) (.slice (some ⟨g, 0, none⟩) n c) P (.slice A2 m2 c2) ∧ Hlf P i ij x j) (fun z _ => i.tn - (intOf z).toNat)
          case atStart => exact ⟨0, i.setT x, Nat.zero_le _, rfl, HI5.out, Hlf.start⟩
          case round =>
            clear HI5 e5
            obtain ⟨j, ij, hj, rfl, Ij, hh⟩ := hrel
            have hgj := set_get (i' := ij) HII.out.1
            have hlj : (M'.set k ij).length = n := by rw [List.length_set]; exact HML.out
            have e5 := Ij.cell hlj hgj (j := 5) (by decide) rfl
            rw [hh.tA, hh.tn, hh.tc, HXA.out] at e5
            have HIJ := Lib.hid Ij
            have HH := Lib.hid hh
            have HGJ := Lib.hid hgj
            have HLJ := Lib.hid hlj
            have hheld := Ij.held ij (List.mem_of_getElem? hgj)
            have hts : ij.ts = half P i.ts j := by have := hh.core; unfold In.core at this; injection this
            have htl : i.ts.length = i.tn := by
              have h1 := hheld.ok.2.2.2.2.1
              rw [hts, half_len, hh.tn] at h1
              exact h1
            have HTL := Lib.hid htl
            have HHD := Lib.hid hheld
            have HTS := Lib.hid hts
            clear Ij hh hgj hlj hheld htl hts
            by_cases hjt : j < i.tn
            · have hto := HHD.out.to
              have htv : ij.tv = .slice X i.tn i.tc := by unfold In.tv; rw [HH.out.tA, HH.out.tn, HH.out.tc, HXA.out]
              rw [htv, HH.out.tn] at hto
              obtain ⟨gt, cap, hv, hgB2, hgl⟩ := hto.form (by omega)
              injection hv with hA _ hcap
              subst hA
              obtain ⟨y, hy⟩ := get_some (l := i.ts) (k := j) (by rw [HTL.out]; exact hjt)
              have f5 := hto.frozenAt j
              have hcy2 := hto.cellAt j (by omega)
              rw [HTS.out, show (Ri (half P i.ts j))[j]? = some (.int .i64 y) by unfold Ri; rw [List.getElem?_map, half_at hy]; rfl] at hcy2
              have hj0 : (0 : Int) ≤ (j : Int) := by omega
              have hj1 : (j : Int) < (i.tn : Int) := by omega
              have hjl : (i.tn : Int) ≤ 9223372036854775807 := by
                obtain ⟨_, _, _, z1, z2, _⟩ := own_form hto
                unfold maxLen at z2
                omega
              have hpl2 := HIJ.out.pl
              rw [HPM.out] at hpl2
              have HRW := Lib.hid (Row.of_own hpl2).1
              have hgwj : g < wr.heap.size := by
                obtain ⟨g', hg', _, h4⟩ := HIJ.out.addr HLJ.out (by omega)
                injection hg' with hg'
                injection hg' with hg'
                omega
              obtain ⟨u, hu⟩ : ∃ u : Int, ((P.countP (· < y) : Nat) : Int) = u := ⟨_, rfl⟩
              have HU := Lib.hid hu
              have HY := Lib.hid hy
              clear hto htv hcap hy hu hpl2
              by_cases hyp : y ∈ P
              · have HD := Lib.hid (show decide (y ∈ P) = true from decide_eq_true hyp)
                have HUW := Lib.hid (show whI P y = u by rw [← HU.out]; exact (wh_count HS.out hyp).symm)
                have HYP := Lib.hid hyp
                clear hyp
                go_upto_region 13 with (go_at_call 59; refine (bs_any y HRW.out HPM.out hmb HS.out).mono ?_; rintro e w' ⟨rfl, q, rfl⟩; rw [HD.out, HU.out])
                have HI6 := Lib.hid (HIJ.out.below (below_dr (Below.refl _ _) q))
                have e6 : (wr.drewN q).cell? ⟨g, k * 10 + 5, none⟩ = some (.slice (some ⟨gt, 0, none⟩) i.tn i.tc) := e5
                have f6 : (wr.drewN q).frozen? ⟨gt, j, none⟩ = false := f5
                have c6 : (wr.drewN q).cell? ⟨gt, j, none⟩ = some (.int .i64 y) := hcy2
                have hg6 : g < (wr.drewN q).heap.size := hgwj
                have hgl6 : gt < (wr.drewN q).heap.size := hgl
                clear HIJ e5 f5 hcy2 HRW hgwj hgl HU HD
                generalize wr.drewN q = W6 at HI6 e6 f6 c6 hg6 hgl6 ⊢
                have HI7 := Lib.hid (HI6.out.putTs (j := j) u HGJ.out (HH.out.tA.trans HXA.out))
                have hnx := HH.out.next HY.out HYP.out
                rw [HUW.out] at hnx
                have HNX := Lib.hid hnx
                clear hnx
                go_wp2
                exact ⟨⟨j + 1, ij.setTs j u, hjt, by go_num, by have := HI7.out; rw [List.set_set] at this; exact this, HNX.out⟩, by simp [intOf]; omega⟩
              · have HD := Lib.hid (show decide (y ∈ P) = false from decide_eq_false hyp)
                have HNO := Lib.hid (all_no HII.out.2 (in_no HCO.out HBR.out HY.out hyp))
                clear hyp
                go_wp2_with (go_at_call 59; refine (bs_any y HRW.out HPM.out hmb HS.out).mono ?_; rintro e w' ⟨rfl, q, rfl⟩; rw [HD.out])
                go_ret
                exact ixt_no (HIJ.out.below (below_dr (Below.refl _ _) _)) HNO.out
            · obtain ⟨rfl⟩ : j = i.tn := by omega
              have HEN := Lib.hid (HH.out.end HTL.out.symm HCO.out HBR.out HXW.out.symm HIP.out)
              go_wp2
              exact ⟨⟨k + 1, M'.set k ij, hlt, by go_num, HIJ.out, HIX.out.step HII.out.1 HII.out.2 HEN.out.1 HEN.out.2⟩, by simp [intOf]; omega⟩
        · have HD := Lib.hid (show decide (i.t ∈ P) = false from decide_eq_false hip)
          have hnot : inC P cc = false := by
            rw [← HCO.out]
            unfold inC
            rw [show (In.core i).op = i.op from rfl, HBR.out, show (In.core i).t = i.t from rfl, decide_eq_false hip]
            rfl
          have HNO := Lib.hid (all_no HII.out.2 hnot)
          clear hip hnot hb
          go_wp2_with (first | (go_at_call 55; refine (br_any _ _).mono ?_; rintro e w' ⟨rfl, rfl⟩; rw [HBR.out]) | (go_at_call 59; refine (bs_any i.t HRW.out HPM.out hmb HS.out).mono ?_; rintro e w' ⟨rfl, q, rfl⟩; rw [HD.out]))
          go_ret
          exact ixt_no (HI.out.below (below_dr (Below.refl _ _) _)) HNO.out
    · obtain ⟨rfl⟩ : n = k := by omega
      go_wp2
      go_ret
      exact ixt_yes HI.out HIX.out

end Go.Proofs.Ytpghkdmljanncaa

/- InDd -/
/- Layer 8: Decode. -/
namespace Go.Proofs.Ytpghkdmljanncaa
open Go.ChangeShapes Go.WideShapes Go.ChangeAt Go.RowKit Go.PlainAid
set_option linter.unusedSimpArgs false
set_option linter.unusedVariables false

set_option maxRecDepth 100000 in
set_option maxHeartbeats 4000000 in
theorem dec_any (s : ByteArray) (hs : s.size ≤ 1000000) (w : World) : Calls Try.prog 27 #[.string s] w (DecRet w s) := by
  by_cases hbig : 20000 < s.size
  · have HX := Lib.hid (dc_1 hbig)
    go_enter Try.func27, Try.ntmps27
    go_wp2
    go_ret2
    exact dec_no HX.out (by decide) (Below.refl _ _)
  · have HBIG := Lib.hid hbig
    have hsz : s.size ≤ 20000 := by omega
    clear hbig
    have HSCN := Lib.hid (scan_any s (by omega) w)
    by_cases h0 : (scA s 0).2 = 0
    · have H0 := Lib.hid h0
      clear h0
      go_enter Try.func27, Try.ntmps27
      go_upto_region 6 with (go_at_call 64; refine HSCN.out.mono ?_; rintro e w1 ⟨v, v2, M, P, rfl, hok, hb1⟩; rw [H0.out]; obtain ⟨I, hsc⟩ := hok H0.out; have HI := Lib.hid I; have HSC := Lib.hid hsc; clear hok I hsc; obtain ⟨A, c, rfl, _, _, _⟩ := own_form HI.out.own; obtain ⟨A2, c2, rfl, _, _, _⟩ := own_form HI.out.pl)
      have hE := HSC.out.end (Int.le_refl _)
      have hlt := scF_lt s (s.size + 1) 0
      rw [show scF s (s.size + 1) 0 = scA s 0 from rfl, hE.2.1] at hlt
      have HPS := Lib.hid hlt.1
      have HE := Lib.hid hE
      clear hE hlt HSCN
      obtain ⟨n, hn⟩ : ∃ n, M.length = n := ⟨_, rfl⟩
      have HMN := Lib.hid hn
      have hlen := HSC.out.len
      rw [hn] at hlen
      have HPM := Lib.hid hlen
      rw [hn, hlen] at HI
      rw [hn, hlen]
      have hncap : n ≤ 9223372036854775807 := by
        obtain ⟨_, _, hv, h1, h2, _⟩ := own_form HI.out.own
        injection hv with _ h3 _
        unfold maxLen at h2
        omega
      clear hn hlen
      by_cases h1000 : 1000 < n
      · have HX := Lib.hid (dc_3 HBIG.out HE.out.1 (by rw [HE.out.2.2.2, HMN.out]; exact h1000))
        go_wp2
        go_ret2
        exact dec_no HX.out (by decide) HI.out.bel
      · have hnb : n ≤ 1000 := by omega
        have HIX := Lib.hid (ixt_any HI.out HMN.out HPM.out hnb (by omega) HPS.out)
        clear h1000
        by_cases hall : (M.map In.core).all (inC P) = true
        · have HALL := Lib.hid hall
          clear hall
          go_upto_region 10 with (go_at_call 65; refine HIX.out.mono ?_; rintro e w2 ⟨b, M', rfl, I2, hyes, hno⟩; obtain rfl : b = true := (by cases b with | true => rfl | false => have := hno rfl; rw [HALL.out] at this; cases this); have HI2 := Lib.hid I2; have HY := Lib.hid (hyes rfl); clear I2 hyes hno)
          have HML := Lib.hid (show M'.length = n by rw [HY.out.len, List.length_map]; exact HMN.out)
          have HT := Lib.hid (turned HBIG.out HE.out (by rw [HMN.out]; omega) (by rw [HMN.out]; exact HY.out) HI2.out)
          have hins := HI2.out.ins
          have HP := Lib.hid hins.1
          clear hins HI HIX HY
          go_wp2
          go_loopw [31] (fun x wx => ∃ k : Nat, k ≤ n ∧ x = .int .i64 k ∧ (∀ (j : Nat) (i : In), j < k → M'[j]? = some i → ciE i = 0) ∧ Below w2.heap.size w2 wx) (fun x _ => n - (intOf x).toNat)
          case atStart => exact ⟨0, Nat.zero_le _, rfl, fun j i hj => absurd hj (Nat.not_lt_zero _), Below.refl _ _⟩
          case round =>
            obtain ⟨k, hk, rfl, hok, hBr⟩ := hrel
            have HOK := Lib.hid hok
            clear hok
            by_cases hlt : k < n
            · obtain ⟨i, hp⟩ := get_some (l := M') (k := k) (by rw [HML.out]; exact hlt)
              have HPW := Lib.hid (HP.out.up hBr)
              rcases HPW.out with h0 | ⟨g, o, rfl, hg, hcell⟩
              · rw [h0] at hp; simp at hp
              · obtain ⟨iok, a0, a1, a2, a3, a4, a5, a6, a7, a8, a9⟩ := hcell k _ hp
                have IOK := Lib.hid iok
                have HPK := Lib.hid hp
                clear hcell iok hp
                have hk0 : (0 : Int) ≤ (k : Int) := by omega
                have hk1 : (k : Int) < (n : Int) := by omega
                by_cases hc : ciE i = 0
                · have HC := Lib.hid hc
                  clear hc
                  go_wp2_with (go_at_call 16; refine (chk_any i _ (IOK.out.up (by first | exact Below.refl _ _ | exact below_al (Below.refl _ _) _))).mono ?_; rintro e w3 ⟨rfl, hb3⟩; rw [HC.out])
                  refine ⟨⟨k + 1, hlt, by go_num, fun j x hj hx => ?_, below_on hBr (Below.trans (below_al (Below.refl _ _) _) (hb3.mono (below_al (Below.refl _ _) _).size))⟩, by simp [intOf]; omega⟩
                  rcases (by omega : j < k ∨ j = k) with h | rfl
                  · exact HOK.out j x h hx
                  · rw [HPK.out] at hx
                    injection hx with hx
                    rw [← hx]; exact HC.out
                · have HCE := Lib.hid (HT.out.e.trans (chkE_bad HOK.out HPK.out hc))
                  have HC0 := Lib.hid hc
                  have hne := bneT' hc
                  clear hc
                  go_wp2_with (go_at_call 16; refine (chk_any i _ (IOK.out.up (by first | exact Below.refl _ _ | exact below_al (Below.refl _ _) _))).mono ?_; rintro e w3 ⟨rfl, hb3⟩)
                  go_ret2
                  exact dec_no HCE.out HC0.out (HI2.out.below (below_on hBr (Below.trans (below_al (Below.refl _ _) _) (hb3.mono (below_al (Below.refl _ _) _).size)))).bel
            · obtain ⟨rfl⟩ : n = k := by omega
              have HCK := Lib.hid (chkE_ok (L := M') fun j i hj => HOK.out j i (by rw [← HML.out]; exact get_lt hj) hj)
              go_wp2
              go_ret2
              exact dec_yes HI2.out HML.out HT.out HCK.out hBr
        · have HX4 := Lib.hid (dc_4 HBIG.out HE.out.1 (by rw [HE.out.2.2.2, HMN.out]; omega) (by rw [HE.out.2.2.1, HE.out.2.1]; exact Bool.eq_false_iff.2 hall))
          have HALL := Lib.hid hall
          clear hall
          go_wp2_with (go_at_call 65; refine HIX.out.mono ?_; rintro e w2 ⟨b, M', rfl, I2, hyes, hno⟩; obtain rfl : b = false := (by cases b with | false => rfl | true => exact absurd ((show Ixd P (M.map In.core) M' (M.map In.core).length by rw [List.length_map, HMN.out]; exact hyes rfl).end.2) HALL.out); have HI2 := Lib.hid I2; clear I2 hyes hno)
          go_ret2
          exact dec_no HX4.out (by decide) HI2.out.bel
    · have HX2 := Lib.hid (dc_2 HBIG.out h0)
      obtain ⟨x, hx⟩ : ∃ x, (scA s 0).2 = x := ⟨_, rfl⟩
      rw [hx] at h0 HX2
      have hne := bneT' h0
      have HX := Lib.hid hx
      have H0 := Lib.hid h0
      clear hx h0
      go_enter Try.func27, Try.ntmps27
      go_wp2_with (go_at_call 64; refine HSCN.out.mono ?_; rintro e w1 ⟨v, v2, M, P, rfl, hok, hb1⟩; rw [HX.out])
      go_ret2
      exact dec_no HX2.out H0.out (by assumption)

end Go.Proofs.Ytpghkdmljanncaa

/- Lex -/
/- A long region in the order of the text: its order's check in pieces (the kernel runs out of memory where it reckons a region of a hundred operations at once). -/
namespace Go.Proofs.Ytpghkdmljanncaa
open Go.ChangeShapes Go.WideShapes Go.ChangeAt Go.RowKit Go.PlainAid
set_option linter.unusedSimpArgs false
set_option linter.unusedVariables false

/-- the first k have come up -/
def lst (n k : Nat) : Array Bool := ((List.range n).map (fun j => decide (j < k))).toArray
theorem lst_getD {n k j : Nat} {d : Bool} (hj : j < n) : (lst n k).getD j d = decide (j < k) := by
  unfold lst
  rw [Array.getD_eq_getD_getElem?, List.getElem?_toArray, List.getElem?_map, List.getElem?_range hj]
  rfl
theorem lst_out {n k j : Nat} {d : Bool} (hj : n ≤ j) : (lst n k).getD j d = d := by
  unfold lst
  rw [Array.getD_eq_getD_getElem?, List.getElem?_toArray, List.getElem?_map, List.getElem?_eq_none (by simpa using hj)]
  rfl
theorem lst_size (n k : Nat) : (lst n k).size = n := by simp [lst]
theorem lst_set {n k : Nat} (hk : k < n) : (lst n k).setIfInBounds k true = lst n (k + 1) := by
  apply Array.ext
  · rw [Array.size_setIfInBounds, lst_size, lst_size]
  · intro i h1 h2
    rw [Array.getElem_setIfInBounds]
    have e : ∀ k', (lst n k')[i]'(by rw [lst_size]; rw [lst_size] at h2; exact h2) = decide (i < k') := by intro k'; simp [lst]
    rw [e (k + 1)]
    split
    · rename_i hh; subst hh; simp
    · rename_i hh
      rw [e k]
      have : i < k + 1 ↔ i < k := by omega
      simp [this]
    · rw [Array.size_setIfInBounds] at h1; exact h1
theorem lst_zero (n : Nat) : Array.replicate n false = lst n 0 := by
  apply Array.ext
  · rw [lst_size]; simp
  · intro i h1 h2; simp [lst]
/-- the k-th comes up when those ahead of it have -/
def lexK (md : Region.Mode) (ops : Array Oper) (n k : Nat) : Bool :=
  (match ops[k]? with | some o => o.after.all (fun e => !Region.binds md e || decide (e.on < k)) | none => false) && Region.free md ops (lst n k) k
theorem lexF_of {md : Region.Mode} {ops : Array Oper} {n : Nat} (hn : ops.size = n) (h : ∀ k, k < n → lexK md ops n k = true) : ∀ f k, k + f = n → Region.lexFrom md ops f k (lst n k) = true
  | 0, k, hk => by
    show (Region.ready md ops (lst n k)).isEmpty = true
    rw [List.isEmpty_iff]
    unfold Region.ready
    rw [List.filter_eq_nil_iff]
    intro i hi
    rw [List.mem_range] at hi
    rw [lst_getD (by omega), decide_eq_true (by omega)]
    simp
  | f + 1, k, hk => by
    have hkk := h k (by omega)
    unfold lexK at hkk
    rw [Bool.and_eq_true] at hkk
    show ((Region.ready md ops (lst n k)).contains k && Region.free md ops (lst n k) k && Region.lexFrom md ops f (k + 1) ((lst n k).setIfInBounds k true)) = true
    rw [lst_set (by omega), lexF_of hn h f (k + 1) (by omega), hkk.2]
    simp only [Bool.and_true, List.contains_iff_mem]
    unfold Region.ready
    rw [List.mem_filter, List.mem_range]
    refine ⟨by omega, ?_⟩
    rw [lst_getD (by omega), decide_eq_false (by omega)]
    have h1 := hkk.1
    cases ho : ops[k]? with
    | none => rw [ho] at h1; cases h1
    | some o =>
      rw [ho] at h1
      simp only at h1
      simp only [Option.map_some, Option.getD_some, Bool.not_false, Bool.true_and]
      rw [Array.all_eq_true_iff_forall_mem] at h1 ⊢
      intro e he
      have := h1 e he
      rw [Bool.or_eq_true] at this ⊢
      rcases this with hb | hb
      · exact Or.inl hb
      · have hlt := of_decide_eq_true hb
        exact Or.inr (by rw [lst_getD (by omega)]; exact hb)
theorem lexB_of {md : Region.Mode} {ops : Array Oper} (n : Nat) (hn : ops.size = n) (hs : Region.noSelect ops = true) (h : ∀ k, k < n → lexK md ops n k = true) : Region.lexB md ops = true := by
  unfold Region.lexB
  rw [hs, hn, lst_zero, lexF_of hn h n 0 (by omega)]
  rfl
/-- a piece of the check -/
def lexC (md : Region.Mode) (ops : Array Oper) (n a l : Nat) : Bool := (List.range' a l).all (lexK md ops n)
theorem lexC_at {md : Region.Mode} {ops : Array Oper} {n a l k : Nat} (h : lexC md ops n a l = true) (h0 : a ≤ k) (h1 : k < a + l) : lexK md ops n k = true :=
  List.all_eq_true.1 h k (List.mem_range'_1.2 ⟨h0, h1⟩)
theorem lexB_128 {md : Region.Mode} {ops : Array Oper} (n : Nat) (hn : ops.size = n) (h128 : n ≤ 128) (hs : Region.noSelect ops = true)
    (c0 : lexC md ops n 0 (min 16 n) = true) (c1 : lexC md ops n 16 (min 16 (n - 16)) = true) (c2 : lexC md ops n 32 (min 16 (n - 32)) = true) (c3 : lexC md ops n 48 (min 16 (n - 48)) = true)
    (c4 : lexC md ops n 64 (min 16 (n - 64)) = true) (c5 : lexC md ops n 80 (min 16 (n - 80)) = true) (c6 : lexC md ops n 96 (min 16 (n - 96)) = true) (c7 : lexC md ops n 112 (min 16 (n - 112)) = true) : Region.lexB md ops = true :=
  lexB_of n hn hs fun k hk => by
    rcases (by omega : k < 16 ∨ (16 ≤ k ∧ k < 32) ∨ (32 ≤ k ∧ k < 48) ∨ (48 ≤ k ∧ k < 64) ∨ (64 ≤ k ∧ k < 80) ∨ (80 ≤ k ∧ k < 96) ∨ (96 ≤ k ∧ k < 112) ∨ (112 ≤ k)) with h | h | h | h | h | h | h | h
    · exact lexC_at c0 (by omega) (by omega)
    · exact lexC_at c1 (by omega) (by omega)
    · exact lexC_at c2 (by omega) (by omega)
    · exact lexC_at c3 (by omega) (by omega)
    · exact lexC_at c4 (by omega) (by omega)
    · exact lexC_at c5 (by omega) (by omega)
    · exact lexC_at c6 (by omega) (by omega)
    · exact lexC_at c7 (by omega) (by omega)

end Go.Proofs.Ytpghkdmljanncaa

/- InSm -/
/- Layer 8: Same; the law of Decode. -/
namespace Go.Proofs.Ytpghkdmljanncaa
open Go.ChangeShapes Go.WideShapes Go.ChangeAt Go.RowKit Go.PlainAid
set_option linter.unusedSimpArgs false
set_option linter.unusedVariables false

set_option maxRecDepth 100000 in
theorem ints_q {w : World} {A A2 : Option Addr} {n c c2 : Nat} {L : List Int} (h1 : Row w w.heap.size A L) (h2 : Row w w.heap.size A2 L) (hn : L.length = n) (hb : n ≤ 9223372036854775807) :
    Calls Try.prog 68 #[.slice A n c, .slice A2 n c2] w fun e w' => e = .returned (.bool true) ∧ ∃ q, w' = w.drewN q := by
  have H1 := Lib.hid h1
  have H2 := Lib.hid h2
  have HN := Lib.hid hn
  clear h1 h2 hn
  go_enter Try.func68, Try.ntmps68
  go_wp2
  go_loopw [5] (fun x wr => ∃ k q : Nat, k ≤ n ∧ x = .int .i64 k ∧ wr = w.drewN q) (fun x _ => n - (intOf x).toNat)
  case atStart => exact ⟨0, 0, Nat.zero_le _, rfl, rfl⟩
  case round =>
    obtain ⟨k, q, hk, rfl, rfl⟩ := hrel
    by_cases hlt : k < n
    · obtain ⟨g, o, rfl, hg, hc⟩ := H1.out.at (by rw [HN.out]; omega)
      obtain ⟨g2, o2, rfl, hg2, hc2⟩ := H2.out.at (by rw [HN.out]; omega)
      have a1 := hc k (by rw [HN.out]; exact hlt)
      have a2 := hc2 k (by rw [HN.out]; exact hlt)
      generalize L.getD k 0 = x at a1 a2
      have hk0 : (0 : Int) ≤ (k : Int) := by omega
      have hk1 : (k : Int) < (n : Int) := by omega
      clear hc hc2
      go_wp2
      go_quiet (fail)
      go_wp2
      exact ⟨⟨k + 1, _, hlt, by go_num, rfl⟩, by simp [intOf]; omega⟩
    · obtain ⟨rfl⟩ : n = k := by omega
      go_wp2
      go_ret
      exact ⟨rfl, _, rfl⟩
theorem core_fields {i j : In} (h : i.core = j.core) : i.op = j.op ∧ i.a = j.a ∧ i.b = j.b ∧ i.t = j.t ∧ i.ks = j.ks ∧ i.ts = j.ts := by
  unfold In.core at h
  injection h with h1 h2 h3 h4 h5 h6
  exact ⟨h1, h2, h3, h4, h5, h6⟩
theorem rf_same (w : World) : (binOp .neq 24 (.agg #[.string ⟨#[]⟩, .string ⟨#[]⟩, .string ⟨#[]⟩]) (.agg #[.string ⟨#[]⟩, .string ⟨#[]⟩, .string ⟨#[]⟩])).run Try.prog w = .ok (.bool false) w := by
  rw [rf_neq]
  have : rfZ ⟨#[]⟩ ⟨#[]⟩ ⟨#[]⟩ = true := by unfold rfZ; simp [ByteArray.toList_eq]
  rw [this]; rfl
set_option maxRecDepth 100000 in
set_option maxHeartbeats 8000000 in
theorem same_yes {w0 : World} {A A2 : Option Addr} {n c c2 : Nat} {L M : List In} (hl : L.length = n) (hm : M.length = n) (h1 : Ins w0 w0.heap.size A L) (h2 : Ins w0 w0.heap.size A2 M) (hc : L.map In.core = M.map In.core) (hb1 : ∀ i ∈ L, i.bare) (hb2 : ∀ i ∈ M, i.bare) (hn : n ≤ 9223372036854775807) :
    Calls Try.prog 29 #[.slice A n c, .slice A2 n c2] w0 fun e w' => e = .returned (.bool true) ∧ Below w0.heap.size w0 w' := by
  have H1 := Lib.hid h1
  have H2 := Lib.hid h2
  have HL := Lib.hid hl
  have HM := Lib.hid hm
  have HC := Lib.hid hc
  have HB1 := Lib.hid hb1
  have HB2 := Lib.hid hb2
  clear h1 h2 hl hm hc hb1 hb2
  go_enter Try.func29, Try.ntmps29
  go_wp2
  go_loopw [5] (fun x wr => ∃ k : Nat, k ≤ n ∧ x = .int .i64 k ∧ Below w0.heap.size w0 wr) (fun x _ => n - (intOf x).toNat)
  case atStart => exact ⟨0, Nat.zero_le _, rfl, Below.refl _ _⟩
  case round =>
    obtain ⟨k, hk, rfl, hB⟩ := hrel
    have HB := Lib.hid hB
    by_cases hlt : k < n
    · obtain ⟨i, hi⟩ := get_some (l := L) (k := k) (by rw [HL.out]; exact hlt)
      obtain ⟨j, hj⟩ := get_some (l := M) (k := k) (by rw [HM.out]; exact hlt)
      have hij : i.core = j.core := by
        have e : (L.map In.core)[k]? = (M.map In.core)[k]? := by rw [HC.out]
        rw [List.getElem?_map, List.getElem?_map, hi, hj] at e
        exact Option.some.inj e
      obtain ⟨e1, e2, e3, e4, e5, e6⟩ := core_fields hij
      obtain ⟨z1, z2, z3, z4⟩ := HB1.out i (List.mem_of_getElem? hi)
      obtain ⟨y1, y2, y3, y4⟩ := HB2.out j (List.mem_of_getElem? hj)
      rcases (H1.out.up hB) with h0 | ⟨g, o, rfl, hg, hcell⟩
      · rw [h0] at hi; simp at hi
      · obtain ⟨iok, a0, a1, a2, a3, a4, a5, a6, a7, a8, a9⟩ := hcell k _ hi
        rcases (H2.out.up hB) with h0 | ⟨g2, o2, rfl, hg2, hcell2⟩
        · rw [h0] at hj; simp at hj
        · obtain ⟨jok, b0, b1, b2, b3, b4, b5, b6, b7, b8, b9⟩ := hcell2 k _ hj
          have hkn : j.kn = i.kn := by rw [← jok.1, ← iok.1, e5]
          have htn : j.tn = i.tn := by rw [← jok.2.2.2.2.1, ← iok.2.2.2.2.1, e6]
          rw [← e1] at b0
          rw [← e2] at b1
          rw [← e3] at b2
          rw [← e4] at b3
          rw [hkn] at b4
          rw [htn] at b5
          rw [z1] at a6
          rw [z2] at a7
          rw [z3] at a8
          rw [z4] at a9
          rw [y1] at b6
          rw [y2] at b7
          rw [y3] at b8
          rw [y4] at b9
          have HK1 := Lib.hid iok.2.2.2.1
          have HK2 := Lib.hid (show Row wr wr.heap.size j.kA i.ks by rw [e5]; exact jok.2.2.2.1)
          have HT1 := Lib.hid iok.2.2.2.2.2.2.2
          have HT2 := Lib.hid (show Row wr wr.heap.size j.tA i.ts by rw [e6]; exact jok.2.2.2.2.2.2.2)
          have HLK := Lib.hid (And.intro iok.1 iok.2.2.2.2.1)
          have hkb : i.kn ≤ 9223372036854775807 := Nat.le_trans iok.2.1 iok.2.2.1
          have htb : i.tn ≤ 9223372036854775807 := Nat.le_trans iok.2.2.2.2.2.1 iok.2.2.2.2.2.2.1
          have hk0 : (0 : Int) ≤ (k : Int) := by omega
          have hk1 : (k : Int) < (n : Int) := by omega
          have hrf := rf_same
          clear hcell hcell2 iok jok hi hj hij e1 e2 e3 e4 e5 e6 z1 z2 z3 z4 y1 y2 y3 y4 hkn htn hB
          have HQ1 := Lib.hid (fun q => ints_q (w := wr.drewN q) (c := i.kc) (c2 := j.kc) HK1.out HK2.out HLK.out.1 hkb)
          have HQ2 := Lib.hid (fun q => ints_q (w := wr.drewN q) (c := i.tc) (c2 := j.tc) HT1.out HT2.out HLK.out.2 htb)
          clear HK1 HK2 HT1 HT2 HLK
          go_wp2
          refine wp_region_quiet_lit (by kernel_rfl) ?_ ?_
          · refine lexB_128 104 ?_ (by decide) ?_ ?_ ?_ ?_ ?_ ?_ ?_ ?_ ?_
            all_goals (as_aux_lemma => kernel_rfl)
          · iterate 20 (quiet_step (first | ((go_at_call 68; with_reducible exact Calls.quiet_of (HQ1.out _))) | ((go_at_call 68; with_reducible exact Calls.quiet_of (HQ2.out _)))))
            as_aux_lemma =>
              iterate 20 (quiet_step (first | ((go_at_call 68; with_reducible exact Calls.quiet_of (HQ1.out _))) | ((go_at_call 68; with_reducible exact Calls.quiet_of (HQ2.out _)))))
              as_aux_lemma =>
                iterate 20 (quiet_step (first | ((go_at_call 68; with_reducible exact Calls.quiet_of (HQ1.out _))) | ((go_at_call 68; with_reducible exact Calls.quiet_of (HQ2.out _)))))
                as_aux_lemma =>
                  iterate 20 (quiet_step (first | ((go_at_call 68; with_reducible exact Calls.quiet_of (HQ1.out _))) | ((go_at_call 68; with_reducible exact Calls.quiet_of (HQ2.out _)))))
                  as_aux_lemma =>
                    repeat (quiet_step (first | ((go_at_call 68; with_reducible exact Calls.quiet_of (HQ1.out _))) | ((go_at_call 68; with_reducible exact Calls.quiet_of (HQ2.out _)))))
                    refine wpQuiet_nil ?_
                    intro _ hw'
                    obtain ⟨nq, hw''⟩ := hw'
                    subst hw''
                    go_wp2
                    exact ⟨⟨k + 1, hlt, by go_num, below_dr HB.out _⟩, by simp [intOf]; omega⟩
    · obtain ⟨rfl⟩ : n = k := by omega
      go_wp2
      go_ret
      exact ⟨rfl, HB.out⟩

end Go.Proofs.Ytpghkdmljanncaa
