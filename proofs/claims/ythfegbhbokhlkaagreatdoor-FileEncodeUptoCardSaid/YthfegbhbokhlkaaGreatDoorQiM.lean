import Derived.Test.YthfegbhbokhlkaaGreatDoorGhM
import Derived.Test.YthfegbhbokhlkaaGreatDoorQgM
import Derived.Test.YthfegbhbokhlkaaGreatDoorPcM
import Derived.Test.YthfegbhbokhlkaaGreatDoorGqM
import Derived.Test.YthfegbhbokhlkaaGreatDoorOpM

/- Gt -/
/- Layer 11: small. (gen/gt.py) -/
namespace Go.Proofs.YthfegbhbokhlkaaGreatDoor
open Go.ChangeShapes Go.WideShapes Go.ChangeAt Go.RowKit Go.PlainAid
set_option linter.unusedSimpArgs false
set_option linter.unusedVariables false

def SmRet (w : World) (F : Fi) (e : Ending) (w' : World) : Prop := ∃ b : Bool, e = .returned (.bool b) ∧ (b = true → F.few ∧ F.pn ≤ 60) ∧ Below w.heap.size w w'
set_option maxRecDepth 100000 in
set_option maxHeartbeats 2000000 in
theorem small_any (F : Fi) (w : World) (h : F.ok w) (hm : ∀ x ∈ F.m, x.k ≤ 5864062014805) (hg : ∀ x ∈ F.g, x.k ≤ 5864062014805) : Calls Tryz.prog 5 #[F.val] w (SmRet w F) := by
  obtain ⟨Q, hQ⟩ : ∃ Q, SmRet w F = Q := ⟨_, rfl⟩
  have HQ := Lib.hid hQ
  rw [hQ]
  clear hQ
  have OK := Lib.hid h
  have HM := Lib.hid hm
  have HG := Lib.hid hg
  obtain ⟨p, pA, pn, pc, f, t, s, i, iA, ij, ic, m, mA, mj, mc, g, gA, gj, gc, a, aA, aj, ac⟩ := F
  unfold Fi.val
  simp only
  have hB := below_al (Below.refl _ w) (.cells #[.slice pA pn pc, .int .i64 f, .int .i64 t, .int .i64 s, .slice iA ij ic, .slice mA mj mc, .slice gA gj gc, .slice aA aj ac] 27)
  have HR1 := Lib.hid (h.mp.up hB)
  have HR2 := Lib.hid (h.gp.up hB)
  clear h hm hg
  by_cases c0 : 60 < pn
  · have c0' : (60 : Int) < (pn : Int) := by omega
    go_enter Tryz.func5, Tryz.ntmps5
    go_wp2
    rw [← HQ.out]
    exact ⟨false, rfl, fun h => (by cases h), hB⟩
  have c0' : ¬ (60 : Int) < (pn : Int) := by omega
  by_cases c1 : 80 < mj
  · have c1' : (80 : Int) < (mj : Int) := by omega
    go_enter Tryz.func5, Tryz.ntmps5
    go_wp2
    rw [← HQ.out]
    exact ⟨false, rfl, fun h => (by cases h), hB⟩
  have c1' : ¬ (80 : Int) < (mj : Int) := by omega
  by_cases c2 : 80 < gj
  · have c2' : (80 : Int) < (gj : Int) := by omega
    go_enter Tryz.func5, Tryz.ntmps5
    go_wp2
    rw [← HQ.out]
    exact ⟨false, rfl, fun h => (by cases h), hB⟩
  have c2' : ¬ (80 : Int) < (gj : Int) := by omega
  by_cases c3 : 20 < aj
  · have c3' : (20 : Int) < (aj : Int) := by omega
    go_enter Tryz.func5, Tryz.ntmps5
    go_wp2
    rw [← HQ.out]
    exact ⟨false, rfl, fun h => (by cases h), hB⟩
  have c3' : ¬ (20 : Int) < (aj : Int) := by omega
  by_cases c4 : 20 < ij
  · have c4' : (20 : Int) < (ij : Int) := by omega
    go_enter Tryz.func5, Tryz.ntmps5
    go_wp2
    rw [← HQ.out]
    exact ⟨false, rfl, fun h => (by cases h), hB⟩
  have c4' : ¬ (20 : Int) < (ij : Int) := by omega
  go_enter Tryz.func5, Tryz.ntmps5
  go_wp2
  go_loop [3, 4] (fun z i => ∃ (k S : Nat), k ≤ mj ∧ i = .int .i64 k ∧ z = .int .i64 S ∧ S ≤ k * 5864062014805 ∧ ∀ x ∈ m.take k, x.k ≤ S) (fun _ i => mj - (intOf i).toNat)
  case atStart => exact ⟨0, 0, Nat.zero_le _, rfl, rfl, by omega, fun x hx => (by simp at hx)⟩
  case round =>
    obtain ⟨k, S, hkn, rfl, rfl, hS, hall⟩ := hrel
    have HA := Lib.hid hall
    clear hall
    by_cases hlt : k < mj
    · obtain ⟨r, hr⟩ : ∃ r, m[k]? = some r := ⟨m[k]'(by rw [OK.out.ml]; exact hlt), List.getElem?_eq_getElem _⟩
      obtain ⟨g', o', hAA, hg', hcell⟩ := HR1.out.get hr
      subst hAA
      have a3 := hcell 3 _ rfl
      have hrk := HM.out r (List.mem_of_getElem? hr)
      have hk0 : (0 : Int) ≤ (k : Int) := by omega
      have hk1 : (k : Int) < (mj : Int) := by omega
      have HRK := Lib.hid hr
      clear hcell hr
      go_wp2
      go_round
      case rel => exact ⟨k + 1, S + r.k, by omega, by go_num, by go_num, by omega, fun x hx => by
        rw [List.take_add_one, HRK.out] at hx
        rcases List.mem_append.1 hx with h | h
        · have := HA.out x h; omega
        · simp at h; subst h; omega⟩
      case measure => simp [intOf]; omega
    · obtain rfl : k = mj := by omega
      have hall : ∀ x ∈ m, x.k ≤ S := fun x hx => HA.out x (by rw [List.take_of_length_le (by have := OK.out.ml; simp only at this; omega)]; exact hx)
      have HA1 := Lib.hid hall
      clear hall HA
      go_wp2
      go_loop [3, 5] (fun z i => ∃ (k' S' : Nat), k' ≤ gj ∧ i = .int .i64 k' ∧ z = .int .i64 S' ∧ S' ≤ (k + k') * 5864062014805 ∧ S ≤ S' ∧ ∀ x ∈ g.take k', x.k ≤ S') (fun _ i => gj - (intOf i).toNat)
      case atStart => exact ⟨0, S, Nat.zero_le _, rfl, rfl, by omega, Nat.le_refl _, fun x hx => (by simp at hx)⟩
      case round =>
        obtain ⟨k', S', hkn', rfl, rfl, hS', hSS, hall⟩ := hrel
        have HA := Lib.hid hall
        clear hall
        by_cases hlt : k' < gj
        · obtain ⟨r, hr⟩ : ∃ r, g[k']? = some r := ⟨g[k']'(by rw [OK.out.gl]; exact hlt), List.getElem?_eq_getElem _⟩
          obtain ⟨g', o', hAA, hg', hcell⟩ := HR2.out.get hr
          subst hAA
          have a3 := hcell 3 _ rfl
          have hrk := HG.out r (List.mem_of_getElem? hr)
          have hk0 : (0 : Int) ≤ (k' : Int) := by omega
          have hk1 : (k' : Int) < (gj : Int) := by omega
          have HRK := Lib.hid hr
          clear hcell hr
          go_wp2
          go_round
          case rel => exact ⟨k' + 1, S' + r.k, by omega, by go_num, by go_num, by omega, by omega, fun x hx => by
            rw [List.take_add_one, HRK.out] at hx
            rcases List.mem_append.1 hx with h | h
            · have := HA.out x h; omega
            · simp at h; subst h; omega⟩
          case measure => simp [intOf]; omega
        · obtain rfl : k' = gj := by omega
          have hall : ∀ x ∈ g, x.k ≤ S' := fun x hx => HA.out x (by rw [List.take_of_length_le (by have := OK.out.gl; simp only at this; omega)]; exact hx)
          have HA2 := Lib.hid hall
          clear hall HA
          have hfin : SmRet w ⟨p, pA, pn, pc, f, t, s, i, iA, ij, ic, m, mA, k, mc, g, gA, k', gc, a, aA, aj, ac⟩ (.returned (.bool (decide ((S' : Int) ≤ 60)))) (w.alloc (.cells #[.slice pA pn pc, .int .i64 f, .int .i64 t, .int .i64 s, .slice iA ij ic, .slice mA k mc, .slice gA k' gc, .slice aA aj ac] 27)) := ⟨_, rfl, fun hb => by
            have h60 : (S' : Int) ≤ 60 := of_decide_eq_true hb
            exact ⟨⟨by show ij ≤ 100; omega, by show k ≤ 100; omega, by show k' ≤ 100; omega, by show aj ≤ 100; omega, fun x hx => by have := HA1.out x hx; omega, fun x hx => by have := HA2.out x hx; omega⟩, by show pn ≤ 60; omega⟩, hB⟩
          have HFIN := Lib.hid hfin
          clear hfin
          go_wp2
          rw [← HQ.out]
          exact HFIN.out

end Go.Proofs.YthfegbhbokhlkaaGreatDoor

/- Qi -/
/- Layer 11: the reference's Encode. (gen/qj.py) -/
namespace Go.Proofs.YthfegbhbokhlkaaGreatDoor
open Go.ChangeShapes Go.WideShapes Go.ChangeAt Go.RowKit Go.PlainAid
set_option linter.unusedSimpArgs false
set_option linter.unusedVariables false

theorem feB_num (v : Fv) : feB v = ⟨#[65, 82, 77, 65, 0, 1]⟩ ++ encS v.p ++ catB p2B [v.f, v.t, v.s] ++ putB v.i.length 2 ++ catB p2B v.i ++ msB v.m ++ msB v.g ++ asB v.a := by
  show hdB ++ encS v.p ++ putB v.f 2 ++ putB v.t 2 ++ putB v.s 2 ++ putB v.i.length 2 ++ catB p2B v.i ++ msB v.m ++ msB v.g ++ asB v.a = hdB ++ encS v.p ++ (putB v.f 2 ++ (putB v.t 2 ++ (putB v.s 2 ++ ⟨#[]⟩))) ++ putB v.i.length 2 ++ catB p2B v.i ++ msB v.m ++ msB v.g ++ asB v.a
  rw [show putB v.s 2 ++ ⟨#[]⟩ = putB v.s 2 from ByteArray.append_empty]
  simp only [ByteArray.append_assoc]

set_option maxRecDepth 100000 in
set_option maxHeartbeats 8000000 in
theorem rfenc_any (F : Fi) (w : World) (h : F.ok w) (hf : F.few) (hS : Short F.p) (hN : F.pn ≤ 100000) : Calls Tryz.prog 8 #[F.val] w (FeRet w F.v) := by
  obtain ⟨l1, l2, l3, l4⟩ := fi_lens h
  have OK := Lib.hid h
  have hfi := hf.i
  have hfm := hf.m
  have hfg := hf.g
  have hfa := hf.a
  have KP := Lib.hid (fun W (hb : Below w.heap.size w W) => renc_any (c := F.pc) hS h.pl hN h.pp W hb)
  have KI := Lib.hid (fun W (hb : Below w.heap.size w W) => rnumbersW_any (c := F.ic) h.ip h.il hfi W hb)
  have KM := Lib.hid (fun W (hb : Below w.heap.size w W) => rmembersW_any (c := F.mc) h.mp h.ml hfm h.mo hf.ma W hb)
  have KG := Lib.hid (fun W (hb : Below w.heap.size w W) => rmembersW_any (c := F.gc) h.gp h.gl hfg h.go hf.ga W hb)
  have KA := Lib.hid (fun W (hb : Below w.heap.size w W) => rattrsW_any (c := F.ac) h.ap h.al hfa W hb)
  have KN := Lib.hid (fun W => rtwo_ok F.ij (wd_no (by omega) (by omega)) W)
  have KH := Lib.hid (fun W => rnumbersW_any (n := 3) (c := 3) (L := [F.f, F.t, F.s]) (row3_at (W := W) F.f F.t F.s) rfl (by decide) _ (Below.refl _ _))
  obtain ⟨c1, hc1⟩ : ∃ b, wdL [F.f, F.t, F.s] = b := ⟨_, rfl⟩
  obtain ⟨c2, hc2⟩ : ∃ b, wdL F.i = b := ⟨_, rfl⟩
  obtain ⟨c3, hc3⟩ : ∃ b, (F.m.map Mb.v).any mlB = b := ⟨_, rfl⟩
  obtain ⟨c4, hc4⟩ : ∃ b, (F.g.map Mb.v).any mlB = b := ⟨_, rfl⟩
  obtain ⟨c5, hc5⟩ : ∃ b, waL F.a = b := ⟨_, rfl⟩
  rw [hc1] at KH
  rw [hc2] at KI
  rw [hc3] at KM
  rw [hc4] at KG
  rw [hc5] at KA
  have C1 := Lib.hid (show wdL [F.v.f, F.v.t, F.v.s] = c1 from hc1)
  have C2 := Lib.hid (show wdL F.v.i = c2 from hc2)
  have C3 := Lib.hid (show F.v.m.any mlB = c3 from hc3)
  have C4 := Lib.hid (show F.v.g.any mlB = c4 from hc4)
  have C5 := Lib.hid (show waL F.v.a = c5 from hc5)
  clear hc1 hc2 hc3 hc4 hc5
  have YM := Lib.hid (fun W (hb : Below w.heap.size w W) => rmany_any (c := F.mc) W (h.mp.up hb) h.ml hfm (fun x hx => (h.mo x hx).len) (fun x hx => by have := hf.ma x hx; omega))
  have YG := Lib.hid (fun W (hb : Below w.heap.size w W) => rmany_any (c := F.gc) W (h.gp.up hb) h.gl hfg (fun x hx => (h.go x hx).len) (fun x hx => by have := hf.ga x hx; omega))
  have hB0 := below_al (Below.refl _ w) (.cells #[.slice F.pA F.pn F.pc, .int .i64 F.f, .int .i64 F.t, .int .i64 F.s, .slice F.iA F.ij F.ic, .slice F.mA F.mj F.mc, .slice F.gA F.gj F.gc, .slice F.aA F.aj F.ac] 27)
  have HTM := Lib.hid (show tmB F.v = (decide (8 < F.ij) || ((decide (64 < F.mj) || F.v.m.any mnB) || ((decide (64 < F.gj) || F.v.g.any mnB) || decide (16 < F.aj)))) by
    unfold tmB; rw [l1, l2, l3, l4]
    generalize decide (8 < F.ij) = a; generalize decide (64 < F.mj) = b; generalize decide (64 < F.gj) = c; generalize decide (16 < F.aj) = d; generalize F.v.m.any mnB = e; generalize F.v.g.any mnB = f
    revert a b c d e f; decide)
  have HLI := Lib.hid l1
  have HFW := Lib.hid hf
  have HFE := Lib.hid (feB_num F.v)
  clear l1 l2 l3 l4 h hf
  unfold Fi.val
  by_cases hc : chE F.p = 0
  · have HC := Lib.hid hc
    have hps := encS_sz F.p hc
    rw [hc] at KP
    clear hc hS
    go_enter Tryz.func8, Tryz.ntmps8
    go_upto_region 1 with fail
    have HX := Lib.hid (World.alloc_heap_new w (.cells #[.slice F.pA F.pn F.pc, .int .i64 F.f, .int .i64 F.t, .int .i64 F.s, .slice F.iA F.ij F.ic, .slice F.mA F.mj F.mc, .slice F.gA F.gj F.gc, .slice F.aA F.aj F.ac] 27))
    have HB := Lib.hid hB0
    clear hB0
    generalize w.alloc (.cells #[.slice F.pA F.pn F.pc, .int .i64 F.f, .int .i64 F.t, .int .i64 F.s, .slice F.iA F.ij F.ic, .slice F.mA F.mj F.mc, .slice F.gA F.gj F.gc, .slice F.aA F.aj F.ac] 27) = W1 at HX HB ⊢
    obtain ⟨B, hBE⟩ : ∃ B, w.heap.size = B := ⟨_, rfl⟩
    rw [hBE] at HX ⊢
    have HBE := Lib.hid hBE
    clear hBE
    obtain ⟨⟨x0, x1, x2, x3, x4, x5, x6, x7⟩, xf, xlt⟩ := eight_cellsF HX.out
    go_upto_region 4 with (go_at_call 22; refine (KP.out _ HB.out).mono ?_; rintro e wP ⟨rfl, hb⟩; replace HX := Lib.hid ((hb.block B (lt_heap HX.out)).trans HX.out); replace HB := Lib.hid (below_on HB.out hb); clear hb; clear x0 x1 x2 x3 x4 x5 x6 x7 xf xlt; obtain ⟨⟨x0, x1, x2, x3, x4, x5, x6, x7⟩, xf, xlt⟩ := eight_cellsF HX.out)
    by_cases b1 : 8 < F.ij
    · have b1' : (8 : Int) < (F.ij : Int) := by omega
      have HE := Lib.hid (show feE F.v = 5 by unfold feE; rw [show F.v.p = F.p from rfl, if_pos HC.out, if_pos (by rw [HTM.out, decide_eq_true b1]; rfl)])
      go_wp2
      go_ret2
      exact FeRet.no HE.out (by decide) HB.out
    have b1' : ¬ (8 : Int) < (F.ij : Int) := by omega
    cases b2 : (decide (64 < F.mj) || (F.m.map Mb.v).any mnB) with
    | true =>
      have HE := Lib.hid (show feE F.v = 5 by unfold feE; rw [show F.v.p = F.p from rfl, if_pos HC.out, if_pos (by rw [HTM.out, show (decide (64 < F.mj) || F.v.m.any mnB) = true from b2]; simp)])
      rw [b2] at YM
      clear b2
      go_wp2_with (go_at_call 23; (with_reducible refine (YM.out _ HB.out).mono ?_); rintro e w2 ⟨rfl, rfl⟩)
      go_ret2
      exact FeRet.no HE.out (by decide) HB.out
    | false =>
      have HB2 := Lib.hid (show (decide (64 < F.mj) || F.v.m.any mnB) = false from b2)
      rw [b2] at YM
      clear b2
      cases b3 : (decide (64 < F.gj) || (F.g.map Mb.v).any mnB) with
      | true =>
        have HE := Lib.hid (show feE F.v = 5 by unfold feE; rw [show F.v.p = F.p from rfl, if_pos HC.out, if_pos (by rw [HTM.out, show (decide (64 < F.gj) || F.v.g.any mnB) = true from b3]; simp)])
        rw [b3] at YG
        clear b3
        go_wp2_with (first | (go_at_call 23; (with_reducible refine (YM.out _ HB.out).mono ?_); rintro e w2 ⟨rfl, rfl⟩) | (go_at_call 23; (with_reducible refine (YG.out _ HB.out).mono ?_); rintro e w2 ⟨rfl, rfl⟩))
        go_ret2
        exact FeRet.no HE.out (by decide) HB.out
      | false =>
        have HB3 := Lib.hid (show (decide (64 < F.gj) || F.v.g.any mnB) = false from b3)
        rw [b3] at YG
        clear b3
        by_cases b4 : 16 < F.aj
        · have b4' : (16 : Int) < (F.aj : Int) := by omega
          have HE := Lib.hid (show feE F.v = 5 by unfold feE; rw [show F.v.p = F.p from rfl, if_pos HC.out, if_pos (by rw [HTM.out, decide_eq_true b4]; simp)])
          go_wp2_with (first | (go_at_call 23; (with_reducible refine (YM.out _ HB.out).mono ?_); rintro e w2 ⟨rfl, rfl⟩) | (go_at_call 23; (with_reducible refine (YG.out _ HB.out).mono ?_); rintro e w2 ⟨rfl, rfl⟩))
          go_ret2
          exact FeRet.no HE.out (by decide) HB.out
        have b4' : ¬ (16 : Int) < (F.aj : Int) := by omega
        have HTF := Lib.hid (show tmB F.v = false by rw [HTM.out, HB2.out, HB3.out, decide_eq_false b1, decide_eq_false b4]; rfl)
        go_upto_region 6 with (first | (go_at_call 23; (with_reducible refine (YM.out _ HB.out).mono ?_); rintro e w2 ⟨rfl, rfl⟩) | (go_at_call 23; (with_reducible refine (YG.out _ HB.out).mono ?_); rintro e w2 ⟨rfl, rfl⟩))
        clear b1 b1' b4 b4'
        go_upto_region 12 with (first | (go_at_call 24; (with_reducible refine (KI.out _ HB.out).mono ?_); rintro e w4 ⟨⟨y4, rfl, hy4⟩, hb⟩; have HY4 := Lib.hid hy4; clear hy4; replace HX := Lib.hid ((hb.block B (lt_heap HX.out)).trans HX.out); replace HB := Lib.hid (below_on HB.out hb); clear hb; clear x0 x1 x2 x3 x4 x5 x6 x7 xf xlt; obtain ⟨⟨x0, x1, x2, x3, x4, x5, x6, x7⟩, xf, xlt⟩ := eight_cellsF HX.out) | (go_at_call 24; refine (KH.out wP).mono ?_; rintro e w2 ⟨⟨y2, rfl, hy2⟩, hb⟩; replace hb := below_on (below_al (Below.refl wP.heap.size wP) (.cells #[.int .i64 F.f, .int .i64 F.t, .int .i64 F.s] 3)) hb; have HY2 := Lib.hid hy2; clear hy2; replace HX := Lib.hid ((hb.block B (lt_heap HX.out)).trans HX.out); replace HB := Lib.hid (below_on HB.out hb); clear hb; clear x0 x1 x2 x3 x4 x5 x6 x7 xf xlt; obtain ⟨⟨x0, x1, x2, x3, x4, x5, x6, x7⟩, xf, xlt⟩ := eight_cellsF HX.out) | (go_at_call 25; refine (KN.out _).mono ?_; rintro e w3 ⟨rfl, hb⟩; replace HX := Lib.hid ((hb.block B (lt_heap HX.out)).trans HX.out); replace HB := Lib.hid (below_on HB.out hb); clear hb; clear x0 x1 x2 x3 x4 x5 x6 x7 xf xlt; obtain ⟨⟨x0, x1, x2, x3, x4, x5, x6, x7⟩, xf, xlt⟩ := eight_cellsF HX.out) | (go_at_call 26; (with_reducible refine (KM.out _ HB.out).mono ?_); rintro e w5 ⟨⟨y5, rfl, hy5⟩, hb⟩; have HY5 := Lib.hid hy5; clear hy5; replace HX := Lib.hid ((hb.block B (lt_heap HX.out)).trans HX.out); replace HB := Lib.hid (below_on HB.out hb); clear hb; clear x0 x1 x2 x3 x4 x5 x6 x7 xf xlt; obtain ⟨⟨x0, x1, x2, x3, x4, x5, x6, x7⟩, xf, xlt⟩ := eight_cellsF HX.out) | (go_at_call 26; (with_reducible refine (KG.out _ HB.out).mono ?_); rintro e w6 ⟨⟨y6, rfl, hy6⟩, hb⟩; have HY6 := Lib.hid hy6; clear hy6; replace HX := Lib.hid ((hb.block B (lt_heap HX.out)).trans HX.out); replace HB := Lib.hid (below_on HB.out hb); clear hb; clear x0 x1 x2 x3 x4 x5 x6 x7 xf xlt; obtain ⟨⟨x0, x1, x2, x3, x4, x5, x6, x7⟩, xf, xlt⟩ := eight_cellsF HX.out) | (go_at_call 27; (with_reducible refine (KA.out _ HB.out).mono ?_); rintro e w7 ⟨⟨y7, rfl, hy7⟩, hb⟩; have HY7 := Lib.hid hy7; clear hy7; replace HX := Lib.hid ((hb.block B (lt_heap HX.out)).trans HX.out); replace HB := Lib.hid (below_on HB.out hb); clear hb; clear x0 x1 x2 x3 x4 x5 x6 x7 xf xlt; obtain ⟨⟨x0, x1, x2, x3, x4, x5, x6, x7⟩, xf, xlt⟩ := eight_cellsF HX.out))
        have HEE := Lib.hid (show feE F.v = if tlB F.v = true then 8 else if 1048576 < (feB F.v).size then 8 else 0 by unfold feE; rw [show F.v.p = F.p from rfl, if_pos HC.out, if_neg (by rw [HTF.out]; decide)])
        clear KP KI KM KG KA KN KH YM YG HTM x0 x1 x2 x3 x4 x5 x6 x7 xf xlt HX
        cases c1 with
        | true =>
          have HE := Lib.hid (show feE F.v = 8 by rw [HEE.out, if_pos (by unfold tlB; rw [C1.out]; rfl)])
          clear HY2 HY4 HY5 HY6 HY7
          go_wp2
          go_ret2
          exact FeRet.no HE.out (by decide) HB.out
        | false =>
          have T1 := C1
          have E2 := Lib.hid (HY2.out rfl)
          clear HY2
          cases c2 with
          | true =>
            have HE := Lib.hid (show feE F.v = 8 by rw [HEE.out, if_pos (by unfold tlB; rw [C2.out]; simp)])
            clear HY4 HY5 HY6 HY7
            go_wp2
            go_ret2
            exact FeRet.no HE.out (by decide) HB.out
          | false =>
            have T2 := C2
            have E4 := Lib.hid (HY4.out rfl)
            clear HY4
            cases c3 with
            | true =>
              have HE := Lib.hid (show feE F.v = 8 by rw [HEE.out, if_pos (by unfold tlB; rw [C3.out]; simp)])
              clear HY5 HY6 HY7
              go_wp2
              go_ret2
              exact FeRet.no HE.out (by decide) HB.out
            | false =>
              have T3 := C3
              have E5 := Lib.hid (HY5.out rfl)
              clear HY5
              cases c4 with
              | true =>
                have HE := Lib.hid (show feE F.v = 8 by rw [HEE.out, if_pos (by unfold tlB; rw [C4.out]; simp)])
                clear HY6 HY7
                go_wp2
                go_ret2
                exact FeRet.no HE.out (by decide) HB.out
              | false =>
                have T4 := C4
                have E6 := Lib.hid (HY6.out rfl)
                clear HY6
                cases c5 with
                | true =>
                  have HE := Lib.hid (show feE F.v = 8 by rw [HEE.out, if_pos (by unfold tlB; rw [C5.out]; simp)])
                  clear HY7
                  go_wp2
                  go_ret2
                  exact FeRet.no HE.out (by decide) HB.out
                | false =>
                  have T5 := C5
                  have E7 := Lib.hid (HY7.out rfl)
                  clear HY7
                  have HE0 := Lib.hid (show feE F.v = if 1048576 < (feB F.v).size then 8 else 0 by rw [HEE.out, if_neg (by unfold tlB; rw [C1.out, C2.out, C5.out, C3.out, C4.out]; decide)])
                  have z2 : y2.size ≤ 800 := by rw [E2.out]; exact p2_size [F.f, F.t, F.s] (by show 3 ≤ 100; decide) 3
                  have z3 := putB_size F.ij 2
                  have z4 : y4.size ≤ 800 := by
                    have := p2_size F.i (by rw [OK.out.il]; exact hfi) F.i.length
                    rw [List.take_length] at this
                    rw [E4.out]; exact this
                  have hkk : ∀ L : List Mb, (∀ x ∈ L, x.ok w) → (∀ x ∈ L, x.k ≤ 100) → ∀ x ∈ L.map Mb.v, x.l.length ≤ 100 := fun L h1 h2 x hx => by
                    obtain ⟨y, hy, rfl⟩ := List.mem_map.1 hx
                    have e1 := (h1 y hy).len
                    have e2 := h2 y hy
                    show y.l.length ≤ 100
                    omega
                  have z5 : y5.size ≤ 655514008 := by rw [E5.out]; exact msB_sz (by rw [List.length_map, OK.out.ml]; exact hfm) (hkk _ OK.out.mo HFW.out.ma) T3.out
                  have z6 : y6.size ≤ 655514008 := by rw [E6.out]; exact msB_sz (by rw [List.length_map, OK.out.gl]; exact hfg) (hkk _ OK.out.go HFW.out.ga) T4.out
                  have z7 : y7.size ≤ 6555108 := by rw [E7.out]; exact asB_sz (by rw [OK.out.al]; exact hfa) T5.out
                  have HT := Lib.hid (show feB F.v = ⟨#[65, 82, 77, 65, 0, 1]⟩ ++ encS F.p ++ y2 ++ putB F.ij 2 ++ y4 ++ y5 ++ y6 ++ y7 by rw [HFE.out, HLI.out, show F.v.p = F.p from rfl, E2.out, E4.out, E5.out, E6.out, E7.out]; rfl)
                  have hsz : (feB F.v).size = 6 + (encS F.p).size + y2.size + (putB F.ij 2).size + y4.size + y5.size + y6.size + y7.size := by rw [HT.out]; simp only [ByteArray.size_append]; rfl
                  clear hkk E2 E4 E5 E6 E7 HFE
                  generalize encS F.p = eP at HT hsz hps ⊢
                  generalize putB F.ij 2 = n3 at HT hsz z3 ⊢
                  obtain ⟨R, hR⟩ : ∃ R, feB F.v = R := ⟨_, rfl⟩
                  rw [hR] at HT hsz HE0
                  have HRR := Lib.hid hR
                  clear hR
                  by_cases hbig : 1048576 < R.size
                  · have HE := Lib.hid (show feE F.v = 8 by rw [HE0.out, if_pos hbig])
                    have hbig' : (1048576 : Int) < (((((((6 : Int) + (eP.size : Int)) + (y2.size : Int)) + (n3.size : Int)) + (y4.size : Int)) + (y5.size : Int)) + (y6.size : Int)) + (y7.size : Int) := by omega
                    clear hbig hsz
                    go_wp2
                    go_ret2
                    exact FeRet.no HE.out (by decide) HB.out
                  · have HE := Lib.hid (show feE F.v = 0 by rw [HE0.out, if_neg hbig])
                    have hbig' : ¬ (1048576 : Int) < (((((((6 : Int) + (eP.size : Int)) + (y2.size : Int)) + (n3.size : Int)) + (y4.size : Int)) + (y5.size : Int)) + (y6.size : Int)) + (y7.size : Int) := by omega
                    clear hbig hsz
                    go_wp2
                    go_ret2
                    exact ⟨by unfold feS; rw [if_pos HE.out, HE.out, HRR.out, HT.out]; rfl, HB.out⟩
  · have HE := Lib.hid (show feE F.v = chE F.p by unfold feE; rw [show F.v.p = F.p from rfl, if_neg hc])
    have hne : (chE F.p != 0) = true := by simpa using hc
    have HC := Lib.hid hc
    generalize chE F.p = E at HE hne HC KP
    clear hc
    go_enter Tryz.func8, Tryz.ntmps8
    go_upto_region 1 with fail
    have HX := Lib.hid (World.alloc_heap_new w (.cells #[.slice F.pA F.pn F.pc, .int .i64 F.f, .int .i64 F.t, .int .i64 F.s, .slice F.iA F.ij F.ic, .slice F.mA F.mj F.mc, .slice F.gA F.gj F.gc, .slice F.aA F.aj F.ac] 27))
    have HB := Lib.hid hB0
    clear hB0
    generalize w.alloc (.cells #[.slice F.pA F.pn F.pc, .int .i64 F.f, .int .i64 F.t, .int .i64 F.s, .slice F.iA F.ij F.ic, .slice F.mA F.mj F.mc, .slice F.gA F.gj F.gc, .slice F.aA F.aj F.ac] 27) = W1 at HX HB ⊢
    obtain ⟨B, hBE⟩ : ∃ B, w.heap.size = B := ⟨_, rfl⟩
    rw [hBE] at HX ⊢
    have HBE := Lib.hid hBE
    clear hBE
    obtain ⟨⟨x0, x1, x2, x3, x4, x5, x6, x7⟩, xf, xlt⟩ := eight_cellsF HX.out
    go_wp2_with (go_at_call 22; refine (KP.out _ HB.out).mono ?_; rintro e wP ⟨rfl, hb⟩; replace HB := Lib.hid (below_on HB.out hb); clear hb)
    go_ret2
    exact FeRet.no HE.out HC.out HB.out

end Go.Proofs.YthfegbhbokhlkaaGreatDoor

/- Qj -/
/- Layer 11: the law FileEncode; what the bound of the second form says of a file's pool. (gen/qk.py) -/
namespace Go.Proofs.YthfegbhbokhlkaaGreatDoor
open Go.ChangeShapes Go.WideShapes Go.ChangeAt Go.RowKit Go.PlainAid Go.Deep
set_option linter.unusedSimpArgs false
set_option linter.unusedVariables false

theorem feS_sz (v : Fv) : (feS v).size ≤ 1048576 := by
  unfold feS
  by_cases h : feE v = 0
  · rw [if_pos h]
    unfold feE at h
    by_cases c1 : chE v.p = 0
    · rw [if_pos c1] at h
      by_cases c2 : tmB v = true
      · rw [if_pos c2] at h; cases h
      · rw [if_neg c2] at h
        by_cases c3 : tlB v = true
        · rw [if_pos c3] at h; cases h
        · rw [if_neg c3] at h
          by_cases c4 : 1048576 < (feB v).size
          · rw [if_pos c4] at h; cases h
          · omega
    · rw [if_neg c1] at h; exact absurd h c1
  · rw [if_neg h]; exact Nat.zero_le _

set_option maxRecDepth 100000 in
set_option maxHeartbeats 4000000 in
theorem enc_law (F : Fi) (w : World) (h : F.ok w) (hS : Short F.p) (hm : ∀ x ∈ F.m, x.k ≤ 5864062014805) (hg : ∀ x ∈ F.g, x.k ≤ 5864062014805) : Calls Tryz.prog 3 #[F.val] w fun e w' => e = .returned (.bool true) ∧ Below w.heap.size w w' := by
  obtain ⟨Q, hQ⟩ : ∃ Q : Ending → World → Prop, (fun e w' => e = Ending.returned (.bool true) ∧ Below w.heap.size w w') = Q := ⟨_, rfl⟩
  have HQ := Lib.hid (fun (w' : World) (hb : Below w.heap.size w w') => (by rw [← hQ]; exact ⟨rfl, hb⟩ : Q (.returned (.bool true)) w'))
  rw [hQ]
  clear hQ
  have HS := Lib.hid hS
  have hlt0 := lt_heap (World.alloc_heap_new w (.cells #[.slice F.pA F.pn F.pc, .int .i64 F.f, .int .i64 F.t, .int .i64 F.s, .slice F.iA F.ij F.ic, .slice F.mA F.mj F.mc, .slice F.gA F.gj F.gc, .slice F.aA F.aj F.ac] 27))
  have HX := Lib.hid (World.alloc_heap_new w (.cells #[.slice F.pA F.pn F.pc, .int .i64 F.f, .int .i64 F.t, .int .i64 F.s, .slice F.iA F.ij F.ic, .slice F.mA F.mj F.mc, .slice F.gA F.gj F.gc, .slice F.aA F.aj F.ac] 27))
  have HB := Lib.hid (below_al (Below.refl _ w) (.cells #[.slice F.pA F.pn F.pc, .int .i64 F.f, .int .i64 F.t, .int .i64 F.s, .slice F.iA F.ij F.ic, .slice F.mA F.mj F.mc, .slice F.gA F.gj F.gc, .slice F.aA F.aj F.ac] 27))
  have HOK := Lib.hid (h.up (below_al (Below.refl _ w) (.cells #[.slice F.pA F.pn F.pc, .int .i64 F.f, .int .i64 F.t, .int .i64 F.s, .slice F.iA F.ij F.ic, .slice F.mA F.mj F.mc, .slice F.gA F.gj F.gc, .slice F.aA F.aj F.ac] 27)))
  have hFt : Fits F.p := fun c hc => by have := hS c hc; omega
  have HFt := Lib.hid hFt
  clear h hS hFt
  unfold Fi.val
  go_enter Tryz.func3, Tryz.ntmps3
  go_upto_region 1 with fail
  generalize w.alloc (.cells #[.slice F.pA F.pn F.pc, .int .i64 F.f, .int .i64 F.t, .int .i64 F.s, .slice F.iA F.ij F.ic, .slice F.mA F.mj F.mc, .slice F.gA F.gj F.gc, .slice F.aA F.aj F.ac] 27) = W1 at hlt0 HX HB HOK ⊢
  obtain ⟨⟨x0, x1, x2, x3, x4, x5, x6, x7⟩, xf, xlt⟩ := eight_cellsF HX.out
  go_upto_region 2 with (go_at_call 5; refine (small_any F _ HOK.out hm hg).mono ?_; rintro e w1 ⟨b, rfl, hbf, hb⟩; have HBF := Lib.hid hbf; clear hbf; replace HX := Lib.hid ((hb.block w.heap.size hlt0).trans HX.out); replace HOK := Lib.hid (HOK.out.up hb); replace HB := Lib.hid (below_on HB.out hb); clear hb; clear x0 x1 x2 x3 x4 x5 x6 x7 xf xlt; obtain ⟨⟨x0, x1, x2, x3, x4, x5, x6, x7⟩, xf, xlt⟩ := eight_cellsF HX.out; replace hlt0 := lt_heap HX.out)
  · go_wp2_with (go_at_call 6; refine (works_any _).mono ?_; rintro e w2 ⟨rfl, hb⟩; replace HB := Lib.hid (below_on HB.out hb); clear hb)
    exact HQ.out _ HB.out
  · have hbt : b = true := by
      have h9 : (!b) = false := by assumption
      simpa using h9
    obtain ⟨hf, hp60⟩ := HBF.out hbt
    have HF := Lib.hid hf
    have hp5 : F.pn ≤ 100000 := by omega
    have KE := Lib.hid (fun W (hk : F.ok W) => fenc_any F W hk hf HFt.out hp5)
    have KR := Lib.hid (fun W (hk : F.ok W) => rfenc_any F W hk hf HS.out hp5)
    have KZ := Lib.hid (fun W (hk : F.ok W) => esz_any F W hk hf HFt.out hp5 (Nat.le_trans (feS_sz F.v) (by decide)))
    unfold FeRet at KE KR
    have hsz := feS_sz F.v
    generalize feS F.v = S at KE KR KZ hsz
    generalize feE F.v = E at KE KR
    clear HBF hf hp60
    go_wp2_with (first | (go_at_call 7; refine (KE.out _ HOK.out).mono ?_; rintro e w3 ⟨rfl, hb⟩; replace HX := Lib.hid ((hb.block w.heap.size hlt0).trans HX.out); replace HOK := Lib.hid (HOK.out.up hb); replace HB := Lib.hid (below_on HB.out hb); clear hb; clear x0 x1 x2 x3 x4 x5 x6 x7 xf xlt; obtain ⟨⟨x0, x1, x2, x3, x4, x5, x6, x7⟩, xf, xlt⟩ := eight_cellsF HX.out; replace hlt0 := lt_heap HX.out) | (go_at_call 8; refine (KR.out _ HOK.out).mono ?_; rintro e w4 ⟨rfl, hb⟩; replace HX := Lib.hid ((hb.block w.heap.size hlt0).trans HX.out); replace HOK := Lib.hid (HOK.out.up hb); replace HB := Lib.hid (below_on HB.out hb); clear hb; clear x0 x1 x2 x3 x4 x5 x6 x7 xf xlt; obtain ⟨⟨x0, x1, x2, x3, x4, x5, x6, x7⟩, xf, xlt⟩ := eight_cellsF HX.out; replace hlt0 := lt_heap HX.out) | (go_at_call 9; refine (KZ.out _ HOK.out).mono ?_; rintro e w5 ⟨rfl, hb⟩; replace HX := Lib.hid ((hb.block w.heap.size hlt0).trans HX.out); replace HOK := Lib.hid (HOK.out.up hb); replace HB := Lib.hid (below_on HB.out hb); clear hb; clear x0 x1 x2 x3 x4 x5 x6 x7 xf xlt; obtain ⟨⟨x0, x1, x2, x3, x4, x5, x6, x7⟩, xf, xlt⟩ := eight_cellsF HX.out; replace hlt0 := lt_heap HX.out) | (go_at_call 6; refine (works_any _).mono ?_; rintro e w6 ⟨rfl, hb⟩; replace HB := Lib.hid (below_on HB.out hb); clear hb))
    exact HQ.out _ HB.out

theorem bulk_mem {H : Type} {d : DataW H} {l : List (DataW H)} (h : d ∈ l) : Rows.uptoBulk d ≤ Rows.uptoBulkAll l := bulk_part h
/-- two rows at one place are one -/
theorem pool_eq {w : World} {B : Nat} {A : Option Addr} {L M : List Cn} (h : Pool w B A L) (k : Pool w B A M) (hl : L.length = M.length) : L = M := by
  rcases h with h | ⟨g, o, hA, hg, hc⟩
  · have : M = [] := List.eq_nil_of_length_eq_zero (by rw [← hl, h]; rfl)
    rw [h, this]
  · rcases k with k | ⟨g2, o2, hA2, hg2, hc2⟩
    · have : L = [] := List.eq_nil_of_length_eq_zero (by rw [hl, k]; rfl)
      rw [k, this]
    · cases hA.symm.trans hA2
      refine List.ext_getElem hl fun i h1 h2 => ?_
      obtain ⟨a0, a1, a2, a3, a4⟩ := hc i _ (List.getElem?_eq_getElem h1)
      obtain ⟨b0, b1, b2, b3, b4⟩ := hc2 i _ (List.getElem?_eq_getElem h2)
      have e0 := Option.some.inj (a0.symm.trans b0)
      have e1 := Option.some.inj (a1.symm.trans b1)
      have e2 := Option.some.inj (a2.symm.trans b2)
      have e3 := Option.some.inj (a3.symm.trans b3)
      have e4 := Option.some.inj (a4.symm.trans b4)
      generalize L[i] = x at e0 e1 e2 e3 e4 ⊢
      generalize M[i] = y at e0 e1 e2 e3 e4 ⊢
      obtain ⟨t, s, n, a, b⟩ := x
      obtain ⟨t2, s2, n2, a2, b2⟩ := y
      injection e0 with _ e0
      injection e1 with e1
      injection e2 with _ e2
      injection e3 with _ e3
      injection e4 with _ e4
      simp only at e0 e1 e2 e3 e4
      subst e0 e1 e2 e3 e4
      rfl
section
variable {H : Type} {enc : TypeId × Value → H} {w : World} {base : Nat} {spare : Nat → Bool} {held : Bool}
set_option maxRecDepth 100000 in
set_option maxHeartbeats 1000000 in
theorem open_file_bulk {r : Reach} {b0 : Nat} {v : Value} {d : DataW H} {q : List MemPlace} (hv : Value.okWide Tryz.prog w r b0 27 v) (h : DataW.Trod enc Tryz.prog w base spare held 27 v d q) :
    ∃ F : Fi, v = F.val ∧ FiP w (DataW.weights Tryz.prog 27 d) F ∧ ∀ c ∈ F.p, c.s.size ≤ Rows.uptoBulk d := by
  obtain ⟨F, rfl, hP⟩ := open_file_of hv h
  refine ⟨F, rfl, hP, ?_⟩
  obtain ⟨fuel, hf⟩ := h
  obtain ⟨xs, n, _, ex, hl, hxl, hg⟩ := DataW.trod_struct Tryz.underlying27 hf
  have h0 := hg 0 _ rfl
  obtain ⟨y0, y1, y2, y3, y4, y5, y6, y7, rfl⟩ := list8G xs hxl
  change DataW.trod enc Tryz.prog w base spare held n 22 (List.take (Tryz.prog.cellsOf 22) [.slice F.pA F.pn F.pc, .int .i64 F.f, .int .i64 F.t, .int .i64 F.s, .slice F.iA F.ij F.ic, .slice F.mA F.mj F.mc, .slice F.gA F.gj F.gc, .slice F.aA F.aj F.ac]) = some y0 at h0
  rw [cellsPs] at h0
  obtain ⟨A0, n0, c0, L0, e0, l0, _, p0, k0⟩ := open_pool_b h0
  simp only [List.take_succ_cons, List.take_zero, List.cons.injEq, Value.slice.injEq, and_true] at e0
  obtain ⟨e1, e2, e3⟩ := e0
  subst e1 e2 e3
  have hL : F.p = L0 := pool_eq hP.ok.pp p0 (hP.ok.pl.trans l0.symm)
  intro c hc
  rw [hL] at hc
  refine Nat.le_trans (k0 c hc) ?_
  have ed : d = .agg [y0.1, y1.1, y2.1, y3.1, y4.1, y5.1, y6.1, y7.1] := congrArg Prod.fst ex
  rw [ed]
  exact Nat.le_trans (bulk_part (l := [y0.1, y1.1, y2.1, y3.1, y4.1, y5.1, y6.1, y7.1]) (by simp)) (by simp [Rows.uptoBulk])
end

end Go.Proofs.YthfegbhbokhlkaaGreatDoor
