import Derived.Test.YtdppooflbjlbcaaDoorWsM
import Derived.Test.YtdppooflbjlbcaaDoorWiM

/- Wua -/
/- Layer 22: StackmapAttach. (Written by gen/wu.py.) -/
namespace Go.Proofs.YtdppooflbjlbcaaDoor.I
open Go.ChangeShapes Go.WideShapes Go.ChangeAt Go.RowKit Go.PlainAid
set_option linter.unusedSimpArgs false
set_option linter.unusedVariables false

def LawYes (w : World) (e : Ending) (w' : World) : Prop := e = .returned (.bool true) ∧ Below w.heap.size w w'
structure CM.raw (w : World) (u : CM) : Prop where
  ok : u.ok w
  nil : ∀ m ∈ u.mm, m.c.mA = none → m.c.mn = 0 ∧ m.c.mc = 0
theorem ckR_in {c : Cd} {m : SM} (h : ckR c m = false) : 0 ≤ m.x ∧ m.x < (c.n : Int) := by
  unfold ckR at h
  rw [Bool.or_eq_false_iff] at h
  have h1 := h.1
  unfold exB at h1
  simpa using h1
/-- maps that Check accepts are no more than there are instructions -/
theorem ck_len {c : Cd} {ms : List SM} (h : ckQ c ms = 0) : ms.length ≤ c.n := by
  have hall : (List.range ms.length).any (ckP c ms) = false := by
    cases e : (List.range ms.length).any (ckP c ms) with
    | false => rfl
    | true => unfold ckQ at h; rw [if_pos e] at h; cases h
  have hp : ∀ j, j < ms.length → ckP c ms j = false := by
    intro j hj
    rw [List.any_eq_false] at hall
    have := hall j (List.mem_range.2 hj)
    simpa using this
  have key : ∀ j (hj : j < ms.length), (j : Int) ≤ (ms[j]).x ∧ (ms[j]).x < (c.n : Int) := by
    intro j
    induction j with
    | zero =>
      intro hj
      have h2 := hp 0 hj
      rw [ckP_0 (List.getElem?_eq_getElem hj)] at h2
      exact ckR_in h2
    | succ q ih =>
      intro hj
      have h2 := hp (q + 1) hj
      rw [ckP_s (List.getElem?_eq_getElem hj) (List.getElem?_eq_getElem (by omega)), Bool.or_eq_false_iff, decide_eq_false_iff_not] at h2
      have h3 := ih (by omega)
      have h4 := ckR_in h2.2
      refine ⟨?_, h4.2⟩
      have := h2.1
      omega
  rcases Nat.eq_zero_or_pos ms.length with h0 | h0
  · omega
  · have := key (ms.length - 1) (by omega)
    omega
set_option maxRecDepth 100000 in
set_option maxHeartbeats 16000000 in
theorem att_early (u : CM) (x : Int) {A : Option Addr} {n cap : Nat} (w : World) (h : 64 < u.mn ∨ (¬ 64 < u.mn ∧ x < 0) ∨ (¬ 64 < u.mn ∧ ¬ x < 0 ∧ (u.mn : Int) ≤ x) ∨ (¬ 64 < u.mn ∧ ¬ x < 0 ∧ ¬ (u.mn : Int) ≤ x ∧ 300 < n)) :
    Calls Tryd.prog 10 #[.agg #[.int .i64 u.fl, .string u.nm, .string u.su, .slice u.iA u.inn u.ic, .slice u.fA u.fn u.fc, .slice u.mA u.mn u.mc, .string u.so], .int .i64 x, .slice A n cap] w (LawYes w) := by
  obtain ⟨fl, nm, su, iA, inn, ic, is, fA, fn, fc, fs, mA, mn, mc, mm, so⟩ := u
  simp only at h ⊢
  go_enter Tryd.func10, Tryd.ntmps10
  go_upto_region 1 with fail
  have H0 := World.alloc_heap_new w (.cells #[.int .i64 fl, .string nm, .string su, .slice iA inn ic, .slice fA fn fc, .slice mA mn mc, .string so] 69)
  have hB := below_al (Below.refl _ w) (.cells #[.int .i64 fl, .string nm, .string su, .slice iA inn ic, .slice fA fn fc, .slice mA mn mc, .string so] 69)
  generalize w.alloc (.cells #[.int .i64 fl, .string nm, .string su, .slice iA inn ic, .slice fA fn fc, .slice mA mn mc, .string so] 69) = W at H0 hB ⊢
  have HU := Lib.hid H0
  have HB := Lib.hid hB
  obtain ⟨u0, u1, u2, u3, u4, u5, u6⟩ := seven_cellsR H0
  have yu := lt_heap H0
  clear H0
  clear hB
  rcases h with h | ⟨h1, h⟩ | ⟨h1, h2, h⟩ | ⟨h1, h2, h3, h⟩
  · have e0 : (64 : Int) < (mn : Int) := by omega
    go_wp2_with (go_at_call 23; (with_reducible refine (awake22_any _).mono ?_); rintro e wz ⟨rfl, hbz⟩)
    go_ret
    exact ⟨rfl, below_on HB.out hbz⟩
  · have e0 : ¬ (64 : Int) < (mn : Int) := by omega
    go_wp2_with (go_at_call 23; (with_reducible refine (awake22_any _).mono ?_); rintro e wz ⟨rfl, hbz⟩)
    go_ret
    exact ⟨rfl, below_on HB.out hbz⟩
  · have e0 : ¬ (64 : Int) < (mn : Int) := by omega
    go_wp2_with (go_at_call 23; (with_reducible refine (awake22_any _).mono ?_); rintro e wz ⟨rfl, hbz⟩)
    go_ret
    exact ⟨rfl, below_on HB.out hbz⟩
  · have e0 : ¬ (64 : Int) < (mn : Int) := by omega
    have e3 : (300 : Int) < (n : Int) := by omega
    go_wp2_with (go_at_call 23; (with_reducible refine (awake22_any _).mono ?_); rintro e wz ⟨rfl, hbz⟩)
    go_ret
    exact ⟨rfl, below_on HB.out hbz⟩
set_option maxRecDepth 100000 in
set_option maxHeartbeats 16000000 in
theorem att_few (u : CM) (i : Nat) (m : Me) {A0 : Option Addr} {n cap : Nat} {ms : List SM} (w : World) (hu : u.raw w) (hs64 : ¬ 64 < u.mn) (hm : u.mm[i]? = some m) (hn : ms.length = n) (hN : n ≤ 300) (hz : A0 = none → n = 0 ∧ cap = 0) (hs : SMs w A0 ms) (hf : ¬ fw22 m.c) : Calls Tryd.prog 10 #[.agg #[.int .i64 u.fl, .string u.nm, .string u.su, .slice u.iA u.inn u.ic, .slice u.fA u.fn u.fc, .slice u.mA u.mn u.mc, .string u.so], .int .i64 i, .slice A0 n cap] w (LawYes w) := by
  obtain ⟨⟨il, iw, ib, fl', fw, fb, ml, mw, mb⟩, hnil⟩ := hu
  obtain ⟨fl, nm, su, iA, inn, ic, is, fA, fn, fc, fs, mA, mn, mc, mm, so⟩ := u
  simp only at il iw ib fl' fw fb ml mw mb hnil hs64 hm ⊢
  have hi := get_ltF hm
  have hk0 : ¬ (i : Int) < 0 := by omega
  have hk1 : (i : Int) < (mn : Int) := by omega
  have hk2 : ¬ (mn : Int) ≤ (i : Int) := by omega
  have e0 : ¬ (64 : Int) < (mn : Int) := by omega
  have e3 : ¬ (300 : Int) < (n : Int) := by omega
  rcases mw with h0 | ⟨g0, o0, rfl, hg0, hcell⟩
  · rw [h0] at hm; simp at hm
  have HCL := Lib.hid hcell
  have HLM := Lib.hid hm
  have HLL := Lib.hid ml
  have HMX := Lib.hid hnil
  have HIW := Lib.hid iw
  have HIL := Lib.hid il
  have HFW := Lib.hid fw
  have HFL := Lib.hid fl'
  obtain ⟨mok, _, _, _, n3, n4, n5, n6, n7, n8, n9, _⟩ := hcell i m hm
  have MK := Lib.hid mok
  have HL := Lib.hid hs
  have HN := Lib.hid hn
  have HZR := Lib.hid hz
  clear hcell hm ml hnil iw il fw fl' hs hn hz mok hi
  go_enter Tryd.func10, Tryd.ntmps10
  go_upto_region 1 with fail
  have H0 := World.alloc_heap_new w (.cells #[.int .i64 fl, .string nm, .string su, .slice iA inn ic, .slice fA fn fc, .slice (some ⟨g0, o0, none⟩) mn mc, .string so] 69)
  have hB := below_al (Below.refl _ w) (.cells #[.int .i64 fl, .string nm, .string su, .slice iA inn ic, .slice fA fn fc, .slice (some ⟨g0, o0, none⟩) mn mc, .string so] 69)
  generalize w.alloc (.cells #[.int .i64 fl, .string nm, .string su, .slice iA inn ic, .slice fA fn fc, .slice (some ⟨g0, o0, none⟩) mn mc, .string so] 69) = W at H0 hB ⊢
  have HU := Lib.hid H0
  have HB := Lib.hid hB
  obtain ⟨u0, u1, u2, u3, u4, u5, u6⟩ := seven_cellsR H0
  have yu := lt_heap H0
  clear H0
  have m4 := (hB.cell (p := ⟨g0, o0 + i * 11 + 4, none⟩) hg0).trans n4
  have m5 := (hB.cell (p := ⟨g0, o0 + i * 11 + 5, none⟩) hg0).trans n5
  have m6 := (hB.cell (p := ⟨g0, o0 + i * 11 + 6, none⟩) hg0).trans n6
  have m7 := (hB.cell (p := ⟨g0, o0 + i * 11 + 7, none⟩) hg0).trans n7
  have m8 := (hB.cell (p := ⟨g0, o0 + i * 11 + 8, none⟩) hg0).trans n8
  have m9 := (hB.cell (p := ⟨g0, o0 + i * 11 + 9, none⟩) hg0).trans n9
  have KF := Lib.hid (few22_any m.c W (MK.out.mem.raw.up hB) false (Or.inr ⟨rfl, hf⟩))
  clear hB n3 n4 n5 n6 n7 n8 n9
  go_wp2_with (first | (go_at_call 22; (with_reducible refine KF.out.mono ?_); rintro e w1 ⟨rfl, hb1⟩) | (go_at_call 23; (with_reducible refine (awake22_any _).mono ?_); rintro e wz ⟨rfl, hbz⟩))
  go_ret
  exact ⟨rfl, below_on (below_on HB.out hb1) hbz⟩
end Go.Proofs.YtdppooflbjlbcaaDoor.I

/- Wub -/
/- Layer 22: StackmapAttach. (Written by gen/wu.py.) -/
namespace Go.Proofs.YtdppooflbjlbcaaDoor.I
open Go.ChangeShapes Go.WideShapes Go.ChangeAt Go.RowKit Go.PlainAid
set_option linter.unusedSimpArgs false
set_option linter.unusedVariables false
theorem zero_ok (w : World) : CM.ok w ⟨0, ⟨#[]⟩, ⟨#[]⟩, none, 0, 0, [], none, 0, 0, [], none, 0, 0, [], ⟨#[]⟩⟩ :=
  ⟨rfl, Or.inl rfl, by decide, rfl, Or.inl rfl, by decide, rfl, Or.inl rfl, by decide⟩
theorem eq_zero (w : World) : Calls Tryd.prog 37 #[.agg #[.int .i64 0, .string ⟨#[]⟩, .string ⟨#[]⟩, .slice none 0 0, .slice none 0 0, .slice none 0 0, .string ⟨#[]⟩], .agg #[.int .i64 0, .string ⟨#[]⟩, .string ⟨#[]⟩, .slice none 0 0, .slice none 0 0, .slice none 0 0, .string ⟨#[]⟩]] w fun e w' => e = .returned (.bool true) ∧ Below w.heap.size w w' :=
  eq_yes ⟨0, ⟨#[]⟩, ⟨#[]⟩, none, 0, 0, [], none, 0, 0, [], none, 0, 0, [], ⟨#[]⟩⟩ none 0 [] w (zero_ok w) (Or.inl rfl) rfl (fun k m m' h _ => by simp at h)
set_option maxRecDepth 100000 in
set_option maxHeartbeats 16000000 in
theorem att_bad (u : CM) (i : Nat) (m : Me) {A0 : Option Addr} {n cap : Nat} {ms : List SM} (w : World) (hu : u.raw w) (hs64 : ¬ 64 < u.mn) (hm : u.mm[i]? = some m) (hn : ms.length = n) (hN : n ≤ 300) (hz : A0 = none → n = 0 ∧ cap = 0) (hs : SMs w A0 ms) (hf : fw22 m.c) (kk : Int) (hkk : (kk = 1 ∧ m.hc = false) ∨ (kk = 25 ∧ m.hc = true ∧ ckQ m.c ms = 25)) : Calls Tryd.prog 10 #[.agg #[.int .i64 u.fl, .string u.nm, .string u.su, .slice u.iA u.inn u.ic, .slice u.fA u.fn u.fc, .slice u.mA u.mn u.mc, .string u.so], .int .i64 i, .slice A0 n cap] w (LawYes w) := by
  obtain ⟨⟨il, iw, ib, fl', fw, fb, ml, mw, mb⟩, hnil⟩ := hu
  obtain ⟨fl, nm, su, iA, inn, ic, is, fA, fn, fc, fs, mA, mn, mc, mm, so⟩ := u
  simp only at il iw ib fl' fw fb ml mw mb hnil hs64 hm ⊢
  have hi := get_ltF hm
  have hk0 : ¬ (i : Int) < 0 := by omega
  have hk1 : (i : Int) < (mn : Int) := by omega
  have hk2 : ¬ (mn : Int) ≤ (i : Int) := by omega
  have e0 : ¬ (64 : Int) < (mn : Int) := by omega
  have e3 : ¬ (300 : Int) < (n : Int) := by omega
  rcases mw with h0 | ⟨g0, o0, rfl, hg0, hcell⟩
  · rw [h0] at hm; simp at hm
  have HCL := Lib.hid hcell
  have HLM := Lib.hid hm
  have HLL := Lib.hid ml
  have HMX := Lib.hid hnil
  have HIW := Lib.hid iw
  have HIL := Lib.hid il
  have HFW := Lib.hid fw
  have HFL := Lib.hid fl'
  obtain ⟨mok, _, _, _, n3, n4, n5, n6, n7, n8, n9, _⟩ := hcell i m hm
  have MK := Lib.hid mok
  have HL := Lib.hid hs
  have HN := Lib.hid hn
  have HZR := Lib.hid hz
  clear hcell hm ml hnil iw il fw fl' hs hn hz mok hi
  go_enter Tryd.func10, Tryd.ntmps10
  go_upto_region 1 with fail
  have H0 := World.alloc_heap_new w (.cells #[.int .i64 fl, .string nm, .string su, .slice iA inn ic, .slice fA fn fc, .slice (some ⟨g0, o0, none⟩) mn mc, .string so] 69)
  have hB := below_al (Below.refl _ w) (.cells #[.int .i64 fl, .string nm, .string su, .slice iA inn ic, .slice fA fn fc, .slice (some ⟨g0, o0, none⟩) mn mc, .string so] 69)
  generalize w.alloc (.cells #[.int .i64 fl, .string nm, .string su, .slice iA inn ic, .slice fA fn fc, .slice (some ⟨g0, o0, none⟩) mn mc, .string so] 69) = W at H0 hB ⊢
  have HU := Lib.hid H0
  have HB := Lib.hid hB
  obtain ⟨u0, u1, u2, u3, u4, u5, u6⟩ := seven_cellsR H0
  have yu := lt_heap H0
  clear H0
  have m4 := (hB.cell (p := ⟨g0, o0 + i * 11 + 4, none⟩) hg0).trans n4
  have m5 := (hB.cell (p := ⟨g0, o0 + i * 11 + 5, none⟩) hg0).trans n5
  have m6 := (hB.cell (p := ⟨g0, o0 + i * 11 + 6, none⟩) hg0).trans n6
  have m7 := (hB.cell (p := ⟨g0, o0 + i * 11 + 7, none⟩) hg0).trans n7
  have m8 := (hB.cell (p := ⟨g0, o0 + i * 11 + 8, none⟩) hg0).trans n8
  have m9 := (hB.cell (p := ⟨g0, o0 + i * 11 + 9, none⟩) hg0).trans n9
  have KF := Lib.hid (few22_any m.c W (MK.out.mem.raw.up hB) true (Or.inl ⟨rfl, hf⟩))
  clear hB n3 n4 n5 n6 n7 n8 n9
  go_upto_region 3 with (go_at_call 22; (with_reducible refine KF.out.mono ?_); rintro e w1 ⟨rfl, hb1⟩)
  have HB1 := Lib.hid (below_on HB.out hb1)
  have HU1 := Lib.hid ((hb1.block _ yu).trans HU.out)
  have m8a := (HB1.out.cell (p := ⟨g0, o0 + i * 11 + 8, none⟩) hg0).trans (HCL.out i m HLM.out).2.2.2.2.2.2.2.2.2.1
  clear u0 u1 u2 u3 u4 u5 u6 yu m4 m5 m6 m7 m8 m9 hb1 HU HB KF
  obtain ⟨u0, u1, u2, u3, u4, u5, u6⟩ := seven_cellsR HU1.out
  have yu := lt_heap HU1.out
  have KA := Lib.hid (show ∀ W' : World, Below w.heap.size w W' → Calls Tryd.prog 33 #[.agg #[.int .i64 fl, .string nm, .string su, .slice iA inn ic, .slice fA fn fc, .slice (some ⟨g0, o0, none⟩) mn mc, .string so], .int .i64 i, .slice A0 n cap] W' (AtNo kk W') from fun W' hW => by
    rcases hkk with ⟨rfl, h1⟩ | ⟨rfl, h1, h2⟩
    · exact at_nocode (⟨fl, nm, su, iA, inn, ic, is, fA, fn, fc, fs, some ⟨g0, o0, none⟩, mn, mc, mm, so⟩ : CM) i m (.slice A0 n cap) W' HLL.out (Or.inr ⟨g0, o0, rfl, Nat.lt_of_lt_of_le hg0 hW.size, fun k x hx => ⟨(HCL.out k x hx).1.up hW, (HCL.out k x hx).2.up hg0 hW⟩⟩) HLM.out h1
    · exact at_wrong (⟨fl, nm, su, iA, inn, ic, is, fA, fn, fc, fs, some ⟨g0, o0, none⟩, mn, mc, mm, so⟩ : CM) i m W' HLL.out (show mn ≤ 764877654105 by omega) (Or.inr ⟨g0, o0, rfl, Nat.lt_of_lt_of_le hg0 hW.size, fun k x hx => ⟨(HCL.out k x hx).1.up hW, (HCL.out k x hx).2.up hg0 hW⟩⟩) HLM.out h1 HN.out (by omega) HZR.out (HL.out.up hW) h2)
  have h2k : kk = 1 ∨ kk = 25 := by
    rcases hkk with ⟨h1, _⟩ | ⟨h1, _⟩
    · exact Or.inl h1
    · exact Or.inr h1
  clear hkk
  go_upto_region 5 with (go_at_call 33; (with_reducible refine (KA.out _ HB1.out).mono ?_); rintro e w2 ⟨rfl, hb2⟩)
  have HB2 := Lib.hid (below_on HB1.out hb2)
  have h0v := World.alloc_heap_new w2 (.cells #[.int .i64 0, .string ⟨#[]⟩, .string ⟨#[]⟩, .slice none 0 0, .slice none 0 0, .slice none 0 0, .string ⟨#[]⟩] 69)
  have hbv := below_al (Below.refl _ w2) (.cells #[.int .i64 0, .string ⟨#[]⟩, .string ⟨#[]⟩, .slice none 0 0, .slice none 0 0, .slice none 0 0, .string ⟨#[]⟩] 69)
  have HB3 := Lib.hid (below_on HB2.out hbv)
  generalize hqqbv : w2.heap.size = bv at h0v ⊢
  generalize hw3 : w2.alloc (.cells #[.int .i64 0, .string ⟨#[]⟩, .string ⟨#[]⟩, .slice none 0 0, .slice none 0 0, .slice none 0 0, .string ⟨#[]⟩] 69) = W3 at h0v hbv HB3 ⊢
  have HV := Lib.hid h0v
  clear h0v hqqbv hw3
  clear u0 u1 u2 u3 u4 u5 u6 yu m8a hb2 hbv KA HU1 HB1 HB2
  obtain ⟨z0, z1, z2, z3, z4, z5, z6⟩ := seven_cellsR HV.out
  have yz := lt_heap HV.out
  rcases h2k with rfl | rfl
  · go_upto_region 6 with fail
    go_wp2_with (first | (go_at_call 23; (with_reducible refine (awake22_any _).mono ?_); rintro e wa ⟨rfl, hq⟩; clear z0 z1 z2 z3 z4 z5 z6; have hva := (hq.block _ yz).trans HV.out; obtain ⟨z0, z1, z2, z3, z4, z5, z6⟩ := seven_cellsR hva; have ya := lt_heap hva) | (go_at_call 37; (with_reducible refine (eq_zero _).mono ?_); rintro e wb ⟨rfl, hq2⟩))
    go_ret
    exact ⟨rfl, below_on (below_on HB3.out hq) hq2⟩
  · go_upto_region 6 with fail
    go_wp2_with (first | (go_at_call 23; (with_reducible refine (awake22_any _).mono ?_); rintro e wa ⟨rfl, hq⟩; clear z0 z1 z2 z3 z4 z5 z6; have hva := (hq.block _ yz).trans HV.out; obtain ⟨z0, z1, z2, z3, z4, z5, z6⟩ := seven_cellsR hva; have ya := lt_heap hva) | (go_at_call 37; (with_reducible refine (eq_zero _).mono ?_); rintro e wb ⟨rfl, hq2⟩))
    go_ret
    exact ⟨rfl, below_on (below_on HB3.out hq) hq2⟩
end Go.Proofs.YtdppooflbjlbcaaDoor.I

/- Wuc -/
/- Layer 22: StackmapAttach. (Written by gen/wu.py.) -/
namespace Go.Proofs.YtdppooflbjlbcaaDoor.I
open Go.ChangeShapes Go.WideShapes Go.ChangeAt Go.RowKit Go.PlainAid
set_option linter.unusedSimpArgs false
set_option linter.unusedVariables false
theorem mes_at {w : World} {g o k : Nat} {L : List Me} {m : Me} (h : Mes w (some ⟨g, o, none⟩) L) (hk : L[k]? = some m) : g < w.heap.size ∧ m.ok w ∧ MeAt w g o k m := by
  rcases h with h | ⟨g', o', h1, h2, h3⟩
  · rw [h] at hk; simp at hk
  · cases h1
    exact ⟨h2, h3 k m hk⟩
theorem same_put {L : List Me} {i : Nat} {m : Me} (hm : L[i]? = some m) (A1 A2 : Option Addr) (n c1 c2 : Nat) (ms : List SM) :
    ∀ (k : Nat) (a b : Me), L[k]? = some a → ((L.set i (m.put A1 n c1 ms)).set i ((m.put A1 n c1 ms).put A2 m.c.mn c2 m.ms))[k]? = some b → SameMe a b := by
  intro k a b ha hb
  have hi := get_ltF hm
  by_cases hk : i = k
  · subst hk
    rw [hm] at ha
    cases ha
    rw [List.getElem?_set_self (by simpa using hi)] at hb
    cases hb
    exact ⟨A2, c2, rfl⟩
  · rw [List.getElem?_set_ne hk, List.getElem?_set_ne hk, ha] at hb
    cases hb
    exact ⟨a.c.mA, a.c.mc, rfl⟩
set_option maxRecDepth 100000 in
set_option maxHeartbeats 16000000 in
theorem att_good (u : CM) (i : Nat) (m : Me) {A0 : Option Addr} {n cap : Nat} {ms : List SM} (w : World) (hu : u.raw w) (hs64 : ¬ 64 < u.mn) (hm : u.mm[i]? = some m) (hn : ms.length = n) (hN : n ≤ 300) (hz : A0 = none → n = 0 ∧ cap = 0) (hs : SMs w A0 ms) (hf : fw22 m.c) (h1 : m.hc = true) (h2 : ckQ m.c ms = 0) (h3 : ckQ m.c m.ms = 0) : Calls Tryd.prog 10 #[.agg #[.int .i64 u.fl, .string u.nm, .string u.su, .slice u.iA u.inn u.ic, .slice u.fA u.fn u.fc, .slice u.mA u.mn u.mc, .string u.so], .int .i64 i, .slice A0 n cap] w (LawYes w) := by
  obtain ⟨⟨il, iw, ib, fl', fw, fb, ml, mw, mb⟩, hnil⟩ := hu
  obtain ⟨fl, nm, su, iA, inn, ic, is, fA, fn, fc, fs, mA, mn, mc, mm, so⟩ := u
  simp only at il iw ib fl' fw fb ml mw mb hnil hs64 hm ⊢
  have hi := get_ltF hm
  have hk0 : ¬ (i : Int) < 0 := by omega
  have hk1 : (i : Int) < (mn : Int) := by omega
  have hk2 : ¬ (mn : Int) ≤ (i : Int) := by omega
  have e0 : ¬ (64 : Int) < (mn : Int) := by omega
  have e3 : ¬ (300 : Int) < (n : Int) := by omega
  rcases mw with h0 | ⟨g0, o0, rfl, hg0, hcell⟩
  · rw [h0] at hm; simp at hm
  have HCL := Lib.hid hcell
  have HLM := Lib.hid hm
  have HLL := Lib.hid ml
  have HMX := Lib.hid hnil
  have HIW := Lib.hid iw
  have HIL := Lib.hid il
  have HFW := Lib.hid fw
  have HFL := Lib.hid fl'
  obtain ⟨mok, _, _, _, n3, n4, n5, n6, n7, n8, n9, _⟩ := hcell i m hm
  have MK := Lib.hid mok
  have HL := Lib.hid hs
  have HN := Lib.hid hn
  have HZR := Lib.hid hz
  clear hcell hm ml hnil iw il fw fl' hs hn hz mok hi
  go_enter Tryd.func10, Tryd.ntmps10
  go_upto_region 1 with fail
  have H0 := World.alloc_heap_new w (.cells #[.int .i64 fl, .string nm, .string su, .slice iA inn ic, .slice fA fn fc, .slice (some ⟨g0, o0, none⟩) mn mc, .string so] 69)
  have hB := below_al (Below.refl _ w) (.cells #[.int .i64 fl, .string nm, .string su, .slice iA inn ic, .slice fA fn fc, .slice (some ⟨g0, o0, none⟩) mn mc, .string so] 69)
  generalize w.alloc (.cells #[.int .i64 fl, .string nm, .string su, .slice iA inn ic, .slice fA fn fc, .slice (some ⟨g0, o0, none⟩) mn mc, .string so] 69) = W at H0 hB ⊢
  have HU := Lib.hid H0
  have HB := Lib.hid hB
  obtain ⟨u0, u1, u2, u3, u4, u5, u6⟩ := seven_cellsR H0
  have yu := lt_heap H0
  clear H0
  have m4 := (hB.cell (p := ⟨g0, o0 + i * 11 + 4, none⟩) hg0).trans n4
  have m5 := (hB.cell (p := ⟨g0, o0 + i * 11 + 5, none⟩) hg0).trans n5
  have m6 := (hB.cell (p := ⟨g0, o0 + i * 11 + 6, none⟩) hg0).trans n6
  have m7 := (hB.cell (p := ⟨g0, o0 + i * 11 + 7, none⟩) hg0).trans n7
  have m8 := (hB.cell (p := ⟨g0, o0 + i * 11 + 8, none⟩) hg0).trans n8
  have m9 := (hB.cell (p := ⟨g0, o0 + i * 11 + 9, none⟩) hg0).trans n9
  have KF := Lib.hid (few22_any m.c W (MK.out.mem.raw.up hB) true (Or.inl ⟨rfl, hf⟩))
  clear hB n3 n4 n5 n6 n7 n8 n9
  go_upto_region 3 with (go_at_call 22; (with_reducible refine KF.out.mono ?_); rintro e w1 ⟨rfl, hb1⟩)
  have HB1 := Lib.hid (below_on HB.out hb1)
  have HU1 := Lib.hid ((hb1.block _ yu).trans HU.out)
  have m8a := (HB1.out.cell (p := ⟨g0, o0 + i * 11 + 8, none⟩) hg0).trans (HCL.out i m HLM.out).2.2.2.2.2.2.2.2.2.1
  clear u0 u1 u2 u3 u4 u5 u6 yu m4 m5 m6 m7 m8 m9 hb1 HU HB KF
  obtain ⟨u0, u1, u2, u3, u4, u5, u6⟩ := seven_cellsR HU1.out
  have yu := lt_heap HU1.out
  have KA := Lib.hid (show ∀ W' : World, Below w.heap.size w W' → Calls Tryd.prog 33 #[.agg #[.int .i64 fl, .string nm, .string su, .slice iA inn ic, .slice fA fn fc, .slice (some ⟨g0, o0, none⟩) mn mc, .string so], .int .i64 i, .slice A0 n cap] W' (AtRight (⟨fl, nm, su, iA, inn, ic, is, fA, fn, fc, fs, some ⟨g0, o0, none⟩, mn, mc, mm, so⟩ : CM) i m n ms W') from fun W' hW =>
    at_right (⟨fl, nm, su, iA, inn, ic, is, fA, fn, fc, fs, some ⟨g0, o0, none⟩, mn, mc, mm, so⟩ : CM) i m W' HLL.out (show mn ≤ 764877654105 by omega) (Or.inr ⟨g0, o0, rfl, Nat.lt_of_lt_of_le hg0 hW.size, fun k x hx => ⟨(HCL.out k x hx).1.up hW, (HCL.out k x hx).2.up hg0 hW⟩⟩) HLM.out h1 HN.out (by omega) HZR.out (HL.out.up hW) h2)
  go_upto_region 5 with (go_at_call 33; (with_reducible refine (KA.out _ HB1.out).mono ?_); rintro e w2 ⟨g, cp, A1, c1, rfl, hmes, hnil1, hb2⟩)
  have HB2 := Lib.hid (below_on HB1.out hb2)
  have HU2 := Lib.hid ((hb2.block _ yu).trans HU1.out)
  have h0v := World.alloc_heap_new w2 (.cells #[.int .i64 fl, .string nm, .string su, .slice iA inn ic, .slice fA fn fc, .slice (some ⟨g, 0, none⟩) mn cp, .string so] 69)
  have hbv := below_al (Below.refl _ w2) (.cells #[.int .i64 fl, .string nm, .string su, .slice iA inn ic, .slice fA fn fc, .slice (some ⟨g, 0, none⟩) mn cp, .string so] 69)
  have HB3 := Lib.hid (below_on HB2.out hbv)
  generalize hqqbv : w2.heap.size = bv at h0v ⊢
  generalize hw3 : w2.alloc (.cells #[.int .i64 fl, .string nm, .string su, .slice iA inn ic, .slice fA fn fc, .slice (some ⟨g, 0, none⟩) mn cp, .string so] 69) = W3 at h0v hbv HB3 ⊢
  have HV := Lib.hid h0v
  clear h0v hqqbv hw3
  have HU3 := Lib.hid ((hbv.block _ (lt_heap HU2.out)).trans HU2.out)
  have HM3 := Lib.hid (hmes.up hbv)
  have HPM := Lib.hid (show (mm.set i (m.put A1 n c1 ms))[i]? = some (m.put A1 n c1 ms) from List.getElem?_set_self (get_ltF HLM.out))
  have HPL := Lib.hid (show (mm.set i (m.put A1 n c1 ms)).length = mn by rw [List.length_set]; exact HLL.out)
  obtain ⟨hg3, hok3, hat3⟩ := mes_at HM3.out HPM.out
  have v8 : W3.cell? ⟨g, i * 11 + 8, none⟩ = some (.slice A1 n c1) := by
    have := hat3.2.2.2.2.2.2.2.2.1
    simpa [Me.put] using this
  have KMP := Lib.hid (maps_yes (A := A1) (B := A0) (n := n) (c := c1) (d := cap) W3 HN.out (by omega) hok3.mem.mw (HL.out.up HB3.out))
  clear u0 u1 u2 u3 u4 u5 u6 yu m8a hb2 hbv KA HU1 HB1 HB2 HU2 hmes hnil1 hok3 hat3
  obtain ⟨u0, u1, u2, u3, u4, u5, u6⟩ := seven_cellsR HU3.out
  have yu := lt_heap HU3.out
  obtain ⟨v0, v1, v2, v3, v4, v5, v6⟩ := seven_cellsR HV.out
  have yv := lt_heap HV.out
  go_upto_region 9 with (go_at_call 29; (with_reducible refine KMP.out.mono ?_); rintro e w4 ⟨rfl, hb4⟩)
  have HB4 := Lib.hid (below_on HB3.out hb4)
  have HU4 := Lib.hid ((hb4.block _ yu).trans HU3.out)
  have HV4 := Lib.hid ((hb4.block _ yv).trans HV.out)
  have HM4 := Lib.hid (HM3.out.up hb4)
  clear u0 u1 u2 u3 u4 u5 u6 v0 v1 v2 v3 v4 v5 v6 yu yv v8 hg3 hb4 KMP HB3 HU3 HV HM3
  obtain ⟨v0, v1, v2, v3, v4, v5, v6⟩ := seven_cellsR HV4.out
  have yv := lt_heap HV4.out
  have KB := Lib.hid (show Calls Tryd.prog 33 #[.agg #[.int .i64 fl, .string nm, .string su, .slice iA inn ic, .slice fA fn fc, .slice (some ⟨g, 0, none⟩) mn cp, .string so], .int .i64 i, .slice m.c.mA m.c.mn m.c.mc] w4 (AtRight (⟨fl, nm, su, iA, inn, ic, is, fA, fn, fc, fs, some ⟨g, 0, none⟩, mn, cp, mm.set i (m.put A1 n c1 ms), so⟩ : CM) i (m.put A1 n c1 ms) m.c.mn m.ms w4) from
    at_right (⟨fl, nm, su, iA, inn, ic, is, fA, fn, fc, fs, some ⟨g, 0, none⟩, mn, cp, mm.set i (m.put A1 n c1 ms), so⟩ : CM) i (m.put A1 n c1 ms) w4 HPL.out (show mn ≤ 764877654105 by omega) HM4.out HPM.out h1 (MK.out.mem.ml) (by have := ck_len h3; have := hf.1; have := MK.out.mem.ml; omega) (HMX.out m (List.mem_of_getElem? HLM.out)) (MK.out.mem.mw.up HB4.out) h3)
  go_upto_region 10 with (go_at_call 33; (with_reducible refine KB.out.mono ?_); rintro e w5 ⟨g2, cp2, A2, c2, rfl, hmes2, hnil2, hb5⟩)
  have HB5 := Lib.hid (below_on HB4.out hb5)
  have HU5 := Lib.hid ((hb5.block _ (lt_heap HU4.out)).trans HU4.out)
  have h0v := World.alloc_heap_new w5 (.cells #[.int .i64 fl, .string nm, .string su, .slice iA inn ic, .slice fA fn fc, .slice (some ⟨g2, 0, none⟩) mn cp2, .string so] 69)
  have hbv := below_al (Below.refl _ w5) (.cells #[.int .i64 fl, .string nm, .string su, .slice iA inn ic, .slice fA fn fc, .slice (some ⟨g2, 0, none⟩) mn cp2, .string so] 69)
  have HB6 := Lib.hid (below_on HB5.out hbv)
  generalize hqqbx : w5.heap.size = bx at h0v ⊢
  generalize hw3 : w5.alloc (.cells #[.int .i64 fl, .string nm, .string su, .slice iA inn ic, .slice fA fn fc, .slice (some ⟨g2, 0, none⟩) mn cp2, .string so] 69) = W6 at h0v hbv HB6 ⊢
  have HX := Lib.hid h0v
  clear h0v hqqbx hw3
  have HU6 := Lib.hid ((hbv.block _ (lt_heap HU5.out)).trans HU5.out)
  have HM6 := Lib.hid (hmes2.up hbv)
  clear hmes2 hnil2
  clear v0 v1 v2 v3 v4 v5 v6 yv hbv hb5 KB HB4 HB5 HU4 HU5 HV4 HM4
  obtain ⟨u0, u1, u2, u3, u4, u5, u6⟩ := seven_cellsR HU6.out
  obtain ⟨x0, x1, x2, x3, x4, x5, x6⟩ := seven_cellsR HX.out
  have yu := lt_heap HU6.out
  have yx := lt_heap HX.out
  have KE := Lib.hid (fun (W' : World) (hW : Below W6.heap.size W6 W') => eq_yes (⟨fl, nm, su, iA, inn, ic, is, fA, fn, fc, fs, some ⟨g0, o0, none⟩, mn, mc, mm, so⟩ : CM) (some ⟨g2, 0, none⟩) cp2 _ W' (⟨HIL.out, HIW.out.up (below_on HB6.out hW), ib, HFL.out, HFW.out.up (below_on HB6.out hW), fb, HLL.out, ((Or.inr ⟨g0, o0, rfl, Nat.lt_of_lt_of_le hg0 (below_on HB6.out hW).size, fun k x hx => ⟨(HCL.out k x hx).1.up (below_on HB6.out hW), (HCL.out k x hx).2.up hg0 (below_on HB6.out hW)⟩⟩) : Mes W' (some ⟨g0, o0, none⟩) mm), mb⟩ : CM.ok W' (⟨fl, nm, su, iA, inn, ic, is, fA, fn, fc, fs, some ⟨g0, o0, none⟩, mn, mc, mm, so⟩ : CM)) (HM6.out.up hW) (show ((mm.set i (m.put A1 n c1 ms)).set i ((m.put A1 n c1 ms).put A2 m.c.mn c2 m.ms)).length = mn by rw [List.length_set]; exact HPL.out) (same_put HLM.out A1 A2 n c1 c2 ms))
  go_wp2_with (first | (go_at_call 23; (with_reducible refine (awake22_any _).mono ?_); rintro e wa ⟨rfl, hq⟩; clear u0 u1 u2 u3 u4 u5 u6 x0 x1 x2 x3 x4 x5 x6; have hva := (hq.block _ yu).trans HU6.out; obtain ⟨u0, u1, u2, u3, u4, u5, u6⟩ := seven_cellsR hva; have hvx := (hq.block _ yx).trans HX.out; obtain ⟨x0, x1, x2, x3, x4, x5, x6⟩ := seven_cellsR hvx; have yua := lt_heap hva; have yxa := lt_heap hvx) | (go_at_call 37; (with_reducible refine (KE.out _ hq).mono ?_); rintro e wb ⟨rfl, hq2⟩))
  go_ret
  exact ⟨rfl, below_on (below_on HB6.out hq) hq2⟩
end Go.Proofs.YtdppooflbjlbcaaDoor.I

/- Wud -/
/- Layer 22: StackmapAttach. (Written by gen/wu.py.) -/
namespace Go.Proofs.YtdppooflbjlbcaaDoor.I
open Go.ChangeShapes Go.WideShapes Go.ChangeAt Go.RowKit Go.PlainAid
set_option linter.unusedSimpArgs false
set_option linter.unusedVariables false
set_option maxRecDepth 100000 in
set_option maxHeartbeats 16000000 in
theorem att_back (u : CM) (i : Nat) (m : Me) {A0 : Option Addr} {n cap : Nat} {ms : List SM} (w : World) (hu : u.raw w) (hs64 : ¬ 64 < u.mn) (hm : u.mm[i]? = some m) (hn : ms.length = n) (hN : n ≤ 300) (hz : A0 = none → n = 0 ∧ cap = 0) (hs : SMs w A0 ms) (hf : fw22 m.c) (h1 : m.hc = true) (h2 : ckQ m.c ms = 0) (h3 : ckQ m.c m.ms = 25) : Calls Tryd.prog 10 #[.agg #[.int .i64 u.fl, .string u.nm, .string u.su, .slice u.iA u.inn u.ic, .slice u.fA u.fn u.fc, .slice u.mA u.mn u.mc, .string u.so], .int .i64 i, .slice A0 n cap] w (LawYes w) := by
  obtain ⟨⟨il, iw, ib, fl', fw, fb, ml, mw, mb⟩, hnil⟩ := hu
  obtain ⟨fl, nm, su, iA, inn, ic, is, fA, fn, fc, fs, mA, mn, mc, mm, so⟩ := u
  simp only at il iw ib fl' fw fb ml mw mb hnil hs64 hm ⊢
  have hi := get_ltF hm
  have hk0 : ¬ (i : Int) < 0 := by omega
  have hk1 : (i : Int) < (mn : Int) := by omega
  have hk2 : ¬ (mn : Int) ≤ (i : Int) := by omega
  have e0 : ¬ (64 : Int) < (mn : Int) := by omega
  have e3 : ¬ (300 : Int) < (n : Int) := by omega
  rcases mw with h0 | ⟨g0, o0, rfl, hg0, hcell⟩
  · rw [h0] at hm; simp at hm
  have HCL := Lib.hid hcell
  have HLM := Lib.hid hm
  have HLL := Lib.hid ml
  have HMX := Lib.hid hnil
  have HIW := Lib.hid iw
  have HIL := Lib.hid il
  have HFW := Lib.hid fw
  have HFL := Lib.hid fl'
  obtain ⟨mok, _, _, _, n3, n4, n5, n6, n7, n8, n9, _⟩ := hcell i m hm
  have MK := Lib.hid mok
  have HL := Lib.hid hs
  have HN := Lib.hid hn
  have HZR := Lib.hid hz
  clear hcell hm ml hnil iw il fw fl' hs hn hz mok hi
  go_enter Tryd.func10, Tryd.ntmps10
  go_upto_region 1 with fail
  have H0 := World.alloc_heap_new w (.cells #[.int .i64 fl, .string nm, .string su, .slice iA inn ic, .slice fA fn fc, .slice (some ⟨g0, o0, none⟩) mn mc, .string so] 69)
  have hB := below_al (Below.refl _ w) (.cells #[.int .i64 fl, .string nm, .string su, .slice iA inn ic, .slice fA fn fc, .slice (some ⟨g0, o0, none⟩) mn mc, .string so] 69)
  generalize w.alloc (.cells #[.int .i64 fl, .string nm, .string su, .slice iA inn ic, .slice fA fn fc, .slice (some ⟨g0, o0, none⟩) mn mc, .string so] 69) = W at H0 hB ⊢
  have HU := Lib.hid H0
  have HB := Lib.hid hB
  obtain ⟨u0, u1, u2, u3, u4, u5, u6⟩ := seven_cellsR H0
  have yu := lt_heap H0
  clear H0
  have m4 := (hB.cell (p := ⟨g0, o0 + i * 11 + 4, none⟩) hg0).trans n4
  have m5 := (hB.cell (p := ⟨g0, o0 + i * 11 + 5, none⟩) hg0).trans n5
  have m6 := (hB.cell (p := ⟨g0, o0 + i * 11 + 6, none⟩) hg0).trans n6
  have m7 := (hB.cell (p := ⟨g0, o0 + i * 11 + 7, none⟩) hg0).trans n7
  have m8 := (hB.cell (p := ⟨g0, o0 + i * 11 + 8, none⟩) hg0).trans n8
  have m9 := (hB.cell (p := ⟨g0, o0 + i * 11 + 9, none⟩) hg0).trans n9
  have KF := Lib.hid (few22_any m.c W (MK.out.mem.raw.up hB) true (Or.inl ⟨rfl, hf⟩))
  clear hB n3 n4 n5 n6 n7 n8 n9
  go_upto_region 3 with (go_at_call 22; (with_reducible refine KF.out.mono ?_); rintro e w1 ⟨rfl, hb1⟩)
  have HB1 := Lib.hid (below_on HB.out hb1)
  have HU1 := Lib.hid ((hb1.block _ yu).trans HU.out)
  have m8a := (HB1.out.cell (p := ⟨g0, o0 + i * 11 + 8, none⟩) hg0).trans (HCL.out i m HLM.out).2.2.2.2.2.2.2.2.2.1
  clear u0 u1 u2 u3 u4 u5 u6 yu m4 m5 m6 m7 m8 m9 hb1 HU HB KF
  obtain ⟨u0, u1, u2, u3, u4, u5, u6⟩ := seven_cellsR HU1.out
  have yu := lt_heap HU1.out
  have KA := Lib.hid (show ∀ W' : World, Below w.heap.size w W' → Calls Tryd.prog 33 #[.agg #[.int .i64 fl, .string nm, .string su, .slice iA inn ic, .slice fA fn fc, .slice (some ⟨g0, o0, none⟩) mn mc, .string so], .int .i64 i, .slice A0 n cap] W' (AtRight (⟨fl, nm, su, iA, inn, ic, is, fA, fn, fc, fs, some ⟨g0, o0, none⟩, mn, mc, mm, so⟩ : CM) i m n ms W') from fun W' hW =>
    at_right (⟨fl, nm, su, iA, inn, ic, is, fA, fn, fc, fs, some ⟨g0, o0, none⟩, mn, mc, mm, so⟩ : CM) i m W' HLL.out (show mn ≤ 764877654105 by omega) (Or.inr ⟨g0, o0, rfl, Nat.lt_of_lt_of_le hg0 hW.size, fun k x hx => ⟨(HCL.out k x hx).1.up hW, (HCL.out k x hx).2.up hg0 hW⟩⟩) HLM.out h1 HN.out (by omega) HZR.out (HL.out.up hW) h2)
  go_upto_region 5 with (go_at_call 33; (with_reducible refine (KA.out _ HB1.out).mono ?_); rintro e w2 ⟨g, cp, A1, c1, rfl, hmes, hnil1, hb2⟩)
  have HB2 := Lib.hid (below_on HB1.out hb2)
  have HU2 := Lib.hid ((hb2.block _ yu).trans HU1.out)
  have h0v := World.alloc_heap_new w2 (.cells #[.int .i64 fl, .string nm, .string su, .slice iA inn ic, .slice fA fn fc, .slice (some ⟨g, 0, none⟩) mn cp, .string so] 69)
  have hbv := below_al (Below.refl _ w2) (.cells #[.int .i64 fl, .string nm, .string su, .slice iA inn ic, .slice fA fn fc, .slice (some ⟨g, 0, none⟩) mn cp, .string so] 69)
  have HB3 := Lib.hid (below_on HB2.out hbv)
  generalize hqqbv : w2.heap.size = bv at h0v ⊢
  generalize hw3 : w2.alloc (.cells #[.int .i64 fl, .string nm, .string su, .slice iA inn ic, .slice fA fn fc, .slice (some ⟨g, 0, none⟩) mn cp, .string so] 69) = W3 at h0v hbv HB3 ⊢
  have HV := Lib.hid h0v
  clear h0v hqqbv hw3
  have HU3 := Lib.hid ((hbv.block _ (lt_heap HU2.out)).trans HU2.out)
  have HM3 := Lib.hid (hmes.up hbv)
  have HPM := Lib.hid (show (mm.set i (m.put A1 n c1 ms))[i]? = some (m.put A1 n c1 ms) from List.getElem?_set_self (get_ltF HLM.out))
  have HPL := Lib.hid (show (mm.set i (m.put A1 n c1 ms)).length = mn by rw [List.length_set]; exact HLL.out)
  obtain ⟨hg3, hok3, hat3⟩ := mes_at HM3.out HPM.out
  have v8 : W3.cell? ⟨g, i * 11 + 8, none⟩ = some (.slice A1 n c1) := by
    have := hat3.2.2.2.2.2.2.2.2.1
    simpa [Me.put] using this
  have KMP := Lib.hid (maps_yes (A := A1) (B := A0) (n := n) (c := c1) (d := cap) W3 HN.out (by omega) hok3.mem.mw (HL.out.up HB3.out))
  clear u0 u1 u2 u3 u4 u5 u6 yu m8a hb2 hbv KA HU1 HB1 HB2 HU2 hmes hnil1 hok3 hat3
  obtain ⟨u0, u1, u2, u3, u4, u5, u6⟩ := seven_cellsR HU3.out
  have yu := lt_heap HU3.out
  obtain ⟨v0, v1, v2, v3, v4, v5, v6⟩ := seven_cellsR HV.out
  have yv := lt_heap HV.out
  go_upto_region 9 with (go_at_call 29; (with_reducible refine KMP.out.mono ?_); rintro e w4 ⟨rfl, hb4⟩)
  have HB4 := Lib.hid (below_on HB3.out hb4)
  have HU4 := Lib.hid ((hb4.block _ yu).trans HU3.out)
  have HV4 := Lib.hid ((hb4.block _ yv).trans HV.out)
  have HM4 := Lib.hid (HM3.out.up hb4)
  clear u0 u1 u2 u3 u4 u5 u6 v0 v1 v2 v3 v4 v5 v6 yu yv v8 hg3 hb4 KMP HB3 HU3 HV HM3
  obtain ⟨v0, v1, v2, v3, v4, v5, v6⟩ := seven_cellsR HV4.out
  have yv := lt_heap HV4.out
  have KB := Lib.hid (show Calls Tryd.prog 33 #[.agg #[.int .i64 fl, .string nm, .string su, .slice iA inn ic, .slice fA fn fc, .slice (some ⟨g, 0, none⟩) mn cp, .string so], .int .i64 i, .slice m.c.mA m.c.mn m.c.mc] w4 (AtNo 25 w4) from
    at_wrong (⟨fl, nm, su, iA, inn, ic, is, fA, fn, fc, fs, some ⟨g, 0, none⟩, mn, cp, mm.set i (m.put A1 n c1 ms), so⟩ : CM) i (m.put A1 n c1 ms) w4 HPL.out (show mn ≤ 764877654105 by omega) HM4.out HPM.out h1 (MK.out.mem.ml) MK.out.mem.mb (HMX.out m (List.mem_of_getElem? HLM.out)) (MK.out.mem.mw.up HB4.out) h3)
  go_upto_region 10 with (go_at_call 33; (with_reducible refine KB.out.mono ?_); rintro e w5 ⟨rfl, hb5⟩)
  have HB5 := Lib.hid (below_on HB4.out hb5)
  have HU5 := Lib.hid ((hb5.block _ (lt_heap HU4.out)).trans HU4.out)
  have h0v := World.alloc_heap_new w5 (.cells #[.int .i64 0, .string ⟨#[]⟩, .string ⟨#[]⟩, .slice none 0 0, .slice none 0 0, .slice none 0 0, .string ⟨#[]⟩] 69)
  have hbv := below_al (Below.refl _ w5) (.cells #[.int .i64 0, .string ⟨#[]⟩, .string ⟨#[]⟩, .slice none 0 0, .slice none 0 0, .slice none 0 0, .string ⟨#[]⟩] 69)
  have HB6 := Lib.hid (below_on HB5.out hbv)
  generalize hqqbx : w5.heap.size = bx at h0v ⊢
  generalize hw3 : w5.alloc (.cells #[.int .i64 0, .string ⟨#[]⟩, .string ⟨#[]⟩, .slice none 0 0, .slice none 0 0, .slice none 0 0, .string ⟨#[]⟩] 69) = W6 at h0v hbv HB6 ⊢
  have HX := Lib.hid h0v
  clear h0v hqqbx hw3
  have HU6 := Lib.hid ((hbv.block _ (lt_heap HU5.out)).trans HU5.out)
  clear v0 v1 v2 v3 v4 v5 v6 yv hbv hb5 KB HB4 HB5 HU4 HU5 HV4 HM4
  obtain ⟨u0, u1, u2, u3, u4, u5, u6⟩ := seven_cellsR HU6.out
  obtain ⟨x0, x1, x2, x3, x4, x5, x6⟩ := seven_cellsR HX.out
  have yu := lt_heap HU6.out
  have yx := lt_heap HX.out
  have KC := Lib.hid (fun (W' : World) (hW : Below w.heap.size w W') => by
    have := ck_any (A := m.c.mA) (n := m.c.mn) (cap := m.c.mc) m.c W' MK.out.mem.ml MK.out.mem.mb (MK.out.mem.mw.up hW)
    rw [h3] at this
    exact this)
  obtain ⟨_, _, _, _, n4, n5, n6, n7, n8, n9, _⟩ := (HCL.out i m HLM.out).2
  go_wp2_with (first | (go_at_call 23; (with_reducible refine (awake22_any _).mono ?_); rintro e wa ⟨rfl, hq⟩; clear u0 u1 u2 u3 u4 u5 u6 x0 x1 x2 x3 x4 x5 x6; have hva := (hq.block _ yu).trans HU6.out; obtain ⟨u0, u1, u2, u3, u4, u5, u6⟩ := seven_cellsR hva; have hvx := (hq.block _ yx).trans HX.out; obtain ⟨x0, x1, x2, x3, x4, x5, x6⟩ := seven_cellsR hvx; have yua := lt_heap hva; have yxa := lt_heap hvx; have HBA := below_on HB6.out hq; have m4 := (HBA.cell (p := ⟨g0, o0 + i * 11 + 4, none⟩) hg0).trans n4; have m5 := (HBA.cell (p := ⟨g0, o0 + i * 11 + 5, none⟩) hg0).trans n5; have m6 := (HBA.cell (p := ⟨g0, o0 + i * 11 + 6, none⟩) hg0).trans n6; have m7 := (HBA.cell (p := ⟨g0, o0 + i * 11 + 7, none⟩) hg0).trans n7; have m8 := (HBA.cell (p := ⟨g0, o0 + i * 11 + 8, none⟩) hg0).trans n8; have m9 := (HBA.cell (p := ⟨g0, o0 + i * 11 + 9, none⟩) hg0).trans n9) | (go_at_call 35; (with_reducible refine (KC.out _ (below_on HB6.out hq)).mono ?_); rintro e wb ⟨rfl, hq2⟩))
  go_ret
  exact ⟨rfl, below_on (below_on HB6.out hq) hq2⟩
end Go.Proofs.YtdppooflbjlbcaaDoor.I

/- Wue -/
/- Layer 22: StackmapAttach, the whole. -/
namespace Go.Proofs.YtdppooflbjlbcaaDoor.I
open Go.ChangeShapes Go.WideShapes Go.ChangeAt Go.RowKit Go.PlainAid
set_option linter.unusedSimpArgs false
set_option linter.unusedVariables false

theorem ck_zero (c : Cd) (ms : List SM) : ckQ c ms = 0 ∨ ckQ c ms = 25 := by unfold ckQ; split <;> simp
theorem attach_law (u : CM) (x : Int) {A : Option Addr} {n cap : Nat} {ms : List SM} (w : World) (hu : u.raw w) (hn : ms.length = n) (hz : A = none → n = 0 ∧ cap = 0) (hs : SMs w A ms) :
    Calls Tryd.prog 10 #[.agg #[.int .i64 u.fl, .string u.nm, .string u.su, .slice u.iA u.inn u.ic, .slice u.fA u.fn u.fc, .slice u.mA u.mn u.mc, .string u.so], .int .i64 x, .slice A n cap] w fun e w' => e = .returned (.bool true) ∧ Below w.heap.size w w' := by
  by_cases h1 : 64 < u.mn
  · exact att_early u x w (Or.inl h1)
  by_cases h2 : x < 0
  · exact att_early u x w (Or.inr (Or.inl ⟨h1, h2⟩))
  by_cases h3 : (u.mn : Int) ≤ x
  · exact att_early u x w (Or.inr (Or.inr (Or.inl ⟨h1, h2, h3⟩)))
  by_cases h4 : 300 < n
  · exact att_early u x w (Or.inr (Or.inr (Or.inr ⟨h1, h2, h3, h4⟩)))
  obtain ⟨i, rfl⟩ : ∃ i : Nat, x = i := ⟨x.toNat, by omega⟩
  obtain ⟨m, hm⟩ : ∃ m, u.mm[i]? = some m := ⟨_, List.getElem?_eq_getElem (by rw [hu.ok.ml]; omega)⟩
  by_cases hf : fw22 m.c
  · cases hc : m.hc with
    | false => exact att_bad u i m w hu h1 hm hn (by omega) hz hs hf 1 (Or.inl ⟨rfl, hc⟩)
    | true =>
      rcases ck_zero m.c ms with h5 | h5
      · rcases ck_zero m.c m.ms with h6 | h6
        · exact att_good u i m w hu h1 hm hn (by omega) hz hs hf hc h5 h6
        · exact att_back u i m w hu h1 hm hn (by omega) hz hs hf hc h5 h6
      · exact att_bad u i m w hu h1 hm hn (by omega) hz hs hf 25 (Or.inr ⟨rfl, hc, h5⟩)
  · exact att_few u i m w hu h1 hm hn (by omega) hz hs hf
end Go.Proofs.YtdppooflbjlbcaaDoor.I
