import Derived.Test.YtdppooflbjlbcaaDoorWuM
import Derived.Test.YtdppooflbjlbcaaDoorWyM

/- Wwf -/
/- Layer 22: StackmapCheck. (Written by gen/wwf.py.) -/
namespace Go.Proofs.YtdppooflbjlbcaaDoor.I
open Go.ChangeShapes Go.WideShapes Go.ChangeAt Go.RowKit Go.PlainAid
set_option linter.unusedSimpArgs false
set_option linter.unusedVariables false

theorem same_two {L : List Me} {i : Nat} {m : Me} (hm : L[i]? = some m) (A1 A2 : Option Addr) (n c1 c2 : Nat) (ms : List SM) :
    ∀ (k : Nat) (a b : Me), (L.set i (m.put A1 n c1 ms))[k]? = some a → (L.set i (m.put A2 n c2 ms))[k]? = some b → SameMe a b := by
  intro k a b ha hb
  have hi := get_ltF hm
  by_cases hk : i = k
  · subst hk
    rw [List.getElem?_set_self hi] at ha hb
    cases ha
    cases hb
    exact ⟨A2, c2, rfl⟩
  · rw [List.getElem?_set_ne hk] at ha hb
    rw [ha] at hb
    cases hb
    exact ⟨a.c.mA, a.c.mc, rfl⟩
set_option maxRecDepth 100000 in
set_option maxHeartbeats 16000000 in
theorem chk_few (c : Cd) (u : CM) (x : Int) {A0 : Option Addr} {n cap : Nat} {ms : List SM} (w : World) (hr : c.raw22 w) (hf : ¬ fw22 c) : Calls Tryd.prog 8 #[(Value.agg #[Value.int IntKind.i64 (Cd.st c), Value.int IntKind.i64 (Cd.lo c), Value.slice (Cd.iA c) (Cd.n c) (Cd.ic c), Value.slice (Cd.hA c) (Cd.hn c) (Cd.hc c), Value.slice (Cd.mA c) (Cd.mn c) (Cd.mc c), Value.slice (Cd.lA c) (Cd.ln c) (Cd.lc c)]), .slice A0 n cap, .agg #[.int .i64 u.fl, .string u.nm, .string u.su, .slice u.iA u.inn u.ic, .slice u.fA u.fn u.fc, .slice u.mA u.mn u.mc, .string u.so], .int .i64 x] w (LawYes w) := by
  obtain ⟨fl, nm, su, iA, inn, ic, is, fA, fn, fc, fs, mA, mn, mc, mm, so⟩ := u
  go_enter Tryd.func8, Tryd.ntmps8
  go_upto_region 1 with fail
  obtain ⟨H0, H1, hB⟩ := two_laidS w (.cells #[.int .i64 c.st, .int .i64 c.lo, .slice c.iA c.n c.ic, .slice c.hA c.hn c.hc, .slice c.mA c.mn c.mc, .slice c.lA c.ln c.lc] 27) (.cells #[.int .i64 fl, .string nm, .string su, .slice iA inn ic, .slice fA fn fc, .slice mA mn mc, .string so] 69)
  generalize (w.alloc (.cells #[.int .i64 c.st, .int .i64 c.lo, .slice c.iA c.n c.ic, .slice c.hA c.hn c.hc, .slice c.mA c.mn c.mc, .slice c.lA c.ln c.lc] 27)).alloc (.cells #[.int .i64 fl, .string nm, .string su, .slice iA inn ic, .slice fA fn fc, .slice mA mn mc, .string so] 69) = W at H0 H1 hB ⊢
  have HB := Lib.hid hB
  have HC := Lib.hid H0
  have HU := Lib.hid H1
  obtain ⟨r0, r1, r2, r3, r4, r5⟩ := six_cells H0
  obtain ⟨u0, u1, u2, u3, u4, u5, u6⟩ := seven_cellsR H1
  have yr := lt_heap H0
  have yu := lt_heap H1
  have KF := Lib.hid (few22_any c W (hr.up hB) false (Or.inr ⟨rfl, hf⟩))
  clear H0 H1 hB
  clear hr
  go_wp2_with (first | (go_at_call 22; (with_reducible refine KF.out.mono ?_); rintro e w1 ⟨rfl, hb1⟩) | (go_at_call 23; (with_reducible refine (awake22_any _).mono ?_); rintro e wz ⟨rfl, hbz⟩))
  go_ret
  exact ⟨rfl, below_on (below_on HB.out hb1) hbz⟩
set_option maxRecDepth 100000 in
set_option maxHeartbeats 16000000 in
theorem chk_many (c : Cd) (u : CM) (x : Int) {A0 : Option Addr} {n cap : Nat} {ms : List SM} (w : World) (hr : c.raw22 w) (hf : fw22 c) (h3 : 300 < n) : Calls Tryd.prog 8 #[(Value.agg #[Value.int IntKind.i64 (Cd.st c), Value.int IntKind.i64 (Cd.lo c), Value.slice (Cd.iA c) (Cd.n c) (Cd.ic c), Value.slice (Cd.hA c) (Cd.hn c) (Cd.hc c), Value.slice (Cd.mA c) (Cd.mn c) (Cd.mc c), Value.slice (Cd.lA c) (Cd.ln c) (Cd.lc c)]), .slice A0 n cap, .agg #[.int .i64 u.fl, .string u.nm, .string u.su, .slice u.iA u.inn u.ic, .slice u.fA u.fn u.fc, .slice u.mA u.mn u.mc, .string u.so], .int .i64 x] w (LawYes w) := by
  obtain ⟨fl, nm, su, iA, inn, ic, is, fA, fn, fc, fs, mA, mn, mc, mm, so⟩ := u
  go_enter Tryd.func8, Tryd.ntmps8
  go_upto_region 1 with fail
  obtain ⟨H0, H1, hB⟩ := two_laidS w (.cells #[.int .i64 c.st, .int .i64 c.lo, .slice c.iA c.n c.ic, .slice c.hA c.hn c.hc, .slice c.mA c.mn c.mc, .slice c.lA c.ln c.lc] 27) (.cells #[.int .i64 fl, .string nm, .string su, .slice iA inn ic, .slice fA fn fc, .slice mA mn mc, .string so] 69)
  generalize (w.alloc (.cells #[.int .i64 c.st, .int .i64 c.lo, .slice c.iA c.n c.ic, .slice c.hA c.hn c.hc, .slice c.mA c.mn c.mc, .slice c.lA c.ln c.lc] 27)).alloc (.cells #[.int .i64 fl, .string nm, .string su, .slice iA inn ic, .slice fA fn fc, .slice mA mn mc, .string so] 69) = W at H0 H1 hB ⊢
  have HB := Lib.hid hB
  have HC := Lib.hid H0
  have HU := Lib.hid H1
  obtain ⟨r0, r1, r2, r3, r4, r5⟩ := six_cells H0
  obtain ⟨u0, u1, u2, u3, u4, u5, u6⟩ := seven_cellsR H1
  have yr := lt_heap H0
  have yu := lt_heap H1
  have KF := Lib.hid (few22_any c W (hr.up hB) true (Or.inl ⟨rfl, hf⟩))
  clear H0 H1 hB
  clear hr
  have e3 : (300 : Int) < (n : Int) := by omega
  go_wp2_with (first | (go_at_call 22; (with_reducible refine KF.out.mono ?_); rintro e w1 ⟨rfl, hb1⟩) | (go_at_call 23; (with_reducible refine (awake22_any _).mono ?_); rintro e wz ⟨rfl, hbz⟩))
  go_ret
  exact ⟨rfl, below_on (below_on HB.out hb1) hbz⟩
set_option maxRecDepth 100000 in
set_option maxHeartbeats 16000000 in
theorem chk_bad (c : Cd) (u : CM) (x : Int) {A0 : Option Addr} {n cap : Nat} {ms : List SM} (w : World) (hr : c.raw22 w) (hf : fw22 c) (hn : ms.length = n) (hN : n ≤ 300) (hs : SMs w A0 ms) (kk : Int)
    (ha : ∀ W : World, Below w.heap.size w W → Calls Tryd.prog 33 #[.agg #[.int .i64 u.fl, .string u.nm, .string u.su, .slice u.iA u.inn u.ic, .slice u.fA u.fn u.fc, .slice u.mA u.mn u.mc, .string u.so], .int .i64 x, .slice A0 n cap] W (AtNo kk W)) (hra : ∀ W : World, Below w.heap.size w W → Calls Tryd.prog 34 #[.agg #[.int .i64 u.fl, .string u.nm, .string u.su, .slice u.iA u.inn u.ic, .slice u.fA u.fn u.fc, .slice u.mA u.mn u.mc, .string u.so], .int .i64 x, .slice A0 n cap] W (AtNo kk W)) : Calls Tryd.prog 8 #[(Value.agg #[Value.int IntKind.i64 (Cd.st c), Value.int IntKind.i64 (Cd.lo c), Value.slice (Cd.iA c) (Cd.n c) (Cd.ic c), Value.slice (Cd.hA c) (Cd.hn c) (Cd.hc c), Value.slice (Cd.mA c) (Cd.mn c) (Cd.mc c), Value.slice (Cd.lA c) (Cd.ln c) (Cd.lc c)]), .slice A0 n cap, .agg #[.int .i64 u.fl, .string u.nm, .string u.su, .slice u.iA u.inn u.ic, .slice u.fA u.fn u.fc, .slice u.mA u.mn u.mc, .string u.so], .int .i64 x] w (LawYes w) := by
  have KA := Lib.hid ha
  have KR := Lib.hid hra
  obtain ⟨E, hE⟩ : ∃ E, ckQ c ms = E := ⟨_, rfl⟩
  have KC := Lib.hid (fun (W' : World) (hW : Below w.heap.size w W') => by
    have := ck_any (cap := cap) c W' hn (by omega) (hs.up hW)
    rw [hE] at this
    exact this)
  have KRC := Lib.hid (fun (W' : World) (hW : Below w.heap.size w W') => by
    have := rck_any (cap := cap) c W' hn (by omega) (hs.up hW)
    rw [hE] at this
    exact this)
  clear ha hra hE hn hs
  obtain ⟨fl, nm, su, iA, inn, ic, is, fA, fn, fc, fs, mA, mn, mc, mm, so⟩ := u
  go_enter Tryd.func8, Tryd.ntmps8
  go_upto_region 1 with fail
  obtain ⟨H0, H1, hB⟩ := two_laidS w (.cells #[.int .i64 c.st, .int .i64 c.lo, .slice c.iA c.n c.ic, .slice c.hA c.hn c.hc, .slice c.mA c.mn c.mc, .slice c.lA c.ln c.lc] 27) (.cells #[.int .i64 fl, .string nm, .string su, .slice iA inn ic, .slice fA fn fc, .slice mA mn mc, .string so] 69)
  generalize (w.alloc (.cells #[.int .i64 c.st, .int .i64 c.lo, .slice c.iA c.n c.ic, .slice c.hA c.hn c.hc, .slice c.mA c.mn c.mc, .slice c.lA c.ln c.lc] 27)).alloc (.cells #[.int .i64 fl, .string nm, .string su, .slice iA inn ic, .slice fA fn fc, .slice mA mn mc, .string so] 69) = W at H0 H1 hB ⊢
  have HB := Lib.hid hB
  have HC := Lib.hid H0
  have HU := Lib.hid H1
  obtain ⟨r0, r1, r2, r3, r4, r5⟩ := six_cells H0
  obtain ⟨u0, u1, u2, u3, u4, u5, u6⟩ := seven_cellsR H1
  have yr := lt_heap H0
  have yu := lt_heap H1
  have KF := Lib.hid (few22_any c W (hr.up hB) true (Or.inl ⟨rfl, hf⟩))
  clear H0 H1 hB
  clear hr hf
  have e3 : ¬ (300 : Int) < (n : Int) := by omega
  dsimp only at KA KR
  go_upto_region 3 with (go_at_call 22; (with_reducible refine KF.out.mono ?_); rintro e w1 ⟨rfl, hb1⟩)
  have HB1 := Lib.hid (below_on HB.out hb1)
  have HC1 := Lib.hid ((hb1.block _ yr).trans HC.out)
  have HU1 := Lib.hid ((hb1.block _ yu).trans HU.out)
  clear r0 r1 r2 r3 r4 r5 u0 u1 u2 u3 u4 u5 u6 yr yu hb1 HB HC HU KF
  obtain ⟨u0, u1, u2, u3, u4, u5, u6⟩ := seven_cellsR HU1.out
  have yu := lt_heap HU1.out
  go_upto_region 4 with (go_at_call 33; (with_reducible refine (KA.out _ HB1.out).mono ?_); rintro e w2 ⟨rfl, hb2⟩)
  have HB2 := Lib.hid (below_on HB1.out hb2)
  have HC2 := Lib.hid ((hb2.block _ (lt_heap HC1.out)).trans HC1.out)
  have HU2 := Lib.hid ((hb2.block _ yu).trans HU1.out)
  have h0v := World.alloc_heap_new w2 (.cells #[.int .i64 0, .string ⟨#[]⟩, .string ⟨#[]⟩, .slice none 0 0, .slice none 0 0, .slice none 0 0, .string ⟨#[]⟩] 69)
  have hbv := below_al (Below.refl _ w2) (.cells #[.int .i64 0, .string ⟨#[]⟩, .string ⟨#[]⟩, .slice none 0 0, .slice none 0 0, .slice none 0 0, .string ⟨#[]⟩] 69)
  have HB3 := Lib.hid (below_on HB2.out hbv)
  generalize hqqbv : w2.heap.size = bv at h0v ⊢
  generalize hw3 : w2.alloc (.cells #[.int .i64 0, .string ⟨#[]⟩, .string ⟨#[]⟩, .slice none 0 0, .slice none 0 0, .slice none 0 0, .string ⟨#[]⟩] 69) = W3 at h0v hbv HB3 ⊢
  have HV := Lib.hid h0v
  clear h0v hqqbv hw3
  have HC3 := Lib.hid ((hbv.block _ (lt_heap HC2.out)).trans HC2.out)
  have HU3 := Lib.hid ((hbv.block _ (lt_heap HU2.out)).trans HU2.out)
  clear u0 u1 u2 u3 u4 u5 u6 yu hb2 hbv KA HB1 HB2 HC1 HC2 HU1 HU2
  obtain ⟨u0, u1, u2, u3, u4, u5, u6⟩ := seven_cellsR HU3.out
  have yu := lt_heap HU3.out
  go_upto_region 5 with (go_at_call 34; (with_reducible refine (KR.out _ HB3.out).mono ?_); rintro e w4 ⟨rfl, hb4⟩)
  have HB5 := Lib.hid (below_on HB3.out hb4)
  have HC5 := Lib.hid ((hb4.block _ (lt_heap HC3.out)).trans HC3.out)
  have HV5 := Lib.hid ((hb4.block _ (lt_heap HV.out)).trans HV.out)
  have h0v := World.alloc_heap_new w4 (.cells #[.int .i64 0, .string ⟨#[]⟩, .string ⟨#[]⟩, .slice none 0 0, .slice none 0 0, .slice none 0 0, .string ⟨#[]⟩] 69)
  have hbv := below_al (Below.refl _ w4) (.cells #[.int .i64 0, .string ⟨#[]⟩, .string ⟨#[]⟩, .slice none 0 0, .slice none 0 0, .slice none 0 0, .string ⟨#[]⟩] 69)
  have HB6 := Lib.hid (below_on HB5.out hbv)
  generalize hqqbx : w4.heap.size = bx at h0v ⊢
  generalize hw3 : w4.alloc (.cells #[.int .i64 0, .string ⟨#[]⟩, .string ⟨#[]⟩, .slice none 0 0, .slice none 0 0, .slice none 0 0, .string ⟨#[]⟩] 69) = W6 at h0v hbv HB6 ⊢
  have HX := Lib.hid h0v
  clear h0v hqqbx hw3
  have HC6 := Lib.hid ((hbv.block _ (lt_heap HC5.out)).trans HC5.out)
  have HV6 := Lib.hid ((hbv.block _ (lt_heap HV5.out)).trans HV5.out)
  have KE := Lib.hid (fun (W' : World) (hW : Below W6.heap.size W6 W') => eq_zero W')
  clear u0 u1 u2 u3 u4 u5 u6 yu hb4 hbv KR HB3 HB5 HC3 HC5 HU3 HV HV5
  obtain ⟨r0, r1, r2, r3, r4, r5⟩ := six_cells HC6.out
  obtain ⟨v0, v1, v2, v3, v4, v5, v6⟩ := seven_cellsR HV6.out
  obtain ⟨x0, x1, x2, x3, x4, x5, x6⟩ := seven_cellsR HX.out
  have yr := lt_heap HC6.out
  have yv := lt_heap HV6.out
  have yx := lt_heap HX.out
  have hS0 : (fun w' => (w'.cell? ⟨w.heap.size, 0, none⟩ = some (.int .i64 c.st) ∧ w'.cell? ⟨w.heap.size, 1, none⟩ = some (.int .i64 c.lo) ∧ w'.cell? ⟨w.heap.size, 2, none⟩ = some (.slice c.iA c.n c.ic) ∧ w'.cell? ⟨w.heap.size, 3, none⟩ = some (.slice c.hA c.hn c.hc) ∧ w'.cell? ⟨w.heap.size, 4, none⟩ = some (.slice c.mA c.mn c.mc) ∧ w'.cell? ⟨w.heap.size, 5, none⟩ = some (.slice c.lA c.ln c.lc) ∧ w'.cell? ⟨bv, 0, none⟩ = some (.int .i64 0) ∧ w'.cell? ⟨bv, 1, none⟩ = some (.string ⟨#[]⟩) ∧ w'.cell? ⟨bv, 2, none⟩ = some (.string ⟨#[]⟩) ∧ w'.cell? ⟨bv, 3, none⟩ = some (.slice none 0 0) ∧ w'.cell? ⟨bv, 4, none⟩ = some (.slice none 0 0) ∧ w'.cell? ⟨bv, 5, none⟩ = some (.slice none 0 0) ∧ w'.cell? ⟨bv, 6, none⟩ = some (.string ⟨#[]⟩) ∧ w'.cell? ⟨bx, 0, none⟩ = some (.int .i64 0) ∧ w'.cell? ⟨bx, 1, none⟩ = some (.string ⟨#[]⟩) ∧ w'.cell? ⟨bx, 2, none⟩ = some (.string ⟨#[]⟩) ∧ w'.cell? ⟨bx, 3, none⟩ = some (.slice none 0 0) ∧ w'.cell? ⟨bx, 4, none⟩ = some (.slice none 0 0) ∧ w'.cell? ⟨bx, 5, none⟩ = some (.slice none 0 0) ∧ w'.cell? ⟨bx, 6, none⟩ = some (.string ⟨#[]⟩)) ∧ w.heap.size < w'.heap.size ∧ bv < w'.heap.size ∧ bx < w'.heap.size ∧ Below W6.heap.size W6 w') W6.drew := ⟨⟨r0, r1, r2, r3, r4, r5, v0, v1, v2, v3, v4, v5, v6, x0, x1, x2, x3, x4, x5, x6⟩, yr, yv, yx, (Below.refl _ _).drew⟩
  go_region_held3 (fun w' => (w'.cell? ⟨w.heap.size, 0, none⟩ = some (.int .i64 c.st) ∧ w'.cell? ⟨w.heap.size, 1, none⟩ = some (.int .i64 c.lo) ∧ w'.cell? ⟨w.heap.size, 2, none⟩ = some (.slice c.iA c.n c.ic) ∧ w'.cell? ⟨w.heap.size, 3, none⟩ = some (.slice c.hA c.hn c.hc) ∧ w'.cell? ⟨w.heap.size, 4, none⟩ = some (.slice c.mA c.mn c.mc) ∧ w'.cell? ⟨w.heap.size, 5, none⟩ = some (.slice c.lA c.ln c.lc) ∧ w'.cell? ⟨bv, 0, none⟩ = some (.int .i64 0) ∧ w'.cell? ⟨bv, 1, none⟩ = some (.string ⟨#[]⟩) ∧ w'.cell? ⟨bv, 2, none⟩ = some (.string ⟨#[]⟩) ∧ w'.cell? ⟨bv, 3, none⟩ = some (.slice none 0 0) ∧ w'.cell? ⟨bv, 4, none⟩ = some (.slice none 0 0) ∧ w'.cell? ⟨bv, 5, none⟩ = some (.slice none 0 0) ∧ w'.cell? ⟨bv, 6, none⟩ = some (.string ⟨#[]⟩) ∧ w'.cell? ⟨bx, 0, none⟩ = some (.int .i64 0) ∧ w'.cell? ⟨bx, 1, none⟩ = some (.string ⟨#[]⟩) ∧ w'.cell? ⟨bx, 2, none⟩ = some (.string ⟨#[]⟩) ∧ w'.cell? ⟨bx, 3, none⟩ = some (.slice none 0 0) ∧ w'.cell? ⟨bx, 4, none⟩ = some (.slice none 0 0) ∧ w'.cell? ⟨bx, 5, none⟩ = some (.slice none 0 0) ∧ w'.cell? ⟨bx, 6, none⟩ = some (.string ⟨#[]⟩)) ∧ w.heap.size < w'.heap.size ∧ bv < w'.heap.size ∧ bx < w'.heap.size ∧ Below W6.heap.size W6 w') (first | exact hS0 | ((try go_split_ands); (repeat' apply And.intro) <;> (first | assumption | exact (Below.refl _ _).drew | (first | exact below_on (w := W6) (by assumption) hq | exact Below.drew (by assumption) | assumption) | exact (Below.cell hq (by first | omega | (simp; omega))).trans (by assumption) | (have := hq.size; omega) | (simp; omega) | go_keep)))
    (first
      | (go_at_call 23; (with_reducible refine (awake22_any _).mono ?_); rintro e wa ⟨rfl, hq⟩)
      | (go_at_call 35; (with_reducible refine (KC.out _ (below_on HB6.out (by first | assumption | (go_split_ands; assumption)))).mono ?_); rintro e wb ⟨rfl, hq⟩)
      | (go_at_call 36; (with_reducible refine (KRC.out _ (below_on HB6.out (by first | assumption | (go_split_ands; assumption)))).mono ?_); rintro e wc ⟨rfl, hq⟩)
      | (go_at_call 37; (with_reducible refine (KE.out _ (by first | assumption | (go_split_ands; assumption))).mono ?_); rintro e wd ⟨rfl, hq⟩))
  go_split_ands
  have hend : Below W6.heap.size W6 wd := by assumption
  go_wp2
  go_ret
  exact ⟨rfl, below_on HB6.out hend⟩
end Go.Proofs.YtdppooflbjlbcaaDoor.I

/- Wwg -/
/- Layer 22: StackmapCheck. (Written by gen/wwf.py.) -/
namespace Go.Proofs.YtdppooflbjlbcaaDoor.I
open Go.ChangeShapes Go.WideShapes Go.ChangeAt Go.RowKit Go.PlainAid
set_option linter.unusedSimpArgs false
set_option linter.unusedVariables false

theorem same_twoG {L : List Me} {i : Nat} {m : Me} (hm : L[i]? = some m) (A1 A2 : Option Addr) (n c1 c2 : Nat) (ms : List SM) :
    ∀ (k : Nat) (a b : Me), (L.set i (m.put A1 n c1 ms))[k]? = some a → (L.set i (m.put A2 n c2 ms))[k]? = some b → SameMe a b := by
  intro k a b ha hb
  have hi := get_ltF hm
  by_cases hk : i = k
  · subst hk
    rw [List.getElem?_set_self hi] at ha hb
    cases ha
    cases hb
    exact ⟨A2, c2, rfl⟩
  · rw [List.getElem?_set_ne hk] at ha hb
    rw [ha] at hb
    cases hb
    exact ⟨a.c.mA, a.c.mc, rfl⟩
set_option maxRecDepth 100000 in
set_option maxHeartbeats 16000000 in
theorem chk_good (c : Cd) (u : CM) (x : Int) {A0 : Option Addr} {n cap : Nat} {ms : List SM} (w : World) (hr : c.raw22 w) (hf : fw22 c) (hn : ms.length = n) (hN : n ≤ 300) (hs : SMs w A0 ms) (hu : u.ok w) (i : Nat) (m : Me) (hm : u.mm[i]? = some m)
    (ha : ∀ W : World, Below w.heap.size w W → Calls Tryd.prog 33 #[.agg #[.int .i64 u.fl, .string u.nm, .string u.su, .slice u.iA u.inn u.ic, .slice u.fA u.fn u.fc, .slice u.mA u.mn u.mc, .string u.so], .int .i64 x, .slice A0 n cap] W (AtRight u i m n ms W)) (hra : ∀ W : World, Below w.heap.size w W → Calls Tryd.prog 34 #[.agg #[.int .i64 u.fl, .string u.nm, .string u.su, .slice u.iA u.inn u.ic, .slice u.fA u.fn u.fc, .slice u.mA u.mn u.mc, .string u.so], .int .i64 x, .slice A0 n cap] W (AtRight u i m n ms W)) : Calls Tryd.prog 8 #[(Value.agg #[Value.int IntKind.i64 (Cd.st c), Value.int IntKind.i64 (Cd.lo c), Value.slice (Cd.iA c) (Cd.n c) (Cd.ic c), Value.slice (Cd.hA c) (Cd.hn c) (Cd.hc c), Value.slice (Cd.mA c) (Cd.mn c) (Cd.mc c), Value.slice (Cd.lA c) (Cd.ln c) (Cd.lc c)]), .slice A0 n cap, .agg #[.int .i64 u.fl, .string u.nm, .string u.su, .slice u.iA u.inn u.ic, .slice u.fA u.fn u.fc, .slice u.mA u.mn u.mc, .string u.so], .int .i64 x] w (LawYes w) := by
  have KA := Lib.hid ha
  have KR := Lib.hid hra
  obtain ⟨E, hE⟩ : ∃ E, ckQ c ms = E := ⟨_, rfl⟩
  have KC := Lib.hid (fun (W' : World) (hW : Below w.heap.size w W') => by
    have := ck_any (cap := cap) c W' hn (by omega) (hs.up hW)
    rw [hE] at this
    exact this)
  have KRC := Lib.hid (fun (W' : World) (hW : Below w.heap.size w W') => by
    have := rck_any (cap := cap) c W' hn (by omega) (hs.up hW)
    rw [hE] at this
    exact this)
  clear ha hra hE hn hs
  have HUO := Lib.hid hu
  have HLM := Lib.hid hm
  clear hu hm
  obtain ⟨fl, nm, su, iA, inn, ic, is, fA, fn, fc, fs, mA, mn, mc, mm, so⟩ := u
  go_enter Tryd.func8, Tryd.ntmps8
  go_upto_region 1 with fail
  obtain ⟨H0, H1, hB⟩ := two_laidS w (.cells #[.int .i64 c.st, .int .i64 c.lo, .slice c.iA c.n c.ic, .slice c.hA c.hn c.hc, .slice c.mA c.mn c.mc, .slice c.lA c.ln c.lc] 27) (.cells #[.int .i64 fl, .string nm, .string su, .slice iA inn ic, .slice fA fn fc, .slice mA mn mc, .string so] 69)
  generalize (w.alloc (.cells #[.int .i64 c.st, .int .i64 c.lo, .slice c.iA c.n c.ic, .slice c.hA c.hn c.hc, .slice c.mA c.mn c.mc, .slice c.lA c.ln c.lc] 27)).alloc (.cells #[.int .i64 fl, .string nm, .string su, .slice iA inn ic, .slice fA fn fc, .slice mA mn mc, .string so] 69) = W at H0 H1 hB ⊢
  have HB := Lib.hid hB
  have HC := Lib.hid H0
  have HU := Lib.hid H1
  obtain ⟨r0, r1, r2, r3, r4, r5⟩ := six_cells H0
  obtain ⟨u0, u1, u2, u3, u4, u5, u6⟩ := seven_cellsR H1
  have yr := lt_heap H0
  have yu := lt_heap H1
  have KF := Lib.hid (few22_any c W (hr.up hB) true (Or.inl ⟨rfl, hf⟩))
  clear H0 H1 hB
  clear hr hf
  have e3 : ¬ (300 : Int) < (n : Int) := by omega
  dsimp only at KA KR HUO HLM
  go_upto_region 3 with (go_at_call 22; (with_reducible refine KF.out.mono ?_); rintro e w1 ⟨rfl, hb1⟩)
  have HB1 := Lib.hid (below_on HB.out hb1)
  have HC1 := Lib.hid ((hb1.block _ yr).trans HC.out)
  have HU1 := Lib.hid ((hb1.block _ yu).trans HU.out)
  clear r0 r1 r2 r3 r4 r5 u0 u1 u2 u3 u4 u5 u6 yr yu hb1 HB HC HU KF
  obtain ⟨u0, u1, u2, u3, u4, u5, u6⟩ := seven_cellsR HU1.out
  have yu := lt_heap HU1.out
  go_upto_region 4 with (go_at_call 33; (with_reducible refine (KA.out _ HB1.out).mono ?_); rintro e w2 ⟨g, cp, A1, c1, rfl, hmes, hnil1, hb2⟩)
  have HB2 := Lib.hid (below_on HB1.out hb2)
  have HC2 := Lib.hid ((hb2.block _ (lt_heap HC1.out)).trans HC1.out)
  have HU2 := Lib.hid ((hb2.block _ yu).trans HU1.out)
  have h0v := World.alloc_heap_new w2 (.cells #[.int .i64 fl, .string nm, .string su, .slice iA inn ic, .slice fA fn fc, .slice (some ⟨g, 0, none⟩) mn cp, .string so] 69)
  have hbv := below_al (Below.refl _ w2) (.cells #[.int .i64 fl, .string nm, .string su, .slice iA inn ic, .slice fA fn fc, .slice (some ⟨g, 0, none⟩) mn cp, .string so] 69)
  have HB3 := Lib.hid (below_on HB2.out hbv)
  generalize hqqbv : w2.heap.size = bv at h0v ⊢
  generalize hw3 : w2.alloc (.cells #[.int .i64 fl, .string nm, .string su, .slice iA inn ic, .slice fA fn fc, .slice (some ⟨g, 0, none⟩) mn cp, .string so] 69) = W3 at h0v hbv HB3 ⊢
  have HV := Lib.hid h0v
  clear h0v hqqbv hw3
  have HC3 := Lib.hid ((hbv.block _ (lt_heap HC2.out)).trans HC2.out)
  have HU3 := Lib.hid ((hbv.block _ (lt_heap HU2.out)).trans HU2.out)
  have HM3 := Lib.hid (hmes.up hbv)
  clear hmes hnil1
  clear u0 u1 u2 u3 u4 u5 u6 yu hb2 hbv KA HB1 HB2 HC1 HC2 HU1 HU2
  obtain ⟨u0, u1, u2, u3, u4, u5, u6⟩ := seven_cellsR HU3.out
  have yu := lt_heap HU3.out
  go_upto_region 5 with (go_at_call 34; (with_reducible refine (KR.out _ HB3.out).mono ?_); rintro e w4 ⟨g2, cp2, A2, c2, rfl, hmes2, hnil2, hb4⟩)
  have HB5 := Lib.hid (below_on HB3.out hb4)
  have HC5 := Lib.hid ((hb4.block _ (lt_heap HC3.out)).trans HC3.out)
  have HV5 := Lib.hid ((hb4.block _ (lt_heap HV.out)).trans HV.out)
  have h0v := World.alloc_heap_new w4 (.cells #[.int .i64 fl, .string nm, .string su, .slice iA inn ic, .slice fA fn fc, .slice (some ⟨g2, 0, none⟩) mn cp2, .string so] 69)
  have hbv := below_al (Below.refl _ w4) (.cells #[.int .i64 fl, .string nm, .string su, .slice iA inn ic, .slice fA fn fc, .slice (some ⟨g2, 0, none⟩) mn cp2, .string so] 69)
  have HB6 := Lib.hid (below_on HB5.out hbv)
  generalize hqqbx : w4.heap.size = bx at h0v ⊢
  generalize hw3 : w4.alloc (.cells #[.int .i64 fl, .string nm, .string su, .slice iA inn ic, .slice fA fn fc, .slice (some ⟨g2, 0, none⟩) mn cp2, .string so] 69) = W6 at h0v hbv HB6 ⊢
  have HX := Lib.hid h0v
  clear h0v hqqbx hw3
  have HC6 := Lib.hid ((hbv.block _ (lt_heap HC5.out)).trans HC5.out)
  have HV6 := Lib.hid ((hbv.block _ (lt_heap HV5.out)).trans HV5.out)
  have HM6 := Lib.hid ((HM3.out.up hb4).up hbv)
  have HM7 := Lib.hid (hmes2.up hbv)
  have KE := Lib.hid (fun (W' : World) (hW : Below W6.heap.size W6 W') => eq_yes (⟨fl, nm, su, iA, inn, ic, is, fA, fn, fc, fs, some ⟨g, 0, none⟩, mn, cp, mm.set i (m.put A1 n c1 ms), so⟩ : CM) (some ⟨g2, 0, none⟩) cp2 _ W' (⟨HUO.out.il, HUO.out.iw.up (below_on HB6.out hW), HUO.out.ib, HUO.out.fl, HUO.out.fw.up (below_on HB6.out hW), HUO.out.fb, (by show (mm.set i _).length = mn; rw [List.length_set]; exact HUO.out.ml), HM6.out.up hW, HUO.out.mb⟩) (HM7.out.up hW) (show (mm.set i (m.put A2 n c2 ms)).length = mn by rw [List.length_set]; exact HUO.out.ml) (same_twoG HLM.out A1 A2 n c1 c2 ms))
  clear hmes2 hnil2
  clear u0 u1 u2 u3 u4 u5 u6 yu hb4 hbv KR HB3 HB5 HC3 HC5 HU3 HV HV5
  obtain ⟨r0, r1, r2, r3, r4, r5⟩ := six_cells HC6.out
  obtain ⟨v0, v1, v2, v3, v4, v5, v6⟩ := seven_cellsR HV6.out
  obtain ⟨x0, x1, x2, x3, x4, x5, x6⟩ := seven_cellsR HX.out
  have yr := lt_heap HC6.out
  have yv := lt_heap HV6.out
  have yx := lt_heap HX.out
  have hS0 : (fun w' => (w'.cell? ⟨w.heap.size, 0, none⟩ = some (.int .i64 c.st) ∧ w'.cell? ⟨w.heap.size, 1, none⟩ = some (.int .i64 c.lo) ∧ w'.cell? ⟨w.heap.size, 2, none⟩ = some (.slice c.iA c.n c.ic) ∧ w'.cell? ⟨w.heap.size, 3, none⟩ = some (.slice c.hA c.hn c.hc) ∧ w'.cell? ⟨w.heap.size, 4, none⟩ = some (.slice c.mA c.mn c.mc) ∧ w'.cell? ⟨w.heap.size, 5, none⟩ = some (.slice c.lA c.ln c.lc) ∧ w'.cell? ⟨bv, 0, none⟩ = some (.int .i64 fl) ∧ w'.cell? ⟨bv, 1, none⟩ = some (.string nm) ∧ w'.cell? ⟨bv, 2, none⟩ = some (.string su) ∧ w'.cell? ⟨bv, 3, none⟩ = some (.slice iA inn ic) ∧ w'.cell? ⟨bv, 4, none⟩ = some (.slice fA fn fc) ∧ w'.cell? ⟨bv, 5, none⟩ = some (.slice (some ⟨g, 0, none⟩) mn cp) ∧ w'.cell? ⟨bv, 6, none⟩ = some (.string so) ∧ w'.cell? ⟨bx, 0, none⟩ = some (.int .i64 fl) ∧ w'.cell? ⟨bx, 1, none⟩ = some (.string nm) ∧ w'.cell? ⟨bx, 2, none⟩ = some (.string su) ∧ w'.cell? ⟨bx, 3, none⟩ = some (.slice iA inn ic) ∧ w'.cell? ⟨bx, 4, none⟩ = some (.slice fA fn fc) ∧ w'.cell? ⟨bx, 5, none⟩ = some (.slice (some ⟨g2, 0, none⟩) mn cp2) ∧ w'.cell? ⟨bx, 6, none⟩ = some (.string so)) ∧ w.heap.size < w'.heap.size ∧ bv < w'.heap.size ∧ bx < w'.heap.size ∧ Below W6.heap.size W6 w') W6.drew := ⟨⟨r0, r1, r2, r3, r4, r5, v0, v1, v2, v3, v4, v5, v6, x0, x1, x2, x3, x4, x5, x6⟩, yr, yv, yx, (Below.refl _ _).drew⟩
  go_region_held3 (fun w' => (w'.cell? ⟨w.heap.size, 0, none⟩ = some (.int .i64 c.st) ∧ w'.cell? ⟨w.heap.size, 1, none⟩ = some (.int .i64 c.lo) ∧ w'.cell? ⟨w.heap.size, 2, none⟩ = some (.slice c.iA c.n c.ic) ∧ w'.cell? ⟨w.heap.size, 3, none⟩ = some (.slice c.hA c.hn c.hc) ∧ w'.cell? ⟨w.heap.size, 4, none⟩ = some (.slice c.mA c.mn c.mc) ∧ w'.cell? ⟨w.heap.size, 5, none⟩ = some (.slice c.lA c.ln c.lc) ∧ w'.cell? ⟨bv, 0, none⟩ = some (.int .i64 fl) ∧ w'.cell? ⟨bv, 1, none⟩ = some (.string nm) ∧ w'.cell? ⟨bv, 2, none⟩ = some (.string su) ∧ w'.cell? ⟨bv, 3, none⟩ = some (.slice iA inn ic) ∧ w'.cell? ⟨bv, 4, none⟩ = some (.slice fA fn fc) ∧ w'.cell? ⟨bv, 5, none⟩ = some (.slice (some ⟨g, 0, none⟩) mn cp) ∧ w'.cell? ⟨bv, 6, none⟩ = some (.string so) ∧ w'.cell? ⟨bx, 0, none⟩ = some (.int .i64 fl) ∧ w'.cell? ⟨bx, 1, none⟩ = some (.string nm) ∧ w'.cell? ⟨bx, 2, none⟩ = some (.string su) ∧ w'.cell? ⟨bx, 3, none⟩ = some (.slice iA inn ic) ∧ w'.cell? ⟨bx, 4, none⟩ = some (.slice fA fn fc) ∧ w'.cell? ⟨bx, 5, none⟩ = some (.slice (some ⟨g2, 0, none⟩) mn cp2) ∧ w'.cell? ⟨bx, 6, none⟩ = some (.string so)) ∧ w.heap.size < w'.heap.size ∧ bv < w'.heap.size ∧ bx < w'.heap.size ∧ Below W6.heap.size W6 w') (first | exact hS0 | ((try go_split_ands); (repeat' apply And.intro) <;> (first | assumption | exact (Below.refl _ _).drew | (first | exact below_on (w := W6) (by assumption) hq | exact Below.drew (by assumption) | assumption) | exact (Below.cell hq (by first | omega | (simp; omega))).trans (by assumption) | (have := hq.size; omega) | (simp; omega) | go_keep)))
    (first
      | (go_at_call 23; (with_reducible refine (awake22_any _).mono ?_); rintro e wa ⟨rfl, hq⟩)
      | (go_at_call 35; (with_reducible refine (KC.out _ (below_on HB6.out (by first | assumption | (go_split_ands; assumption)))).mono ?_); rintro e wb ⟨rfl, hq⟩)
      | (go_at_call 36; (with_reducible refine (KRC.out _ (below_on HB6.out (by first | assumption | (go_split_ands; assumption)))).mono ?_); rintro e wc ⟨rfl, hq⟩)
      | (go_at_call 37; (with_reducible refine (KE.out _ (by first | assumption | (go_split_ands; assumption))).mono ?_); rintro e wd ⟨rfl, hq⟩))
  go_split_ands
  have hend : Below W6.heap.size W6 wd := by assumption
  go_wp2
  go_ret
  exact ⟨rfl, below_on HB6.out hend⟩
end Go.Proofs.YtdppooflbjlbcaaDoor.I
