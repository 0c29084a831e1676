import Derived.Test.YtdppooflbjlbcaaDoorWiM
import Derived.BigQuiet

/- Wl -/
/- Layer 22: StackmapSelect. (Written by gen/wl.py.) -/
namespace Go.Proofs.YtdppooflbjlbcaaDoor.I
open Go.ChangeShapes Go.WideShapes Go.ChangeAt Go.RowKit Go.PlainAid
set_option linter.unusedSimpArgs false
set_option linter.unusedVariables false

/-- the code without its stack maps -/
def bare (c : Cd) : Cd := ⟨c.st, c.lo, c.iA, c.n, c.ic, c.is, c.hA, c.hn, c.hc, c.hs, none, 0, 0, c.lA, c.ln, c.lc⟩
theorem ed_bare (c : Cd) (x : Int) : edL (bare c) x = edL c x := rfl
theorem ds_bare (c : Cd) : ∀ k f q, dsOut (bare c) k f q = dsOut c k f q := by
  intro k
  induction k with
  | zero => intro f q; rfl
  | succ k ih =>
    intro f q
    cases q with
    | nil => rfl
    | cons a q =>
      show dsOut (bare c) k (dsIn a f q (edL (bare c) a)).1 (dsIn a f q (edL (bare c) a)).2 = dsOut c k (dsIn a f q (edL c a)).1 (dsIn a f q (edL c a)).2
      rw [ed_bare, ih]
theorem re_bare (c : Cd) : reL (bare c) = reL c := by
  unfold reL distL
  show List.map _ (if c.n = 0 then [] else dsOut (bare c) (c.n + 1) _ [0]) = List.map _ (if c.n = 0 then [] else dsOut c (c.n + 1) _ [0])
  rw [ds_bare]
  rfl
theorem rq_bare (c : Cd) : rqL (bare c) = rqL c := by
  have h : rqP (bare c) = rqP c := by
    funext k
    unfold rqP
    rw [re_bare]
    rfl
  unfold rqL
  rw [h]
  rfl
theorem k22_bare {c : Cd} {w : World} (h : c.k22 w) : (bare c).k22 w := ⟨⟨h.c9.il, h.c9.iw, h.c9.ib, h.c9.hl, h.c9.hw, h.c9.hb, h.c9.nz, h.c9.tn⟩, ⟨h.ok.il, h.ok.iw, h.ok.ib, h.ok.hl, h.ok.hw, h.ok.hb, h.ok.nz, h.ok.tn⟩, ⟨h.fw.n, h.fw.hn, h.fw.tn⟩⟩
theorem sl_idem (L : List Int) (ms : List SM) : slL L (slL L ms) = slL L ms := by unfold slL; rw [List.filter_filter]; congr 1; funext m; cases inX L m <;> rfl
theorem sl_find {L : List Int} {x : Int} (hx : x ∈ L) : ∀ ms : List SM, (slL L ms).find? (atX x) = ms.find? (atX x) := by
  intro ms
  induction ms with
  | nil => rfl
  | cons m ms ih =>
    unfold slL at ih ⊢
    cases ha : atX x m with
    | true =>
      have hm : inX L m = true := by
        unfold atX at ha
        have e : m.x = x := by simpa using ha
        unfold inX
        rw [e]
        simpa using hx
      rw [List.filter_cons_of_pos hm, List.find?_cons_of_pos ha, List.find?_cons_of_pos ha]
    | false =>
      have ha2 : ¬ atX x m = true := by rw [ha]; decide
      rw [List.find?_cons_of_neg ha2, ← ih]
      cases hm : inX L m with
      | true => rw [List.filter_cons_of_pos hm, List.find?_cons_of_neg ha2]
      | false => rw [List.filter_cons_of_neg (by rw [hm]; decide)]
theorem sl_fa {L : List Int} {x : Int} (hx : x ∈ L) (ms : List SM) : faF (slL L ms) x = faF ms x ∧ faB (slL L ms) x = faB ms x := by
  unfold faF faB
  rw [sl_find hx]
  exact ⟨rfl, rfl⟩
/-- maps that Check accepts: increasing, and each right by itself -/
def GoodM (c : Cd) (ms : List SM) : Prop := ms.Pairwise (fun a b => a.x < b.x) ∧ ∀ m ∈ ms, ckR c m = false
theorem good_of {c : Cd} : ∀ {ms : List SM}, ckQ c ms = 0 → GoodM c ms := by
  intro ms h
  have hall : (List.range ms.length).any (ckP c ms) = false := by
    cases e : (List.range ms.length).any (ckP c ms) with
    | false => rfl
    | true => unfold ckQ at h; rw [if_pos e] at h; cases h
  have hp : ∀ j, j < ms.length → ckP c ms j = false := by
    intro j hj
    rw [List.any_eq_false] at hall
    have := hall j (List.mem_range.2 hj)
    simpa using this
  refine ⟨?_, fun m hm => ?_⟩
  · have step : ∀ q (h1 : q + 1 < ms.length), (ms[q]'(by omega)).x < (ms[q + 1]'h1).x := by
      intro q h1
      have h2 := hp (q + 1) h1
      rw [ckP_s (List.getElem?_eq_getElem h1) (List.getElem?_eq_getElem (by omega))] at h2
      rw [Bool.or_eq_false_iff, decide_eq_false_iff_not] at h2
      omega
    rw [List.pairwise_iff_getElem]
    intro i j hi hj hij
    obtain ⟨d, rfl⟩ : ∃ d, j = i + 1 + d := ⟨j - (i + 1), by omega⟩
    clear hij
    induction d with
    | zero => exact step i hj
    | succ d ih =>
      have h1 := ih (by omega)
      have h2 := step (i + 1 + d) hj
      exact Int.lt_trans h1 h2
  · obtain ⟨j, hj, rfl⟩ := List.mem_iff_getElem.1 hm
    have h2 := hp j hj
    cases j with
    | zero => rw [ckP_0 (List.getElem?_eq_getElem hj)] at h2; exact h2
    | succ q =>
      rw [ckP_s (List.getElem?_eq_getElem hj) (List.getElem?_eq_getElem (by omega)), Bool.or_eq_false_iff] at h2
      exact h2.2
theorem of_good {c : Cd} {ms : List SM} (h : GoodM c ms) : ckQ c ms = 0 := by
  refine ckQ_ok rfl ?_
  rw [List.any_eq_false]
  intro j hj
  have hj := List.mem_range.1 hj
  cases j with
  | zero => rw [ckP_0 (List.getElem?_eq_getElem hj), h.2 _ (List.getElem_mem _)]; decide
  | succ q =>
    rw [ckP_s (List.getElem?_eq_getElem hj) (List.getElem?_eq_getElem (by omega)), h.2 _ (List.getElem_mem _)]
    have := (List.pairwise_iff_getElem.1 h.1) q (q + 1) (by omega) hj (by omega)
    rw [decide_eq_false (by omega)]
    decide
theorem sl_good {c : Cd} {L : List Int} {ms : List SM} (h : ckQ c ms = 0) : ckQ c (slL L ms) = 0 := by
  have g := good_of h
  refine of_good ⟨?_, fun m hm => g.2 m ?_⟩
  · unfold slL; exact g.1.sublist List.filter_sublist
  · unfold slL at hm; exact (List.mem_filter.1 hm).1
theorem ck_two (c : Cd) (ms : List SM) : ckQ c ms = 0 ∨ ckQ c ms = 25 := by unfold ckQ; split <;> simp
/-- what the statement has made, behind its tests -/
structure SeF (c : Cd) (A AN AM : Option Addr) (ms : List SM) (B : Nat) (L : List Int) (W : World) : Prop where
  b : W.heap[B]? = some (.cells #[.int .i64 c.st, .int .i64 c.lo, .slice c.iA c.n c.ic, .slice c.hA c.hn c.hc, .slice c.mA c.mn c.mc, .slice c.lA c.ln c.lc] 27)
  r : Row W W.heap.size AN L
  l : SMs W A ms
  m : SMs W AM (slL L ms)
theorem SeF.up {c : Cd} {A AN AM : Option Addr} {ms : List SM} {B : Nat} {L : List Int} {W W' : World} (h : SeF c A AN AM ms B L W) (hb : Below W.heap.size W W') : SeF c A AN AM ms B L W' :=
  ⟨(hb.block _ (lt_heap h.b)).trans h.b, h.r.up hb, h.l.up hb, h.m.up hb⟩
set_option maxRecDepth 100000 in
set_option maxHeartbeats 16000000 in
theorem select_law {A : Option Addr} {n cap : Nat} {ms : List SM} (c : Cd) (w : World) (hr : c.raw22 w) (hn : ms.length = n) (hN : n ≤ 9223372036854775807) (hp : SMs w A ms) :
    Calls Tryd.prog 9 #[(Value.agg #[Value.int IntKind.i64 (Cd.st c), Value.int IntKind.i64 (Cd.lo c), Value.slice (Cd.iA c) (Cd.n c) (Cd.ic c), Value.slice (Cd.hA c) (Cd.hn c) (Cd.hc c), Value.slice (Cd.mA c) (Cd.mn c) (Cd.mc c), Value.slice (Cd.lA c) (Cd.ln c) (Cd.lc c)]), .slice A n cap] w fun e w' => e = .returned (.bool true) ∧ Below w.heap.size w w' := by
  have hB : Below w.heap.size w w := Below.refl _ _
  have OK := Lib.hid hr
  have HP := Lib.hid hp
  have HN := Lib.hid hn
  clear hr hp hn
  by_cases hf : fw22 c
  · have KF := Lib.hid (fun (W : World) (hW : Below w.heap.size w W) => few22_any c W (OK.out.up hW) true (Or.inl ⟨rfl, hf⟩))
    have K22 := Lib.hid (OK.out.k22 hf)
    clear hf
    by_cases h3 : 300 < n
    · have e3 : (300 : Int) < (n : Int) := by omega
      go_enter Tryd.func9, Tryd.ntmps9
      go_upto_region 1 with fail
      have R := World.alloc_heap_new w (.cells #[.int .i64 c.st, .int .i64 c.lo, .slice c.iA c.n c.ic, .slice c.hA c.hn c.hc, .slice c.mA c.mn c.mc, .slice c.lA c.ln c.lc] 27)
      replace hB := below_al hB (.cells #[.int .i64 c.st, .int .i64 c.lo, .slice c.iA c.n c.ic, .slice c.hA c.hn c.hc, .slice c.mA c.mn c.mc, .slice c.lA c.ln c.lc] 27)
      generalize w.alloc (.cells #[.int .i64 c.st, .int .i64 c.lo, .slice c.iA c.n c.ic, .slice c.hA c.hn c.hc, .slice c.mA c.mn c.mc, .slice c.lA c.ln c.lc] 27) = W1 at R hB ⊢
      obtain ⟨r0, r1, r2, r3, r4, r5⟩ := six_cells R
      have y1 := lt_heap R
      replace R := Lib.hid R
      go_wp2_with (first | (go_at_call 22; (with_reducible refine (KF.out _ hB).mono ?_); rintro e w1 ⟨rfl, hb1⟩) | (go_at_call 23; (with_reducible refine (awake22_any _).mono ?_); rintro e w2 ⟨rfl, hb2⟩))
      go_ret
      exact ⟨rfl, below_on (below_on hB hb1) hb2⟩
    · have e3 : ¬ (300 : Int) < (n : Int) := by omega
      obtain ⟨L, hL⟩ : ∃ L, rqL c = L := ⟨_, rfl⟩
      have HBND := Lib.hid (show ∀ x ∈ L, 0 ≤ x ∧ x < (c.n : Int) from fun x hx => by
        rw [← hL] at hx
        obtain ⟨j, hj, _, rfl⟩ := rowsI_mem.1 hx
        omega)
      have HSRT := Lib.hid (show L.Pairwise (· < ·) by rw [← hL]; exact rowsI_sorted _ _)
      have HLL := Lib.hid (show L.length ≤ 300 by rw [← hL]; exact Nat.le_trans (rowsI_len _ _) K22.out.fw.n)
      have KR := Lib.hid (fun (W : World) (hW : Below w.heap.size w W) => by
        have := rq_any c W (K22.out.up hW)
        rw [hL] at this
        exact this)
      have KRB := Lib.hid (fun (W : World) (hW : Below w.heap.size w W) => show Calls Tryd.prog 27 #[.agg #[.int .i64 c.st, .int .i64 c.lo, .slice c.iA c.n c.ic, .slice c.hA c.hn c.hc, .slice none 0 0, .slice c.lA c.ln c.lc]] W (IntsOwn W L) by
        have := rq_any (bare c) W (k22_bare (K22.out.up hW))
        rw [rq_bare, hL] at this
        exact this)
      have KS := Lib.hid (fun (W : World) (hW : Below w.heap.size w W) (AX : Option Addr) (nx cx : Nat) (xs : List SM) (h1 : xs.length = nx) (h2 : nx ≤ 10000) (h3 : SMs W AX xs) => show Calls Tryd.prog 30 #[(Value.agg #[Value.int IntKind.i64 (Cd.st c), Value.int IntKind.i64 (Cd.lo c), Value.slice (Cd.iA c) (Cd.n c) (Cd.ic c), Value.slice (Cd.hA c) (Cd.hn c) (Cd.hc c), Value.slice (Cd.mA c) (Cd.mn c) (Cd.mc c), Value.slice (Cd.lA c) (Cd.ln c) (Cd.lc c)]), .slice AX nx cx] W (SmOwn W (slL L xs)) by
        have := sl_any (cap := cx) c W (K22.out.up hW) h1 h2 h3
        rw [hL] at this
        exact this)
      obtain ⟨M, hM⟩ : ∃ M, slL L ms = M := ⟨_, rfl⟩
      have HM := Lib.hid hM
      have HML := Lib.hid (show M.length ≤ 300 by rw [← hM]; exact Nat.le_trans (List.length_filter_le _ _) (by rw [HN.out]; omega))
      have HID := Lib.hid (show slL L M = M by rw [← hM]; exact sl_idem L ms)
      clear hL hM
      obtain ⟨mn, hmn⟩ : ∃ mn, M.length = mn := ⟨_, rfl⟩
      have HMN := Lib.hid hmn
      obtain ⟨ln, hln⟩ : ∃ ln, L.length = ln := ⟨_, rfl⟩
      have HLN := Lib.hid hln
      have hm3 : mn ≤ 300 := by rw [← hmn]; exact HML.out
      have hl3 : ln ≤ 300 := by rw [← hln]; exact HLL.out
      clear hmn hln
      go_enter Tryd.func9, Tryd.ntmps9
      go_upto_region 1 with fail
      have R := World.alloc_heap_new w (.cells #[.int .i64 c.st, .int .i64 c.lo, .slice c.iA c.n c.ic, .slice c.hA c.hn c.hc, .slice c.mA c.mn c.mc, .slice c.lA c.ln c.lc] 27)
      replace hB := below_al hB (.cells #[.int .i64 c.st, .int .i64 c.lo, .slice c.iA c.n c.ic, .slice c.hA c.hn c.hc, .slice c.mA c.mn c.mc, .slice c.lA c.ln c.lc] 27)
      generalize w.alloc (.cells #[.int .i64 c.st, .int .i64 c.lo, .slice c.iA c.n c.ic, .slice c.hA c.hn c.hc, .slice c.mA c.mn c.mc, .slice c.lA c.ln c.lc] 27) = W1 at R hB ⊢
      obtain ⟨r0, r1, r2, r3, r4, r5⟩ := six_cells R
      have y1 := lt_heap R
      replace R := Lib.hid R
      go_upto_region 3 with (go_at_call 22; (with_reducible refine (KF.out _ hB).mono ?_); rintro e w1 ⟨rfl, hb1⟩)
      have HB1 := Lib.hid (below_on hB hb1)
      have HR1 := Lib.hid ((hb1.block _ y1).trans R.out)
      clear r0 r1 r2 r3 r4 r5 y1 R hb1 hB
      clear W1
      obtain ⟨r0, r1, r2, r3, r4, r5⟩ := six_cells HR1.out
      have yr := lt_heap HR1.out
      go_upto_region 5 with fail
      have H0 := World.alloc_heap_new w1 (.cells #[.int .i64 c.st, .int .i64 c.lo, .slice c.iA c.n c.ic, .slice c.hA c.hn c.hc, .slice none 0 0, .slice c.lA c.ln c.lc] 27)
      have hb2 := below_al (Below.refl _ w1) (.cells #[.int .i64 c.st, .int .i64 c.lo, .slice c.iA c.n c.ic, .slice c.hA c.hn c.hc, .slice none 0 0, .slice c.lA c.ln c.lc] 27)
      have HB2 := Lib.hid (below_on HB1.out hb2)
      have HR2 := Lib.hid ((hb2.block _ yr).trans HR1.out)
      generalize hb5 : w1.heap.size = b5 at H0 ⊢
      generalize w1.alloc (.cells #[.int .i64 c.st, .int .i64 c.lo, .slice c.iA c.n c.ic, .slice c.hA c.hn c.hc, .slice none 0 0, .slice c.lA c.ln c.lc] 27) = W2 at H0 hb2 HB2 HR2 ⊢
      have HX2 := Lib.hid H0
      clear r0 r1 r2 r3 r4 r5 yr H0 hb2 hb5 HB1 HR1
      obtain ⟨r0, r1, r2, r3, r4, r5⟩ := six_cells HR2.out
      have yr := lt_heap HR2.out
      go_upto_region 6 with (go_at_call 27; (with_reducible refine (KR.out _ HB2.out).mono ?_); rintro e w3 ⟨vn, rfl, ho3, hb3⟩)
      obtain ⟨AN, cN, rfl, _, _, _⟩ := own_form ho3
      have HRN3 := Lib.hid (Row.of_own ho3).1
      rw [HLN.out]
      have HB3 := Lib.hid (below_on HB2.out hb3)
      have HR3 := Lib.hid ((hb3.block _ yr).trans HR2.out)
      have hx3 := (hb3.block _ (lt_heap HX2.out)).trans HX2.out
      clear r0 r1 r2 r3 r4 r5 yr hb3 ho3 HB2 HR2 HX2
      obtain ⟨x0, x1, x2, x3, x4, x5⟩ := six_cells hx3
      have yx := lt_heap hx3
      clear hx3
      go_upto_region 8 with (first | (go_at_call 27; (with_reducible refine (KRB.out _ HB3.out).mono ?_); rintro e w4 ⟨vn, rfl, ho4, hb4⟩; obtain ⟨A4, c4, rfl, _, _, _⟩ := own_form ho4; have HRB4 := Lib.hid (Row.of_own ho4).1; rw [HLN.out]; clear ho4) | (go_at_call 26; (with_reducible refine (ints_yes _ HLN.out (by omega) (HRN3.out.up hb4) HRB4.out).mono ?_); rintro e w5 ⟨rfl, hb5⟩))
      have hb45 := below_on hb4 hb5
      have HB5 := Lib.hid (below_on HB3.out hb45)
      have HR5 := Lib.hid ((hb45.block _ (lt_heap HR3.out)).trans HR3.out)
      have HRN5 := Lib.hid (HRN3.out.up hb45)
      clear x0 x1 x2 x3 x4 x5 yx hb4 hb5 hb45 HB3 HR3 HRN3 HRB4
      obtain ⟨r0, r1, r2, r3, r4, r5⟩ := six_cells HR5.out
      have yr := lt_heap HR5.out
      have HP5 := Lib.hid (HP.out.up HB5.out)
      have K8 := KS.out w5 HB5.out A n cap ms HN.out (by omega) HP5.out
      rw [HM.out] at K8
      go_upto_region 9 with (go_at_call 30; (with_reducible refine K8.mono ?_); rintro e w6 ⟨vm, rfl, ho6, hb6⟩)
      obtain ⟨AM, cM, rfl, _, _, _⟩ := own_form ho6
      have HFO := Lib.hid (show ∀ m ∈ M, m.f.ok w6 from fun m hm => by
        rw [← HM.out] at hm
        unfold slL at hm
        exact (HP5.out.up hb6).fok m (List.mem_filter.1 hm).1)
      have hs6 := (SMs.of_own ho6 HFO.out).1
      rw [HMN.out]
      have F6 := Lib.hid (show SeF c A AN AM ms w.heap.size L w6 from ⟨(hb6.block _ yr).trans HR5.out, HRN5.out.up hb6, HP5.out.up hb6, by rw [HM.out]; exact hs6⟩)
      have HB6 := Lib.hid (below_on HB5.out hb6)
      clear r0 r1 r2 r3 r4 r5 yr hb6 ho6 hs6 K8 HB5 HR5 HRN5 HP5 HFO KF KR KRB
      obtain ⟨r0, r1, r2, r3, r4, r5⟩ := six_cells F6.out.b
      have yr := lt_heap F6.out.b
      have hm6 := F6.out.m
      rw [HM.out] at hm6
      have K9 := KS.out w6 HB6.out AM mn cM M HMN.out (by omega) hm6
      rw [HID.out] at K9
      have K9' := Lib.hid K9
      have HM6 := Lib.hid hm6
      clear K9 hm6
      obtain ⟨e1v, he1⟩ : ∃ E, ckQ c ms = E := ⟨_, rfl⟩
      have HE1 := Lib.hid he1
      have hz : e1v = 0 → ckQ c M = 0 := fun h => by rw [← HM.out]; exact sl_good (by rw [he1]; exact h)
      have HZ := Lib.hid hz
      clear hz he1
      have KC1 := Lib.hid (fun (W : World) (h : SMs W A ms) => by
        have := ck_any (cap := cap) c W HN.out (by omega) h
        rw [HE1.out] at this
        exact this)
      have KC2 := Lib.hid (fun (W : World) (hz : e1v = 0) (h : SMs W AM M) => by
        have := ck_any (cap := cM) c W HMN.out (by omega) h
        rw [HZ.out hz] at this
        exact this)
      have AF := Lib.hid (fun (W : World) => awake22_any W)
      have key : ∀ (e1x : Int), e1x = e1v → e1x = 0 ∨ (e1x == 0) = false := fun x hx => by
        by_cases h : x = 0
        · exact Or.inl h
        · exact Or.inr (by simpa using h)
      rcases key e1v rfl with h0 | h0
      all_goals
        first | subst h0 | skip
        clear key
        go_upto_region 12 with (first
          | (go_at_call 30; (with_reducible refine K9'.out.mono ?_); rintro e w7 ⟨vs, rfl, ho7, hb7⟩; obtain ⟨A7, c7, rfl, _, _, _⟩ := own_form ho7; have hs7 := (SMs.of_own ho7 (HM6.out.up hb7).fok).1; have HS7 := Lib.hid hs7; have HB7 := Lib.hid hb7; rw [HMN.out]; clear ho7 hs7 hb7)
          | (go_at_call 29; (with_reducible refine (maps_yes _ HMN.out (by omega) HS7.out (HM6.out.up HB7.out)).mono ?_); rintro e w8 ⟨rfl, hb8⟩; have HB8 := Lib.hid (below_on HB7.out hb8); clear hb8 r0 r1 r2 r3 r4 r5 yr; obtain ⟨r0, r1, r2, r3, r4, r5⟩ := six_cells (F6.out.up HB8.out).b; have yr := lt_heap (F6.out.up HB8.out).b)
          | (go_at_call 35; (with_reducible refine (KC1.out _ (F6.out.up HB8.out).l).mono ?_); rintro e w9 ⟨rfl, hb9⟩; have HB9 := Lib.hid (below_on HB8.out hb9); clear hb9 r0 r1 r2 r3 r4 r5 yr; obtain ⟨r0, r1, r2, r3, r4, r5⟩ := six_cells (F6.out.up HB9.out).b; have yr := lt_heap (F6.out.up HB9.out).b)
          | (go_at_call 35; (with_reducible refine (KC2.out _ (by first | trivial | rfl) (HM6.out.up HB9.out)).mono ?_); rintro e w10 ⟨rfl, hb10⟩; have HB10 := Lib.hid (below_on HB9.out hb10); clear hb10))
        first
          | (have HBX := Lib.hid HB10.out)
          | (have HBX := Lib.hid HB9.out)
        have FX := Lib.hid (F6.out.up HBX.out)
        have HBW := Lib.hid (below_on HB6.out HBX.out)
        first
          | (generalize hwB : w10 = wB at HBX FX HBW ⊢)
          | (generalize hwB : w9 = wB at HBX FX HBW ⊢)
        clear hwB r0 r1 r2 r3 r4 r5 yr HB7 HB8 HB9 HS7 K9' KC1 KC2 HZ F6 HB6 HM6 KS
        try clear HB10
        clear HBX
        go_loopw [8] (fun z wr => ∃ k : Nat, k ≤ ln ∧ z = .int .i64 k ∧ Below wB.heap.size wB wr) (fun z _ => ln - (intOf z).toNat)
        case atStart => exact ⟨0, Nat.zero_le _, rfl, Below.refl _ _⟩
        case round =>
          obtain ⟨k, hk, rfl, hbr⟩ := hrel
          have HBR := Lib.hid hbr
          have Fr := Lib.hid (FX.out.up hbr)
          clear hbr
          by_cases hlt : k < ln
          · obtain ⟨x, hx⟩ := get_someF (l := L) (k := k) (by rw [HLN.out]; exact hlt)
            have hmem := List.mem_of_getElem? hx
            obtain ⟨hx0, hx1⟩ := HBND.out x hmem
            have hfa := sl_fa hmem ms
            rw [HM.out] at hfa
            have hx0' : ¬ x < 0 := by omega
            have hx1' : ¬ (c.n : Int) ≤ x := by omega
            obtain ⟨gt, ot, rfl, hgt, hct⟩ := row_get Fr.out.r hx
            obtain ⟨F, hF⟩ : ∃ F, faF ms x = F := ⟨_, rfl⟩
            obtain ⟨b, hb⟩ : ∃ b, faB ms x = b := ⟨_, rfl⟩
            have KA := Lib.hid (fun (W : World) (h : SMs W A ms) => by
              have := fa_any (cap := cap) x W HN.out hN h
              rw [hF, hb] at this
              exact this)
            have KB := Lib.hid (fun (W : World) (h : SMs W AM M) => by
              have := fa_any (cap := cM) x W HMN.out (by omega) h
              rw [hfa.1, hfa.2, hF, hb] at this
              exact this)
            have HFK := Lib.hid (fun (W : World) (h : SMs W A ms) => show F.ok W by rw [← hF]; exact faF_ok h x)
            have hk0 : (0 : Int) ≤ (k : Int) := by omega
            have hk1 : (k : Int) < (ln : Int) := by omega
            obtain ⟨r0, r1, r2, r3, r4, r5⟩ := six_cells Fr.out.b
            have yr := lt_heap Fr.out.b
            have HPV := Lib.hid (show ∀ q, k = q + 1 → ∃ y, L[q]? = some y ∧ y < x from fun q hq => by
              subst hq
              have hq2 : q + 1 < L.length := get_ltF hx
              refine ⟨L[q], List.getElem?_eq_getElem (by omega), ?_⟩
              have h1 := (List.pairwise_iff_getElem.1 HSRT.out) q (q + 1) (by omega) hq2 (by omega)
              rw [List.getElem?_eq_getElem hq2] at hx
              rw [← Option.some.inj hx]
              exact h1)
            clear hF hb hfa hx hmem hx0 hx1
            have quiet : True := trivial
            clear quiet
            cases k with
            | zero =>
              rw [Int.natCast_zero] at hk0 hk1 ⊢
              rw [Nat.add_zero] at hct
              go_upto_region 14 with fail
              go_quiet (fail)
              have hbq : Below wr.heap.size wr (wr.drewN nq) := below_drV (Below.refl _ _) nq
              have HBQ := Lib.hid (below_on HBR.out hbq)
              have Fq := Lib.hid (Fr.out.up hbq)
              have cq := (hbq.cell (p := ⟨gt, ot, none⟩) hgt).trans hct
              have yq := Nat.lt_of_lt_of_le hgt hbq.size
              clear r0 r1 r2 r3 r4 r5 yr hct hgt
              generalize wr.drewN nq = wq at HBQ Fq cq yq ⊢
              clear hbq
              go_upto_region 17 with (go_at_call 24; (with_reducible refine (KA.out _ Fq.out.l).mono ?_); rintro e w11 ⟨rfl, hb11⟩)
              have hb12 := below_al hb11 (.cells #[.slice F.A1 F.n1 F.c1, .slice F.A2 F.n2 F.c2, .bool F.u] 49)
              have H12 := World.alloc_heap_new w11 (.cells #[.slice F.A1 F.n1 F.c1, .slice F.A2 F.n2 F.c2, .bool F.u] 49)
              have HBZ := Lib.hid (below_on HBQ.out hb12)
              have Fz := Lib.hid (Fq.out.up hb12)
              have cz := (hb12.cell (p := ⟨gt, ot, none⟩) yq).trans cq
              have yz := Nat.lt_of_lt_of_le yq hb12.size
              generalize hbf : w11.heap.size = bf at H12 ⊢
              generalize w11.alloc (.cells #[.slice F.A1 F.n1 F.c1, .slice F.A2 F.n2 F.c2, .bool F.u] 49) = W12 at H12 HBZ Fz cz yz ⊢
              have HF12 := Lib.hid H12
              clear hb11 hb12 cq yq Fq HBQ hbf H12
              have hm12 := Fz.out.m
              rw [HM.out] at hm12
              go_upto_region 18 with (go_at_call 24; (with_reducible refine (KB.out _ hm12).mono ?_); rintro e w13 ⟨rfl, hb13⟩)
              have hb14 := below_al hb13 (.cells #[.slice F.A1 F.n1 F.c1, .slice F.A2 F.n2 F.c2, .bool F.u] 49)
              have H14 := World.alloc_heap_new w13 (.cells #[.slice F.A1 F.n1 F.c1, .slice F.A2 F.n2 F.c2, .bool F.u] 49)
              have HBY := Lib.hid (below_on HBZ.out hb14)
              have Fy := Lib.hid (Fz.out.up hb14)
              have H15 := (hb14.block _ (lt_heap HF12.out)).trans HF12.out
              generalize hbh : w13.heap.size = bh at H14 ⊢
              generalize w13.alloc (.cells #[.slice F.A1 F.n1 F.c1, .slice F.A2 F.n2 F.c2, .bool F.u] 49) = W14 at H14 HBY Fy H15 ⊢
              clear hb13 hb14 cz yz Fz HBZ hbh hm12 HF12
              have hfk := HFK.out _ Fy.out.l
              have KE0 := reqM F F W14 hfk hfk
              rw [eqM_self] at KE0
              have KE := Lib.hid KE0
              obtain ⟨f0, f1, f2, _⟩ := three_cells H14
              obtain ⟨g0, g1, g2, _⟩ := three_cells H15
              have y14 := lt_heap H14
              have y15 := lt_heap H15
              clear KE0 hfk H14 H15 HFK KA KB
              cases b
              all_goals
                go_wp2_with (go_at_call 32; (with_reducible refine KE.out.mono ?_); rintro e w16 ⟨rfl, hb16⟩)
                exact ⟨⟨0 + 1, hlt, by go_num, below_on HBY.out hb16⟩, by simp [intOf]; omega⟩
            | succ q =>
              obtain ⟨y, hy, hyx⟩ := HPV.out q rfl
              obtain ⟨gu, ou, hgu, hgv, hcv⟩ := row_get Fr.out.r hy
              obtain ⟨rfl, rfl⟩ : gt = gu ∧ ot = ou := by injection hgu with h; injection h with h1 h2; exact ⟨h1, h2⟩
              have hyx' : ¬ x ≤ y := by omega
              have hw1 : IntKind.i64.wrap (q : Int) = (q : Int) := by simp [IntKind.wrap, IntKind.bits, IntKind.signed]; omega
              have hq0 : (0 : Int) ≤ (q : Int) := by omega
              have hq1 : (q : Int) < (ln : Int) := by omega
              have hgt0 : (0 : Int) < (q : Int) + 1 := by omega
              rw [Int.natCast_add, Int.natCast_one] at hk0 hk1 ⊢
              clear hy hgu hgv
              go_upto_region 14 with fail
              go_quiet (fail)
              have hbq : Below wr.heap.size wr (wr.drewN nq) := below_drV (Below.refl _ _) nq
              have HBQ := Lib.hid (below_on HBR.out hbq)
              have Fq := Lib.hid (Fr.out.up hbq)
              have cq := (hbq.cell (p := ⟨gt, ot + (q + 1), none⟩) hgt).trans hct
              have yq := Nat.lt_of_lt_of_le hgt hbq.size
              clear r0 r1 r2 r3 r4 r5 yr hct hgt hcv
              generalize wr.drewN nq = wq at HBQ Fq cq yq ⊢
              clear hbq
              go_upto_region 17 with (go_at_call 24; (with_reducible refine (KA.out _ Fq.out.l).mono ?_); rintro e w11 ⟨rfl, hb11⟩)
              have hb12 := below_al hb11 (.cells #[.slice F.A1 F.n1 F.c1, .slice F.A2 F.n2 F.c2, .bool F.u] 49)
              have H12 := World.alloc_heap_new w11 (.cells #[.slice F.A1 F.n1 F.c1, .slice F.A2 F.n2 F.c2, .bool F.u] 49)
              have HBZ := Lib.hid (below_on HBQ.out hb12)
              have Fz := Lib.hid (Fq.out.up hb12)
              have cz := (hb12.cell (p := ⟨gt, ot + (q + 1), none⟩) yq).trans cq
              have yz := Nat.lt_of_lt_of_le yq hb12.size
              generalize hbf : w11.heap.size = bf at H12 ⊢
              generalize w11.alloc (.cells #[.slice F.A1 F.n1 F.c1, .slice F.A2 F.n2 F.c2, .bool F.u] 49) = W12 at H12 HBZ Fz cz yz ⊢
              have HF12 := Lib.hid H12
              clear hb11 hb12 cq yq Fq HBQ hbf H12
              have hm12 := Fz.out.m
              rw [HM.out] at hm12
              go_upto_region 18 with (go_at_call 24; (with_reducible refine (KB.out _ hm12).mono ?_); rintro e w13 ⟨rfl, hb13⟩)
              have hb14 := below_al hb13 (.cells #[.slice F.A1 F.n1 F.c1, .slice F.A2 F.n2 F.c2, .bool F.u] 49)
              have H14 := World.alloc_heap_new w13 (.cells #[.slice F.A1 F.n1 F.c1, .slice F.A2 F.n2 F.c2, .bool F.u] 49)
              have HBY := Lib.hid (below_on HBZ.out hb14)
              have Fy := Lib.hid (Fz.out.up hb14)
              have H15 := (hb14.block _ (lt_heap HF12.out)).trans HF12.out
              generalize hbh : w13.heap.size = bh at H14 ⊢
              generalize w13.alloc (.cells #[.slice F.A1 F.n1 F.c1, .slice F.A2 F.n2 F.c2, .bool F.u] 49) = W14 at H14 HBY Fy H15 ⊢
              clear hb13 hb14 cz yz Fz HBZ hbh hm12 HF12
              have hfk := HFK.out _ Fy.out.l
              have KE0 := reqM F F W14 hfk hfk
              rw [eqM_self] at KE0
              have KE := Lib.hid KE0
              obtain ⟨f0, f1, f2, _⟩ := three_cells H14
              obtain ⟨g0, g1, g2, _⟩ := three_cells H15
              have y14 := lt_heap H14
              have y15 := lt_heap H15
              clear KE0 hfk H14 H15 HFK KA KB
              cases b
              all_goals
                go_wp2_with (go_at_call 32; (with_reducible refine KE.out.mono ?_); rintro e w16 ⟨rfl, hb16⟩)
                exact ⟨⟨q + 1 + 1, hlt, by go_num, below_on HBY.out hb16⟩, by simp [intOf]; omega⟩
          · obtain rfl : ln = k := by omega
            go_wp2_with (go_at_call 23; (with_reducible refine (AF.out _).mono ?_); rintro e w20 ⟨rfl, hb20⟩)
            go_ret
            exact ⟨rfl, below_on HBW.out (below_on HBR.out hb20)⟩
  · have KF := Lib.hid (fun (W : World) (hW : Below w.heap.size w W) => few22_any c W (OK.out.up hW) false (Or.inr ⟨rfl, hf⟩))
    clear hf
    go_enter Tryd.func9, Tryd.ntmps9
    go_upto_region 1 with fail
    have R := World.alloc_heap_new w (.cells #[.int .i64 c.st, .int .i64 c.lo, .slice c.iA c.n c.ic, .slice c.hA c.hn c.hc, .slice c.mA c.mn c.mc, .slice c.lA c.ln c.lc] 27)
    replace hB := below_al hB (.cells #[.int .i64 c.st, .int .i64 c.lo, .slice c.iA c.n c.ic, .slice c.hA c.hn c.hc, .slice c.mA c.mn c.mc, .slice c.lA c.ln c.lc] 27)
    generalize w.alloc (.cells #[.int .i64 c.st, .int .i64 c.lo, .slice c.iA c.n c.ic, .slice c.hA c.hn c.hc, .slice c.mA c.mn c.mc, .slice c.lA c.ln c.lc] 27) = W1 at R hB ⊢
    obtain ⟨r0, r1, r2, r3, r4, r5⟩ := six_cells R
    have y1 := lt_heap R
    replace R := Lib.hid R
    go_wp2_with (first | (go_at_call 22; (with_reducible refine (KF.out _ hB).mono ?_); rintro e w1 ⟨rfl, hb1⟩) | (go_at_call 23; (with_reducible refine (awake22_any _).mono ?_); rintro e w2 ⟨rfl, hb2⟩))
    go_ret
    exact ⟨rfl, below_on (below_on hB hb1) hb2⟩

end Go.Proofs.YtdppooflbjlbcaaDoor.I
