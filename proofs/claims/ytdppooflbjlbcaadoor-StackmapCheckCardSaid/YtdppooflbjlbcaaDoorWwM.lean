import Derived.Test.YtdppooflbjlbcaaDoorWhM

/- Wwa -/
/- Layer 22: the reference's Valid and places. -/
namespace Go.Proofs.YtdppooflbjlbcaaDoor.I
open Go.ChangeShapes Go.WideShapes Go.ChangeAt Go.RowKit Go.PlainAid
set_option linter.unusedSimpArgs false
set_option linter.unusedVariables false

theorem object_any (d b : Int) (s : ByteArray) (w : World) :
    Calls Tryd.prog 105 #[.agg #[.int .i64 d, .int .u8 b, .string s]] w fun e w' => e = .returned (.bool (decide (0 < d) || (b == 76))) ∧ Below w.heap.size w w' := by
  have hB : Below w.heap.size w w := Below.refl _ _
  go_enter Tryd.func105, Tryd.ntmps105
  go_wp2
  all_goals (go_ret; refine ⟨?_, (by repeat (first | with_reducible exact hB | with_reducible exact Below.refl _ _ | with_reducible refine below_al ?_ _ | with_reducible refine below_st ?_ (by first | exact Nat.le_refl _ | exact Nat.le_add_right _ _ | (simp; omega)) _))⟩; simp_all)
  all_goals (try trace_state)
set_option maxHeartbeats 2000000 in
theorem rvvalid_any (k n d b : Int) (s : ByteArray) (p : Int) (hs : s.size ≤ 9223372036854775807) (w : World) :
    Calls Tryd.prog 80 #[.agg #[.int .i64 k, .int .i64 n, .int .i64 d, .int .u8 b, .string s, .int .i64 p]] w fun e w' => e = .returned (.bool (vvB k n d b s p)) ∧ Below w.heap.size w w' := by
  have hB : Below w.heap.size w w := Below.refl _ _
  go_enter Tryd.func80, Tryd.ntmps80
  go_wp2_with (first | (go_at_call 104; refine (rvalid_any _ _ _ hs _).mono ?_; rintro e w1 ⟨rfl, hb1⟩; obtain ⟨hc1, hf1⟩ := bcell hb1; have hz1 := hb1.size; (try simp only [World.size_alloc, World.size_setCell] at hz1); (try have hza : w.heap.size < w1.heap.size := by omega); (try have hzb : w.heap.size + 1 < w1.heap.size := by omega); (try have hzc : w.heap.size + 1 + 1 < w1.heap.size := by omega); (try have hzd : wa.heap.size < w1.heap.size := by omega); (try replace hR := (hb1.block w.heap.size (by first | exact lt_heap hR | (have := lt_heap hR; simp; omega))).trans (by first | with_reducible exact hR | with_reducible exact laid_old hR)); replace hB := below_on (w := w) ((by repeat (first | with_reducible exact hB | with_reducible exact Below.refl _ _ | with_reducible refine below_al ?_ _ | with_reducible refine below_st ?_ (by first | exact Nat.le_refl _ | exact Nat.le_add_right _ _ | (simp; omega)) _))) hb1; clear hb1) | (go_at_call 105; refine (object_any _ _ _ _).mono ?_; rintro e w1 ⟨rfl, hb1⟩; obtain ⟨hc1, hf1⟩ := bcell hb1; have hz1 := hb1.size; (try simp only [World.size_alloc, World.size_setCell] at hz1); (try have hza : w.heap.size < w1.heap.size := by omega); (try have hzb : w.heap.size + 1 < w1.heap.size := by omega); (try have hzc : w.heap.size + 1 + 1 < w1.heap.size := by omega); (try have hzd : wa.heap.size < w1.heap.size := by omega); (try replace hR := (hb1.block w.heap.size (by first | exact lt_heap hR | (have := lt_heap hR; simp; omega))).trans (by first | with_reducible exact hR | with_reducible exact laid_old hR)); replace hB := below_on (w := w) ((by repeat (first | with_reducible exact hB | with_reducible exact Below.refl _ _ | with_reducible refine below_al ?_ _ | with_reducible refine below_st ?_ (by first | exact Nat.le_refl _ | exact Nat.le_add_right _ _ | (simp; omega)) _))) hb1; clear hb1))
  all_goals go_ret
  all_goals refine ⟨?_, (by repeat (first | with_reducible exact hB | with_reducible exact Below.refl _ _ | with_reducible refine below_al ?_ _ | with_reducible refine below_st ?_ (by first | exact Nat.le_refl _ | exact Nat.le_add_right _ _ | (simp; omega)) _))⟩
  all_goals (unfold vvB; simp_all)
  all_goals (first | omega | (intros; omega) | grind)
set_option maxRecDepth 100000 in
set_option maxHeartbeats 8000000 in
theorem plc_any {A2 : Option Addr} {m c2 : Nat} {P : List VT} (w : World) (hv : VS w w.heap.size A2 P) (hm : P.length = m) (hM : m ≤ 9223372036854775807) :
    Calls Tryd.prog 58 #[.slice A2 m c2] w fun e w' => e = .returned (.bool (!P.any wrB)) ∧ Below w.heap.size w w' := by
  have K := Lib.hid (fun (v : VT) (hs : v.s.size ≤ 9223372036854775807) (W : World) => show Calls Tryd.prog 80 #[(Value.agg #[Value.int IntKind.i64 (VT.k v), Value.int IntKind.i64 (VT.n v), Value.int IntKind.i64 (VT.d v), Value.int IntKind.u8 (VT.b v), Value.string (VT.s v), Value.int IntKind.i64 (VT.p v)])] W (fun e w' => e = .returned (.bool (!wrB v)) ∧ Below W.heap.size W w') by
    have := rvvalid_any v.k v.n v.d v.b v.s v.p hs W
    unfold wrB
    rw [Bool.not_not]
    exact this)
  have HP := Lib.hid hv
  have HN := Lib.hid hm
  clear hv hm
  go_enter Tryd.func58, Tryd.ntmps58
  go_wp2
  go_loopw [3] (fun z wr => ∃ k : Nat, k ≤ m ∧ z = .int .i64 k ∧ (P.take k).any wrB = false ∧ Below w.heap.size w wr) (fun z _ => m - (intOf z).toNat)
  case atStart => exact ⟨0, Nat.zero_le _, rfl, rfl, Below.refl _ _⟩
  case round =>
    obtain ⟨k, hk, rfl, hall, hb⟩ := hrel
    have HALL := Lib.hid hall
    have HB := Lib.hid hb
    have HPr := Lib.hid (HP.out.up hb)
    clear hall hb
    by_cases hlt : k < m
    · obtain ⟨v, hi⟩ := get_someF (l := P) (k := k) (by rw [HN.out]; exact hlt)
      obtain ⟨g, o, rfl, hg, a0, a1, a2, a3, a4, a5⟩ := HPr.out.six hi
      have HAT := Lib.hid (any_take (p := wrB) hi)
      have HOF := Lib.hid (any_of (p := wrB) hi)
      have KV := Lib.hid (K.out v (HP.out.2 v (List.mem_of_getElem? hi)))
      have hk0 : (0 : Int) ≤ (k : Int) := by omega
      have hk1 : (k : Int) < (m : Int) := by omega
      clear hi
      cases hc : wrB v with
      | true =>
        have HC := Lib.hid hc
        rw [hc] at KV
        clear hc
        go_wp2_with (go_at_call 80; (with_reducible refine (KV.out _).mono ?_); rintro e w2 ⟨rfl, hb2⟩)
        go_ret
        exact ⟨by rw [HOF.out HC.out]; rfl, below_on HB.out hb2⟩
      | false =>
        have HC := Lib.hid hc
        rw [hc] at KV
        clear hc
        go_wp2_with (go_at_call 80; (with_reducible refine (KV.out _).mono ?_); rintro e w2 ⟨rfl, hb2⟩)
        exact ⟨⟨k + 1, hlt, by go_num, by rw [HAT.out, HALL.out, HC.out]; rfl, below_on HB.out hb2⟩, by simp [intOf]; omega⟩
    · obtain rfl : m = k := by omega
      go_wp2
      go_ret
      exact ⟨by have h9 := HALL.out; rw [List.take_of_length_le (by rw [HN.out]; exact Nat.le_refl _)] at h9; rw [h9]; rfl, HB.out⟩
end Go.Proofs.YtdppooflbjlbcaaDoor.I

/- Wwb -/
/- Layer 22: Check of the reference. (Written by gen/wwb.py.) -/
namespace Go.Proofs.YtdppooflbjlbcaaDoor.I
open Go.ChangeShapes Go.WideShapes Go.ChangeAt Go.RowKit Go.PlainAid
set_option linter.unusedSimpArgs false
set_option linter.unusedVariables false

set_option maxRecDepth 100000 in
set_option maxHeartbeats 40000000 in
theorem rck_any {A : Option Addr} {n cap : Nat} {ms : List SM} (c : Cd) (w : World) (hn : ms.length = n) (hN : n ≤ 9223372036854775807) (hp : SMs w A ms) :
    Calls Tryd.prog 36 #[(Value.agg #[Value.int IntKind.i64 (Cd.st c), Value.int IntKind.i64 (Cd.lo c), Value.slice (Cd.iA c) (Cd.n c) (Cd.ic c), Value.slice (Cd.hA c) (Cd.hn c) (Cd.hc c), Value.slice (Cd.mA c) (Cd.mn c) (Cd.mc c), Value.slice (Cd.lA c) (Cd.ln c) (Cd.lc c)]), .slice A n cap] w fun e w' => e = .returned (.int .i64 (ckQ c ms)) ∧ Below w.heap.size w w' := by
  have hB : Below w.heap.size w w := Below.refl _ _
  have HP := Lib.hid hp
  have HN := Lib.hid hn
  clear hp hn
  obtain ⟨E, hE⟩ : ∃ E, ckQ c ms = E := ⟨_, rfl⟩
  have HE := Lib.hid hE
  rw [hE]
  clear hE
  go_enter Tryd.func36, Tryd.ntmps36
  go_upto_region 1 with fail
  have R := World.alloc_heap_new w (.cells #[.int .i64 c.st, .int .i64 c.lo, .slice c.iA c.n c.ic, .slice c.hA c.hn c.hc, .slice c.mA c.mn c.mc, .slice c.lA c.ln c.lc] 27)
  replace hB := below_al hB (.cells #[.int .i64 c.st, .int .i64 c.lo, .slice c.iA c.n c.ic, .slice c.hA c.hn c.hc, .slice c.mA c.mn c.mc, .slice c.lA c.ln c.lc] 27)
  generalize w.alloc (.cells #[.int .i64 c.st, .int .i64 c.lo, .slice c.iA c.n c.ic, .slice c.hA c.hn c.hc, .slice c.mA c.mn c.mc, .slice c.lA c.ln c.lc] 27) = W1 at R hB ⊢
  obtain ⟨r0, r1, r2, r3, r4, r5⟩ := six_cells R
  have y1 := lt_heap R
  replace R := Lib.hid R
  go_upto_region 1 with fail
  have HP1 := Lib.hid (HP.out.up hB)
  have HB := Lib.hid hB
  clear r0 r1 r2 r3 r4 r5 hB HP
  go_wp2
  go_loopw [5] (fun z wr => ∃ j : Nat, j ≤ n ∧ z = .int .i64 j ∧ (List.range j).any (ckP c ms) = false ∧ Below W1.heap.size W1 wr) (fun z _ => n - (intOf z).toNat)
  case atStart => exact ⟨0, Nat.zero_le _, rfl, rfl, Below.refl _ _⟩
  case round =>
    obtain ⟨j, hj, rfl, hall, hbr⟩ := hrel
    have HALL := Lib.hid hall
    have HBR := Lib.hid hbr
    have RBr := Lib.hid ((hbr.block _ y1).trans R.out)
    have hPr := HP1.out.up hbr
    clear hall hbr
    obtain ⟨r0, r1, r2, r3, r4, r5⟩ := six_cells RBr.out
    have yr := lt_heap RBr.out
    by_cases hlt : j < n
    · obtain ⟨m, hm⟩ := get_someF (l := ms) (k := j) (by rw [HN.out]; exact hlt)
      rcases hPr with h0 | ⟨g, o, rfl, hg, hcell⟩
      · rw [h0] at hm; simp at hm
      · obtain ⟨fok, a0, a1, a2, a3⟩ := hcell j m hm
        have hj0 : (0 : Int) ≤ (j : Int) := by omega
        have hj1 : (j : Int) < (n : Int) := by omega
        have FOK := Lib.hid fok
        have HCELL := Lib.hid hcell
        have HM := Lib.hid hm
        clear hcell fok
        go_upto_region 4 with fail
        by_cases hz : j = 0
        · have HSM := Lib.hid (show ckP c ms j = ckR c m by subst hz; exact ckP_0 (c := c) hm)
          have hgt : ¬ (0 : Int) < (j : Int) := by omega
          have hgn : ¬ 0 < j := by omega
          clear hm hz
          by_cases hB0 : m.x < 0
          · have H := Lib.hid (ckQ_bad HN.out hlt (by rw [HSM.out]; exact ckR_x (show exB c.n m.x = false by unfold exB; exact decide_eq_false (fun e => by omega))))
            clear HM
            go_quiet (fail)
            go_wp2
            go_ret
            exact ⟨by rw [← HE.out, H.out]; rfl, below_on HB.out (below_dr9S HBR.out _)⟩
          · by_cases hC0 : (c.n : Int) ≤ m.x
            · have H := Lib.hid (ckQ_bad HN.out hlt (by rw [HSM.out]; exact ckR_x (show exB c.n m.x = false by unfold exB; exact decide_eq_false (fun e => by omega))))
              clear HM
              go_quiet (fail)
              go_wp2
              go_ret
              exact ⟨by rw [← HE.out, H.out]; rfl, below_on HB.out (below_dr9S HBR.out _)⟩
            · have HX := Lib.hid (show exB c.n m.x = true from ex_iff.2 ⟨by omega, by omega⟩)
              go_quiet (fail)
              have HBD := Lib.hid (below_dr9S HBR.out nq)
              have RBD := Lib.hid (show (wr.drewN nq).heap[w.heap.size]? = _ from RBr.out)
              have HPD := Lib.hid (HP1.out.up HBD.out)
              have FOKD := Lib.hid (show m.f.ok (wr.drewN nq) from FOK.out.up (below_dr9S (Below.refl _ wr) nq))
              clear r0 r1 r2 r3 r4 r5 yr a0 a1 a2 a3 RBr
              generalize wr.drewN nq = wd at HBD RBD HPD FOKD ⊢
              have hat := HPD.out
              rcases hat with h0 | ⟨g9, o9, h9, hg9, hcell9⟩
              · have := HM.out; rw [h0] at this; simp at this
              injection h9 with h9; injection h9 with h9 h10 _; subst h9; subst h10
              obtain ⟨_, a0, a1, a2, a3⟩ := hcell9 _ m HM.out
              clear hcell9
              go_upto_region 7 with fail
              have h0v := World.alloc_heap_new wd (.cells #[.slice m.f.A1 m.f.n1 m.f.c1, .slice m.f.A2 m.f.n2 m.f.c2, .bool m.f.u] 49)
              have hbl := below_al (Below.refl _ wd) (.cells #[.slice m.f.A1 m.f.n1 m.f.c1, .slice m.f.A2 m.f.n2 m.f.c2, .bool m.f.u] 49)
              have hR2 := (hbl.block _ (lt_heap RBD.out)).trans RBD.out
              generalize hbb : wd.heap.size = b at h0v ⊢
              generalize wd.alloc (.cells #[.slice m.f.A1 m.f.n1 m.f.c1, .slice m.f.A2 m.f.n2 m.f.c2, .bool m.f.u] 49) = W2 at h0v hbl hR2 ⊢
              have HB2 := Lib.hid (below_on HBD.out hbl)
              have YB := Lib.hid h0v
              have RB2 := Lib.hid hR2
              have FOK2 := Lib.hid (FOKD.out.up hbl)
              clear h0v hR2 hbl a0 a1 a2 a3 hbb
              obtain ⟨r1v, hr1⟩ : ∃ r, m.f.P.any wrB = r := ⟨_, rfl⟩
              obtain ⟨r2v, hr2⟩ : ∃ r, m.f.Q.any wrB = r := ⟨_, rfl⟩
              have K1 := Lib.hid (fun (W : World) (hW : Below W2.heap.size W2 W) => by
                  have := plc_any (c2 := m.f.c1) W (FOK2.out.up hW).vp FOK2.out.lp (Nat.le_trans FOK2.out.l1 FOK2.out.x1)
                  rw [hr1] at this
                  exact this)
              have K2 := Lib.hid (fun (W : World) (hW : Below W2.heap.size W2 W) => by
                  have := plc_any (c2 := m.f.c2) W (FOK2.out.up hW).vq FOK2.out.lq (Nat.le_trans FOK2.out.l2 FOK2.out.x2)
                  rw [hr2] at this
                  exact this)
              have HRR1 := Lib.hid hr1
              have HRR2 := Lib.hid hr2
              clear hr1 hr2
              obtain ⟨r0, r1, r2, r3, r4, r5⟩ := six_cells RB2.out
              obtain ⟨f0, f1, f2, _⟩ := three_cells YB.out
              have yr := lt_heap RB2.out
              have yf := lt_heap YB.out
              cases hD : ((m.f.n1 : Int) != c.lo) with
              | true =>
                have H := Lib.hid (ckQ_bad HN.out hlt (by rw [HSM.out]; exact ckR_d hD))
                clear HM
                go_wp2
                go_ret
                exact ⟨by rw [← HE.out, H.out]; rfl, below_on HB.out (HB2.out)⟩
              | false =>
                by_cases hE0 : c.st < (m.f.n2 : Int)
                · have H := Lib.hid (ckQ_bad HN.out hlt (by rw [HSM.out]; exact ckR_e hE0))
                  clear HM
                  go_wp2
                  go_ret
                  exact ⟨by rw [← HE.out, H.out]; rfl, below_on HB.out (HB2.out)⟩
                · have HVAL := Lib.hid (ckR_o HX.out hD hE0 HRR1.out HRR2.out)
                  cases r1v with
                  | true =>
                    have H := Lib.hid (ckQ_bad HN.out hlt (by rw [HSM.out]; exact HVAL.out))
                    clear HM
                    go_wp2_with (go_at_call 58; (with_reducible refine (K1.out _ (Below.refl _ _)).mono ?_); rintro e w3 ⟨rfl, hb3⟩; have yr3 := Nat.lt_of_lt_of_le yr hb3.size; have yf3 := Nat.lt_of_lt_of_le yf hb3.size; clear r0 r1 r2 r3 r4 r5 f0 f1 f2; have hrr := (hb3.block _ yr).trans RB2.out; obtain ⟨r0, r1, r2, r3, r4, r5⟩ := six_cells hrr; have hff := (hb3.block _ yf).trans YB.out; obtain ⟨f0, f1, f2, _⟩ := three_cells hff)
                    go_ret
                    exact ⟨by rw [← HE.out, H.out]; rfl, below_on HB.out (below_on HB2.out hb3)⟩
                  | false =>
                    cases r2v with
                    | true =>
                      have H := Lib.hid (ckQ_bad HN.out hlt (by rw [HSM.out]; exact HVAL.out))
                      clear HM
                      go_wp2_with (first | (go_at_call 58; (with_reducible refine (K1.out _ (Below.refl _ _)).mono ?_); rintro e w3 ⟨rfl, hb3⟩; have yr3 := Nat.lt_of_lt_of_le yr hb3.size; have yf3 := Nat.lt_of_lt_of_le yf hb3.size; clear r0 r1 r2 r3 r4 r5 f0 f1 f2; have hrr := (hb3.block _ yr).trans RB2.out; obtain ⟨r0, r1, r2, r3, r4, r5⟩ := six_cells hrr; have hff := (hb3.block _ yf).trans YB.out; obtain ⟨f0, f1, f2, _⟩ := three_cells hff) | (go_at_call 58; (with_reducible refine (K2.out _ hb3).mono ?_); rintro e w4 ⟨rfl, hb4⟩))
                      go_ret
                      exact ⟨by rw [← HE.out, H.out]; rfl, below_on HB.out (below_on HB2.out (below_on hb3 hb4))⟩
                    | false =>
                      have HS := Lib.hid (rk_succ HALL.out (by rw [HSM.out]; exact HVAL.out))
                      clear HM
                      go_wp2_with (first | (go_at_call 58; (with_reducible refine (K1.out _ (Below.refl _ _)).mono ?_); rintro e w3 ⟨rfl, hb3⟩; have yr3 := Nat.lt_of_lt_of_le yr hb3.size; have yf3 := Nat.lt_of_lt_of_le yf hb3.size; clear r0 r1 r2 r3 r4 r5 f0 f1 f2; have hrr := (hb3.block _ yr).trans RB2.out; obtain ⟨r0, r1, r2, r3, r4, r5⟩ := six_cells hrr; have hff := (hb3.block _ yf).trans YB.out; obtain ⟨f0, f1, f2, _⟩ := three_cells hff) | (go_at_call 58; (with_reducible refine (K2.out _ hb3).mono ?_); rintro e w4 ⟨rfl, hb4⟩))
                      exact ⟨⟨_, hlt, by go_num, HS.out, below_on HB2.out (below_on hb3 hb4)⟩, by simp [intOf]; omega⟩
        · obtain ⟨q, hq⟩ : ∃ q, j = q + 1 := ⟨j - 1, by omega⟩
          obtain ⟨p, hpp⟩ := get_someF (l := ms) (k := q) (by rw [HN.out]; omega)
          obtain ⟨_, e0, _⟩ := HCELL.out q p hpp
          have HSM := Lib.hid (show ckP c ms j = (decide (m.x ≤ p.x) || ckR c m) by subst hq; exact ckP_s (c := c) hm hpp)
          have hw1 : IntKind.i64.wrap ((j : Int) - 1) = (q : Int) := by subst hq; simp [IntKind.wrap, IntKind.bits, IntKind.signed]; omega
          have hq0 : (0 : Int) ≤ (q : Int) := by omega
          have hq1 : (q : Int) < (n : Int) := by omega
          have hgt : (0 : Int) < (j : Int) := by omega
          have hgn : 0 < j := by omega
          clear hm hpp hz hq
          by_cases hle : m.x ≤ p.x
          · have H := Lib.hid (ckQ_bad HN.out hlt (by rw [HSM.out, decide_eq_true hle]; rfl))
            clear HM
            go_quiet (fail)
            go_wp2
            go_ret
            exact ⟨by rw [← HE.out, H.out]; rfl, below_on HB.out (below_dr9S HBR.out _)⟩
          · by_cases hB0 : m.x < 0
            · have H := Lib.hid (ckQ_bad HN.out hlt (by rw [HSM.out, decide_eq_false hle]; exact ckR_x (show exB c.n m.x = false by unfold exB; exact decide_eq_false (fun e => by omega))))
              clear HM
              go_quiet (fail)
              go_wp2
              go_ret
              exact ⟨by rw [← HE.out, H.out]; rfl, below_on HB.out (below_dr9S HBR.out _)⟩
            · by_cases hC0 : (c.n : Int) ≤ m.x
              · have H := Lib.hid (ckQ_bad HN.out hlt (by rw [HSM.out, decide_eq_false hle]; exact ckR_x (show exB c.n m.x = false by unfold exB; exact decide_eq_false (fun e => by omega))))
                clear HM
                go_quiet (fail)
                go_wp2
                go_ret
                exact ⟨by rw [← HE.out, H.out]; rfl, below_on HB.out (below_dr9S HBR.out _)⟩
              · have HX := Lib.hid (show exB c.n m.x = true from ex_iff.2 ⟨by omega, by omega⟩)
                go_quiet (fail)
                have HBD := Lib.hid (below_dr9S HBR.out nq)
                have RBD := Lib.hid (show (wr.drewN nq).heap[w.heap.size]? = _ from RBr.out)
                have HPD := Lib.hid (HP1.out.up HBD.out)
                have FOKD := Lib.hid (show m.f.ok (wr.drewN nq) from FOK.out.up (below_dr9S (Below.refl _ wr) nq))
                clear r0 r1 r2 r3 r4 r5 yr a0 a1 a2 a3 RBr e0
                generalize wr.drewN nq = wd at HBD RBD HPD FOKD ⊢
                have hat := HPD.out
                rcases hat with h0 | ⟨g9, o9, h9, hg9, hcell9⟩
                · have := HM.out; rw [h0] at this; simp at this
                injection h9 with h9; injection h9 with h9 h10 _; subst h9; subst h10
                obtain ⟨_, a0, a1, a2, a3⟩ := hcell9 _ m HM.out
                clear hcell9
                go_upto_region 7 with fail
                have h0v := World.alloc_heap_new wd (.cells #[.slice m.f.A1 m.f.n1 m.f.c1, .slice m.f.A2 m.f.n2 m.f.c2, .bool m.f.u] 49)
                have hbl := below_al (Below.refl _ wd) (.cells #[.slice m.f.A1 m.f.n1 m.f.c1, .slice m.f.A2 m.f.n2 m.f.c2, .bool m.f.u] 49)
                have hR2 := (hbl.block _ (lt_heap RBD.out)).trans RBD.out
                generalize hbb : wd.heap.size = b at h0v ⊢
                generalize wd.alloc (.cells #[.slice m.f.A1 m.f.n1 m.f.c1, .slice m.f.A2 m.f.n2 m.f.c2, .bool m.f.u] 49) = W2 at h0v hbl hR2 ⊢
                have HB2 := Lib.hid (below_on HBD.out hbl)
                have YB := Lib.hid h0v
                have RB2 := Lib.hid hR2
                have FOK2 := Lib.hid (FOKD.out.up hbl)
                clear h0v hR2 hbl a0 a1 a2 a3 hbb
                obtain ⟨r1v, hr1⟩ : ∃ r, m.f.P.any wrB = r := ⟨_, rfl⟩
                obtain ⟨r2v, hr2⟩ : ∃ r, m.f.Q.any wrB = r := ⟨_, rfl⟩
                have K1 := Lib.hid (fun (W : World) (hW : Below W2.heap.size W2 W) => by
                    have := plc_any (c2 := m.f.c1) W (FOK2.out.up hW).vp FOK2.out.lp (Nat.le_trans FOK2.out.l1 FOK2.out.x1)
                    rw [hr1] at this
                    exact this)
                have K2 := Lib.hid (fun (W : World) (hW : Below W2.heap.size W2 W) => by
                    have := plc_any (c2 := m.f.c2) W (FOK2.out.up hW).vq FOK2.out.lq (Nat.le_trans FOK2.out.l2 FOK2.out.x2)
                    rw [hr2] at this
                    exact this)
                have HRR1 := Lib.hid hr1
                have HRR2 := Lib.hid hr2
                clear hr1 hr2
                obtain ⟨r0, r1, r2, r3, r4, r5⟩ := six_cells RB2.out
                obtain ⟨f0, f1, f2, _⟩ := three_cells YB.out
                have yr := lt_heap RB2.out
                have yf := lt_heap YB.out
                cases hD : ((m.f.n1 : Int) != c.lo) with
                | true =>
                  have H := Lib.hid (ckQ_bad HN.out hlt (by rw [HSM.out, decide_eq_false hle]; exact ckR_d hD))
                  clear HM
                  go_wp2
                  go_ret
                  exact ⟨by rw [← HE.out, H.out]; rfl, below_on HB.out (HB2.out)⟩
                | false =>
                  by_cases hE0 : c.st < (m.f.n2 : Int)
                  · have H := Lib.hid (ckQ_bad HN.out hlt (by rw [HSM.out, decide_eq_false hle]; exact ckR_e hE0))
                    clear HM
                    go_wp2
                    go_ret
                    exact ⟨by rw [← HE.out, H.out]; rfl, below_on HB.out (HB2.out)⟩
                  · have HVAL := Lib.hid (ckR_o HX.out hD hE0 HRR1.out HRR2.out)
                    cases r1v with
                    | true =>
                      have H := Lib.hid (ckQ_bad HN.out hlt (by rw [HSM.out, decide_eq_false hle]; exact HVAL.out))
                      clear HM
                      go_wp2_with (go_at_call 58; (with_reducible refine (K1.out _ (Below.refl _ _)).mono ?_); rintro e w3 ⟨rfl, hb3⟩; have yr3 := Nat.lt_of_lt_of_le yr hb3.size; have yf3 := Nat.lt_of_lt_of_le yf hb3.size; clear r0 r1 r2 r3 r4 r5 f0 f1 f2; have hrr := (hb3.block _ yr).trans RB2.out; obtain ⟨r0, r1, r2, r3, r4, r5⟩ := six_cells hrr; have hff := (hb3.block _ yf).trans YB.out; obtain ⟨f0, f1, f2, _⟩ := three_cells hff)
                      go_ret
                      exact ⟨by rw [← HE.out, H.out]; rfl, below_on HB.out (below_on HB2.out hb3)⟩
                    | false =>
                      cases r2v with
                      | true =>
                        have H := Lib.hid (ckQ_bad HN.out hlt (by rw [HSM.out, decide_eq_false hle]; exact HVAL.out))
                        clear HM
                        go_wp2_with (first | (go_at_call 58; (with_reducible refine (K1.out _ (Below.refl _ _)).mono ?_); rintro e w3 ⟨rfl, hb3⟩; have yr3 := Nat.lt_of_lt_of_le yr hb3.size; have yf3 := Nat.lt_of_lt_of_le yf hb3.size; clear r0 r1 r2 r3 r4 r5 f0 f1 f2; have hrr := (hb3.block _ yr).trans RB2.out; obtain ⟨r0, r1, r2, r3, r4, r5⟩ := six_cells hrr; have hff := (hb3.block _ yf).trans YB.out; obtain ⟨f0, f1, f2, _⟩ := three_cells hff) | (go_at_call 58; (with_reducible refine (K2.out _ hb3).mono ?_); rintro e w4 ⟨rfl, hb4⟩))
                        go_ret
                        exact ⟨by rw [← HE.out, H.out]; rfl, below_on HB.out (below_on HB2.out (below_on hb3 hb4))⟩
                      | false =>
                        have HS := Lib.hid (rk_succ HALL.out (by rw [HSM.out, decide_eq_false hle]; exact HVAL.out))
                        clear HM
                        go_wp2_with (first | (go_at_call 58; (with_reducible refine (K1.out _ (Below.refl _ _)).mono ?_); rintro e w3 ⟨rfl, hb3⟩; have yr3 := Nat.lt_of_lt_of_le yr hb3.size; have yf3 := Nat.lt_of_lt_of_le yf hb3.size; clear r0 r1 r2 r3 r4 r5 f0 f1 f2; have hrr := (hb3.block _ yr).trans RB2.out; obtain ⟨r0, r1, r2, r3, r4, r5⟩ := six_cells hrr; have hff := (hb3.block _ yf).trans YB.out; obtain ⟨f0, f1, f2, _⟩ := three_cells hff) | (go_at_call 58; (with_reducible refine (K2.out _ hb3).mono ?_); rintro e w4 ⟨rfl, hb4⟩))
                        exact ⟨⟨_, hlt, by go_num, HS.out, below_on HB2.out (below_on hb3 hb4)⟩, by simp [intOf]; omega⟩
    · obtain rfl : n = j := by omega
      have H := Lib.hid (ckQ_ok HN.out HALL.out)
      go_wp2
      go_ret
      exact ⟨by rw [← HE.out, H.out]; rfl, below_on HB.out HBR.out⟩
end Go.Proofs.YtdppooflbjlbcaaDoor.I
