/- Layer 19: Successors. -/
import Derived.Test.YtpghkdmljanncaaFl
namespace Go.Proofs.Ytpghkdmljanncaa
open Go.ChangeShapes Go.WideShapes Go.ChangeAt Go.RowKit Go.PlainAid
set_option linter.unusedSimpArgs false
set_option linter.unusedVariables false

/-- a row that a call gathers since the world W -/
structure Nxt (W wr : World) (L : List Int) (v : Value) : Prop where
  own : wr.ownsRow W.heap.size 3 1 v L.length (Ri L)
  bel : Below W.heap.size W wr
theorem Nxt.up {W wr w2 : World} {L : List Int} {v : Value} (N : Nxt W wr L v) (h : Below wr.heap.size wr w2) : Nxt W w2 L v := ⟨own_below N.own h, below_on N.bel h⟩
theorem Nxt.add {W w2 w4 : World} {L : List Int} {v v' : Value} {t : Int} {o : Obj} (N : Nxt W w2 L v) (ho : w4.ownsRow W.heap.size 3 1 v' (L.length + 1) (Ri (L ++ [t]))) (hg : (w2.alloc o).grownBy w4 v.ownBlock) : Nxt W w4 (L ++ [t]) v' :=
  ⟨by rw [List.length_append]; exact ho, grown_own (below_al N.bel o) (N.own.alloc o) hg⟩
theorem Nxt.start {W : World} : Nxt W W [] (.slice none 0 0) := ⟨World.ownsRow_nil _ _ _ _, Below.refl _ _⟩
theorem Nxt.done {w W wr w' : World} {L : List Int} {v v' : Value} (hb : Below w.heap.size w W) (N : Nxt W wr L v) (ho : w'.ownsRow W.heap.size 3 1 v' (ordL L).length (Ri (ordL L))) (hg : wr.grownBy w' v.ownBlock) : IntsOwn w (ordL L) (.returned v') w' :=
  own_up hb ho (grown_own N.bel N.own hg)
set_option maxRecDepth 100000 in
set_option maxHeartbeats 4000000 in
theorem scs_any (c : Cd) (x : Int) (w : World) (hok : c.ok w) : Calls Try.prog 33 #[(Value.agg #[Value.int IntKind.i64 (Cd.st c), Value.int IntKind.i64 (Cd.lo c), Value.slice (Cd.iA c) (Cd.n c) (Cd.ic c), Value.slice (Cd.hA c) (Cd.hn c) (Cd.hc c), Value.slice (Cd.mA c) (Cd.mn c) (Cd.mc c), Value.slice (Cd.lA c) (Cd.ln c) (Cd.lc c)]), .int .i64 x] w (IntsOwn w (scL c x)) := by
  have hB : Below w.heap.size w w := Below.refl _ _
  have OK := Lib.hid hok
  clear hok
  cases hex : exB c.n x with
  | false =>
    have HX := Lib.hid hex
    have HS := Lib.hid (scL_no hex)
    clear hex
    go_enter Try.func33, Try.ntmps33
    go_upto_region 1 with fail
    have R := World.alloc_heap_new w (.cells #[.int .i64 c.st, .int .i64 c.lo, .slice c.iA c.n c.ic, .slice c.hA c.hn c.hc, .slice c.mA c.mn c.mc, .slice c.lA c.ln c.lc] 50)
    replace hB := below_al hB (.cells #[.int .i64 c.st, .int .i64 c.lo, .slice c.iA c.n c.ic, .slice c.hA c.hn c.hc, .slice c.mA c.mn c.mc, .slice c.lA c.ln c.lc] 50)
    generalize w.alloc (.cells #[.int .i64 c.st, .int .i64 c.lo, .slice c.iA c.n c.ic, .slice c.hA c.hn c.hc, .slice c.mA c.mn c.mc, .slice c.lA c.ln c.lc] 50) = W1 at R hB ⊢
    obtain ⟨r0, r1, r2, r3, r4, r5⟩ := six_cells R
    have y1 := lt_heap R
    replace R := Lib.hid R
    go_wp2_with (go_at_call 69; (with_reducible refine (ex_gen _ _).mono ?_); rintro e w1 ⟨rfl, hb1⟩; rw [HX.out])
    go_ret
    rw [HS.out]
    exact own_nil _ _ (below_on hB hb1)
  | true =>
    obtain ⟨hx0, hx1⟩ := ex_iff.1 hex
    have HX := Lib.hid hex
    obtain ⟨i, hi⟩ := get_someF (l := c.is) (k := x.toNat) (by rw [OK.out.il]; omega)
    have HS := Lib.hid (scL_yes hi hex)
    have HIM := Lib.hid (List.mem_of_getElem? hi)
    clear hex
    obtain ⟨k, rfl⟩ : ∃ k : Nat, x = (k : Int) := ⟨x.toNat, by omega⟩
    rw [Int.toNat_natCast] at hi
    have hcn := OK.out.ib
    have hw1 : IntKind.i64.wrap ((k : Int) + 1) = (k : Int) + 1 := by simp [IntKind.wrap, IntKind.bits, IntKind.signed]; omega
    go_enter Try.func33, Try.ntmps33
    go_upto_region 1 with fail
    have R := World.alloc_heap_new w (.cells #[.int .i64 c.st, .int .i64 c.lo, .slice c.iA c.n c.ic, .slice c.hA c.hn c.hc, .slice c.mA c.mn c.mc, .slice c.lA c.ln c.lc] 50)
    replace hB := below_al hB (.cells #[.int .i64 c.st, .int .i64 c.lo, .slice c.iA c.n c.ic, .slice c.hA c.hn c.hc, .slice c.mA c.mn c.mc, .slice c.lA c.ln c.lc] 50)
    generalize w.alloc (.cells #[.int .i64 c.st, .int .i64 c.lo, .slice c.iA c.n c.ic, .slice c.hA c.hn c.hc, .slice c.mA c.mn c.mc, .slice c.lA c.ln c.lc] 50) = W1 at R hB ⊢
    obtain ⟨r0, r1, r2, r3, r4, r5⟩ := six_cells R
    have y1 := lt_heap R
    replace R := Lib.hid R
    have OK1 := Lib.hid (OK.out.up hB)
    rcases OK1.out.iw with h0 | ⟨g, o, hA, hg, hcell⟩
    · rw [h0] at hi; simp at hi
    · obtain ⟨iok, a0, a1, a2, a3, a4, a5, a6, a7, a8, a9⟩ := hcell k _ hi
      have IOK := Lib.hid iok
      rw [hA] at r2
      clear hcell iok hi hA
      go_upto_region 4 with (go_at_call 69; (with_reducible refine (ex_gen _ _).mono ?_); rintro e w1 ⟨rfl, hb1⟩; rw [HX.out]; obtain ⟨hc1, hf1⟩ := bcell hb1; have hz1 := hb1.size)
      have hX2 := World.alloc_heap_new w1 (.cells #[.int .i64 i.op, .int .i64 i.a, .int .i64 i.b, .int .i64 i.t, .slice i.kA i.kn i.kc, .slice i.tA i.tn i.tc, .string i.r1, .string i.r2, .string i.r3, .string i.s] 26)
      have hR2 : (w1.alloc (.cells #[.int .i64 i.op, .int .i64 i.a, .int .i64 i.b, .int .i64 i.t, .slice i.kA i.kn i.kc, .slice i.tA i.tn i.tc, .string i.r1, .string i.r2, .string i.r3, .string i.s] 26)).heap[w.heap.size]? = _ := laid_old ((hb1.block _ y1).trans R.out)
      have IOK2 := Lib.hid (IOK.out.up (below_al hb1 (.cells #[.int .i64 i.op, .int .i64 i.a, .int .i64 i.b, .int .i64 i.t, .slice i.kA i.kn i.kc, .slice i.tA i.tn i.tc, .string i.r1, .string i.r2, .string i.r3, .string i.s] 26)))
      have hB2 := below_al (below_on hB hb1) (.cells #[.int .i64 i.op, .int .i64 i.a, .int .i64 i.b, .int .i64 i.t, .slice i.kA i.kn i.kc, .slice i.tA i.tn i.tc, .string i.r1, .string i.r2, .string i.r3, .string i.s] 26)
      generalize hbb : w1.heap.size = b at hX2 ⊢
      generalize w1.alloc (.cells #[.int .i64 i.op, .int .i64 i.a, .int .i64 i.b, .int .i64 i.t, .slice i.kA i.kn i.kc, .slice i.tA i.tn i.tc, .string i.r1, .string i.r2, .string i.r3, .string i.s] 26) = W2 at hX2 hR2 IOK2 hB2 ⊢
      have XB := Lib.hid hX2
      have RB := Lib.hid hR2
      have HB2 := Lib.hid hB2
      clear r0 r1 r2 r3 r4 r5 y1 R a0 a1 a2 a3 a4 a5 a6 a7 a8 a9 hc1 hf1 hz1 hb1 hbb hg IOK OK1 hB hX2 hR2 hB2
      clear w1 W1
      obtain ⟨b0, b1, b2, b3, b4, b5, b6, b7, b8, b9⟩ := ten_cells XB.out
      obtain ⟨r0, r1, r2, r3, r4, r5⟩ := six_cells RB.out
      have yb := lt_heap XB.out
      have yr := lt_heap RB.out
      have htl : i.ts.length ≤ 1000000 := by have := OK.out.tn i HIM.out; have := IOK2.out.2.2.2.2.1; omega
      cases hb : brB i.op with
      | false =>
        have HBR := Lib.hid hb
        have HT := Lib.hid (show tgL i = [] by unfold tgL; rw [hb]; rfl)
        clear hb
        go_upto_region 12 with (go_at_call 55; refine (br_any _ _).mono ?_; rintro e w' ⟨rfl, rfl⟩; rw [HBR.out])
        have HNX := Lib.hid (show Nxt W2 W2 ((tgL i).filter (exB c.n)) (.slice none 0 0) by rw [HT.out]; exact Nxt.start)
        have hWW : W2.heap.size ≤ W2.heap.size := Nat.le_refl _
        have HBW := Lib.hid (show Below w.heap.size w W2 from HB2.out)
        have hll : ((tgL i).filter (exB c.n)).length ≤ 1000001 := Nat.le_trans (List.length_filter_le _ _) (tgL_bd htl)
        cases hE : exB c.n ((k : Int) + 1) with
        | false =>
          have HE := Lib.hid hE
          have HNL := Lib.hid (show nxL c.n i k = (tgL i).filter (exB c.n) by unfold nxL; rw [hE]; simp)
          clear hE
          go_wp2_with (first | (go_at_call 69; (with_reducible refine (ex_gen _ _).mono ?_); rintro e w8 ⟨rfl, hb8⟩; rw [HE.out]; have HN8 := Lib.hid (HNX.out.up hb8); have hz8 := hb8.size; obtain ⟨hc8, hf8⟩ := bcell hb8) | (go_at_call 71; refine (ord_any HN8.out.own (by first | omega | (rw [List.length_append]; simp; omega))).mono ?_; rintro e w9 ⟨v9, rfl, ho9, hbk9, hg9⟩))
          go_ret
          rw [HS.out, HNL.out]
          exact Nxt.done HBW.out HN8.out ho9 hg9
        | true =>
          have HE := Lib.hid hE
          cases hT : termB i.op with
          | true =>
            have HTM := Lib.hid hT
            have HNL := Lib.hid (show nxL c.n i k = (tgL i).filter (exB c.n) by unfold nxL; rw [hT]; simp)
            clear hE hT
            go_wp2_with (first | (go_at_call 69; (with_reducible refine (ex_gen _ _).mono ?_); rintro e w8 ⟨rfl, hb8⟩; rw [HE.out]; have HN8 := Lib.hid (HNX.out.up hb8); have hz8 := hb8.size; obtain ⟨hc8, hf8⟩ := bcell hb8) | (go_at_call 70; refine (term_any _ _).mono ?_; rintro e w' ⟨rfl, rfl⟩; rw [HTM.out]) | (go_at_call 71; refine (ord_any HN8.out.own (by first | omega | (rw [List.length_append]; simp; omega))).mono ?_; rintro e w9 ⟨v9, rfl, ho9, hbk9, hg9⟩))
            go_ret
            rw [HS.out, HNL.out]
            exact Nxt.done HBW.out HN8.out ho9 hg9
          | false =>
            have HTM := Lib.hid hT
            have HNL := Lib.hid (show nxL c.n i k = (tgL i).filter (exB c.n) ++ [(k : Int) + 1] by unfold nxL; rw [hT, hE]; simp)
            clear hE hT
            go_wp2_with (first | (go_at_call 69; (with_reducible refine (ex_gen _ _).mono ?_); rintro e w8 ⟨rfl, hb8⟩; rw [HE.out]; have HN8 := Lib.hid (HNX.out.up hb8); have hz8 := hb8.size; obtain ⟨hc8, hf8⟩ := bcell hb8) | (go_at_call 70; refine (term_any _ _).mono ?_; rintro e w' ⟨rfl, rfl⟩; rw [HTM.out]) | (at_builtin; refine wpList_append_ints (by rfl) _ _ (by rfl) W2.heap.size _ 1 1 (w8.heap.size + 1) _ [(k : Int) + 1] _ _ (by rfl) (HN8.out.own.alloc _) (by rfl) (Row.one (ten_cell0 (new_at rfl)) (by omega)) rfl (fun h => by cases h) (by omega) (by have := HN8.out.bel.size; simp; omega) ?_; intro v7 w7 ho7 hg7; have HN7 := Lib.hid (HN8.out.add ho7 hg7)) | (go_at_call 71; refine (ord_any HN7.out.own (by first | omega | (rw [List.length_append]; simp; omega))).mono ?_; rintro e w9 ⟨v9, rfl, ho9, hbk9, hg9⟩))
            go_ret
            rw [HS.out, HNL.out]
            exact Nxt.done HBW.out HN7.out ho9 hg9
      | true =>
        have HBR := Lib.hid hb
        clear hb
        go_upto_region 7 with (first | (go_at_call 55; refine (br_any _ _).mono ?_; rintro e w' ⟨rfl, rfl⟩; rw [HBR.out]) | (go_at_call 19; refine (tg_any i _ IOK2.out (OK.out.nz i HIM.out) (OK.out.tn i HIM.out)).mono ?_; rintro e W3 ⟨A3, c3, rfl, hl3, hm3, hn3, hr3, hb3⟩))
        have HR3 := Lib.hid hr3
        have HBW := Lib.hid (below_on HB2.out hb3)
        have HXB := Lib.hid ((hb3.block _ (lt_heap XB.out)).trans XB.out)
        have HRB := Lib.hid ((hb3.block _ (lt_heap RB.out)).trans RB.out)
        have hz3 := hb3.size
        clear hr3 hb3 b0 b1 b2 b3 b4 b5 b6 b7 b8 b9 r0 r1 r2 r3 r4 r5 yb yr
        clear HB2 IOK2 XB RB
        have htt : (tgL i).length ≤ 1000001 := tgL_bd htl
        obtain ⟨T, hT⟩ : ∃ T, tgL i = T := ⟨_, rfl⟩
        rw [hT] at htt HR3 hl3
        have HT := Lib.hid hT
        rw [hT]
        obtain ⟨tn, htn⟩ : ∃ tn, T.length = tn := ⟨_, rfl⟩
        have HTN := Lib.hid htn
        rw [htn] at htt hl3 ⊢
        clear hT htn
        go_loopw [6, 24] (fun v z wr => ∃ j : Nat, j ≤ tn ∧ z = .int .i64 j ∧ Nxt W3 wr ((T.take j).filter (exB c.n)) v) (fun _ z _ => tn - (intOf z).toNat)
        case atStart => exact ⟨0, Nat.zero_le _, rfl, Nxt.start⟩
        case round =>
          obtain ⟨j, hj, rfl, N⟩ := hrel
          have HNX := Lib.hid N
          have hfl : ((T.take j).filter (exB c.n)).length ≤ tn := Nat.le_trans (List.length_filter_le _ _) (by rw [List.length_take, HTN.out]; exact Nat.min_le_right _ _)
          have XBr := Lib.hid ((N.bel.block _ (lt_heap HXB.out)).trans HXB.out)
          have RBr := Lib.hid ((N.bel.block _ (lt_heap HRB.out)).trans HRB.out)
          have HRr := Lib.hid (HR3.out.up N.bel)
          have hzr := N.bel.size
          clear N
          obtain ⟨b0, b1, b2, b3, b4, b5, b6, b7, b8, b9⟩ := ten_cells XBr.out
          obtain ⟨r0, r1, r2, r3, r4, r5⟩ := six_cells RBr.out
          have yb := lt_heap XBr.out
          have yr := lt_heap RBr.out
          by_cases hjt : j < tn
          · obtain ⟨t, ht⟩ := get_someF (l := T) (k := j) (by rw [HTN.out]; exact hjt)
            obtain ⟨gt, ot, rfl, hgt, hct⟩ := row_get HRr.out ht
            have hj0 : (0 : Int) ≤ (j : Int) := by omega
            have hj1 : (j : Int) < (tn : Int) := by omega
            have HTJ := Lib.hid ht
            clear ht
            cases hex : exB c.n t with
            | false =>
              have HET := Lib.hid hex
              clear hex
              go_wp2_with (go_at_call 69; (with_reducible refine (ex_gen _ _).mono ?_); rintro e w2 ⟨rfl, hb2⟩; rw [HET.out])
              exact ⟨⟨j + 1, hjt, by go_num, by rw [filter_snoc HTJ.out, HET.out]; simp only [Bool.false_eq_true, if_false, List.append_nil]; exact HNX.out.up hb2⟩, by simp [intOf]; omega⟩
            | true =>
              have HET := Lib.hid hex
              clear hex
              go_wp2_with (first | (go_at_call 69; (with_reducible refine (ex_gen _ _).mono ?_); rintro e w2 ⟨rfl, hb2⟩; rw [HET.out]; have HN2 := Lib.hid (HNX.out.up hb2); have hz2 := hb2.size) | (at_builtin; refine wpList_append_ints (by rfl) _ _ (by rfl) W3.heap.size _ 1 1 (w2.heap.size + 1) _ [t] _ _ (by rfl) (HN2.out.own.alloc _) (by rfl) (Row.one (ten_cell0 (new_at rfl)) (by omega)) rfl (fun h => by cases h) (by omega) (by have := HN2.out.bel.size; simp; omega) ?_; intro v4 w4 ho4 hg4))
              exact ⟨⟨j + 1, hjt, by go_num, by rw [filter_snoc HTJ.out, HET.out]; simp only [if_true]; exact HN2.out.add ho4 hg4⟩, by simp [intOf]; omega⟩
          · obtain ⟨rfl⟩ : tn = j := by omega
            have HNX := Lib.hid (show Nxt W3 wr ((tgL i).filter (exB c.n)) _ by have := HNX.out; rw [List.take_of_length_le (by rw [HTN.out]; exact Nat.le_refl _)] at this; rw [HT.out]; exact this)
            go_upto_region 12 with fail
            have hll : ((tgL i).filter (exB c.n)).length ≤ 1000001 := Nat.le_trans (List.length_filter_le _ _) (tgL_bd htl)
            cases hE : exB c.n ((k : Int) + 1) with
            | false =>
              have HE := Lib.hid hE
              have HNL := Lib.hid (show nxL c.n i k = (tgL i).filter (exB c.n) by unfold nxL; rw [hE]; simp)
              clear hE
              go_wp2_with (first | (go_at_call 69; (with_reducible refine (ex_gen _ _).mono ?_); rintro e w8 ⟨rfl, hb8⟩; rw [HE.out]; have HN8 := Lib.hid (HNX.out.up hb8); have hz8 := hb8.size; obtain ⟨hc8, hf8⟩ := bcell hb8) | (go_at_call 71; refine (ord_any HN8.out.own (by first | omega | (rw [List.length_append]; simp; omega))).mono ?_; rintro e w9 ⟨v9, rfl, ho9, hbk9, hg9⟩))
              go_ret
              rw [HS.out, HNL.out]
              exact Nxt.done HBW.out HN8.out ho9 hg9
            | true =>
              have HE := Lib.hid hE
              cases hT : termB i.op with
              | true =>
                have HTM := Lib.hid hT
                have HNL := Lib.hid (show nxL c.n i k = (tgL i).filter (exB c.n) by unfold nxL; rw [hT]; simp)
                clear hE hT
                go_wp2_with (first | (go_at_call 69; (with_reducible refine (ex_gen _ _).mono ?_); rintro e w8 ⟨rfl, hb8⟩; rw [HE.out]; have HN8 := Lib.hid (HNX.out.up hb8); have hz8 := hb8.size; obtain ⟨hc8, hf8⟩ := bcell hb8) | (go_at_call 70; refine (term_any _ _).mono ?_; rintro e w' ⟨rfl, rfl⟩; rw [HTM.out]) | (go_at_call 71; refine (ord_any HN8.out.own (by first | omega | (rw [List.length_append]; simp; omega))).mono ?_; rintro e w9 ⟨v9, rfl, ho9, hbk9, hg9⟩))
                go_ret
                rw [HS.out, HNL.out]
                exact Nxt.done HBW.out HN8.out ho9 hg9
              | false =>
                have HTM := Lib.hid hT
                have HNL := Lib.hid (show nxL c.n i k = (tgL i).filter (exB c.n) ++ [(k : Int) + 1] by unfold nxL; rw [hT, hE]; simp)
                clear hE hT
                go_wp2_with (first | (go_at_call 69; (with_reducible refine (ex_gen _ _).mono ?_); rintro e w8 ⟨rfl, hb8⟩; rw [HE.out]; have HN8 := Lib.hid (HNX.out.up hb8); have hz8 := hb8.size; obtain ⟨hc8, hf8⟩ := bcell hb8) | (go_at_call 70; refine (term_any _ _).mono ?_; rintro e w' ⟨rfl, rfl⟩; rw [HTM.out]) | (at_builtin; refine wpList_append_ints (by rfl) _ _ (by rfl) W3.heap.size _ 1 1 (w8.heap.size + 1) _ [(k : Int) + 1] _ _ (by rfl) (HN8.out.own.alloc _) (by rfl) (Row.one (ten_cell0 (new_at rfl)) (by omega)) rfl (fun h => by cases h) (by omega) (by have := HN8.out.bel.size; simp; omega) ?_; intro v7 w7 ho7 hg7; have HN7 := Lib.hid (HN8.out.add ho7 hg7)) | (go_at_call 71; refine (ord_any HN7.out.own (by first | omega | (rw [List.length_append]; simp; omega))).mono ?_; rintro e w9 ⟨v9, rfl, ho9, hbk9, hg9⟩))
                go_ret
                rw [HS.out, HNL.out]
                exact Nxt.done HBW.out HN7.out ho9 hg9

end Go.Proofs.Ytpghkdmljanncaa
