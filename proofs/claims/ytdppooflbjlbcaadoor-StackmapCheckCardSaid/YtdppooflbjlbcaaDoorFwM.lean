import Derived.Test.YtdppooflbjlbcaaDoorFl
import Derived.Test.YtdppooflbjlbcaaDoorMk
import Derived.Test.YtdppooflbjlbcaaDoorOpcRef
import Derived.Deep.RegionLaw
import Derived.ArgAppend
import Derived.Laws.OwnMore
import Derived.Deep.LoopGhost
import Derived.Test.YtdppooflbjlbcaaDoorReg
import Derived.BigQuiet
import Derived.Laws.EntriesVeiled

/- Fs -/
/- Layer 19: Successors. -/
namespace Go.Proofs.YtdppooflbjlbcaaDoor.I
open Go.ChangeShapes Go.WideShapes Go.ChangeAt Go.RowKit Go.PlainAid
set_option linter.unusedSimpArgs false
set_option linter.unusedVariables false

theorem Nxt.done {w W wr w' : World} {L : List Int} {v v' : Value} (hb : Below w.heap.size w W) (N : Nxt W wr L v) (ho : w'.ownsRow W.heap.size 3 1 v' (ordL L).length (Ri (ordL L))) (hg : wr.grownBy w' v.ownBlock) : IntsOwn w (ordL L) (.returned v') w' :=
  own_up hb ho (grown_own N.bel N.own hg)
set_option maxRecDepth 100000 in
set_option maxHeartbeats 4000000 in
theorem scs_any (c : Cd) (x : Int) (w : World) (hok : c.ok w) : Calls Tryd.prog 98 #[(Value.agg #[Value.int IntKind.i64 (Cd.st c), Value.int IntKind.i64 (Cd.lo c), Value.slice (Cd.iA c) (Cd.n c) (Cd.ic c), Value.slice (Cd.hA c) (Cd.hn c) (Cd.hc c), Value.slice (Cd.mA c) (Cd.mn c) (Cd.mc c), Value.slice (Cd.lA c) (Cd.ln c) (Cd.lc c)]), .int .i64 x] w (IntsOwn w (scL c x)) := by
  have hB : Below w.heap.size w w := Below.refl _ _
  have OK := Lib.hid hok
  clear hok
  cases hex : exB c.n x with
  | false =>
    have HX := Lib.hid hex
    have HS := Lib.hid (scL_no hex)
    clear hex
    go_enter Tryd.func98, Tryd.ntmps98
    go_upto_region 1 with fail
    have R := World.alloc_heap_new w (.cells #[.int .i64 c.st, .int .i64 c.lo, .slice c.iA c.n c.ic, .slice c.hA c.hn c.hc, .slice c.mA c.mn c.mc, .slice c.lA c.ln c.lc] 27)
    replace hB := below_al hB (.cells #[.int .i64 c.st, .int .i64 c.lo, .slice c.iA c.n c.ic, .slice c.hA c.hn c.hc, .slice c.mA c.mn c.mc, .slice c.lA c.ln c.lc] 27)
    generalize w.alloc (.cells #[.int .i64 c.st, .int .i64 c.lo, .slice c.iA c.n c.ic, .slice c.hA c.hn c.hc, .slice c.mA c.mn c.mc, .slice c.lA c.ln c.lc] 27) = W1 at R hB ⊢
    obtain ⟨r0, r1, r2, r3, r4, r5⟩ := six_cells R
    have y1 := lt_heap R
    replace R := Lib.hid R
    go_wp2_with (go_at_call 123; (with_reducible refine (ex_gen _ _).mono ?_); rintro e w1 ⟨rfl, hb1⟩; rw [HX.out])
    go_ret
    rw [HS.out]
    exact own_nil _ _ (below_on hB hb1)
  | true =>
    obtain ⟨hx0, hx1⟩ := ex_iff.1 hex
    have HX := Lib.hid hex
    obtain ⟨i, hi⟩ := get_someF (l := c.is) (k := x.toNat) (by rw [OK.out.il]; omega)
    have HS := Lib.hid (scL_yes hi hex)
    have HIM := Lib.hid (List.mem_of_getElem? hi)
    clear hex
    obtain ⟨k, rfl⟩ : ∃ k : Nat, x = (k : Int) := ⟨x.toNat, by omega⟩
    rw [Int.toNat_natCast] at hi
    have hcn := OK.out.ib
    have hw1 : IntKind.i64.wrap ((k : Int) + 1) = (k : Int) + 1 := by simp [IntKind.wrap, IntKind.bits, IntKind.signed]; omega
    go_enter Tryd.func98, Tryd.ntmps98
    go_upto_region 1 with fail
    have R := World.alloc_heap_new w (.cells #[.int .i64 c.st, .int .i64 c.lo, .slice c.iA c.n c.ic, .slice c.hA c.hn c.hc, .slice c.mA c.mn c.mc, .slice c.lA c.ln c.lc] 27)
    replace hB := below_al hB (.cells #[.int .i64 c.st, .int .i64 c.lo, .slice c.iA c.n c.ic, .slice c.hA c.hn c.hc, .slice c.mA c.mn c.mc, .slice c.lA c.ln c.lc] 27)
    generalize w.alloc (.cells #[.int .i64 c.st, .int .i64 c.lo, .slice c.iA c.n c.ic, .slice c.hA c.hn c.hc, .slice c.mA c.mn c.mc, .slice c.lA c.ln c.lc] 27) = W1 at R hB ⊢
    obtain ⟨r0, r1, r2, r3, r4, r5⟩ := six_cells R
    have y1 := lt_heap R
    replace R := Lib.hid R
    have OK1 := Lib.hid (OK.out.up hB)
    rcases OK1.out.iw with h0 | ⟨g, o, hA, hg, hcell⟩
    · rw [h0] at hi; simp at hi
    · obtain ⟨iok, a0, a1, a2, a3, a4, a5, a6, a7, a8, a9⟩ := hcell k _ hi
      have IOK := Lib.hid iok
      rw [hA] at r2
      clear hcell iok hi hA
      go_upto_region 4 with (go_at_call 123; (with_reducible refine (ex_gen _ _).mono ?_); rintro e w1 ⟨rfl, hb1⟩; rw [HX.out]; obtain ⟨hc1, hf1⟩ := bcell hb1; have hz1 := hb1.size)
      have hX2 := World.alloc_heap_new w1 (.cells #[.int .i64 i.op, .int .i64 i.a, .int .i64 i.b, .int .i64 i.t, .slice i.kA i.kn i.kc, .slice i.tA i.tn i.tc, .string i.r1, .string i.r2, .string i.r3, .string i.s] 43)
      have hR2 : (w1.alloc (.cells #[.int .i64 i.op, .int .i64 i.a, .int .i64 i.b, .int .i64 i.t, .slice i.kA i.kn i.kc, .slice i.tA i.tn i.tc, .string i.r1, .string i.r2, .string i.r3, .string i.s] 43)).heap[w.heap.size]? = _ := laid_old ((hb1.block _ y1).trans R.out)
      have IOK2 := Lib.hid (IOK.out.up (below_al hb1 (.cells #[.int .i64 i.op, .int .i64 i.a, .int .i64 i.b, .int .i64 i.t, .slice i.kA i.kn i.kc, .slice i.tA i.tn i.tc, .string i.r1, .string i.r2, .string i.r3, .string i.s] 43)))
      have hB2 := below_al (below_on hB hb1) (.cells #[.int .i64 i.op, .int .i64 i.a, .int .i64 i.b, .int .i64 i.t, .slice i.kA i.kn i.kc, .slice i.tA i.tn i.tc, .string i.r1, .string i.r2, .string i.r3, .string i.s] 43)
      generalize hbb : w1.heap.size = b at hX2 ⊢
      generalize w1.alloc (.cells #[.int .i64 i.op, .int .i64 i.a, .int .i64 i.b, .int .i64 i.t, .slice i.kA i.kn i.kc, .slice i.tA i.tn i.tc, .string i.r1, .string i.r2, .string i.r3, .string i.s] 43) = W2 at hX2 hR2 IOK2 hB2 ⊢
      have XB := Lib.hid hX2
      have RB := Lib.hid hR2
      have HB2 := Lib.hid hB2
      clear r0 r1 r2 r3 r4 r5 y1 R a0 a1 a2 a3 a4 a5 a6 a7 a8 a9 hc1 hf1 hz1 hb1 hbb hg IOK OK1 hB hX2 hR2 hB2
      clear w1 W1
      obtain ⟨b0, b1, b2, b3, b4, b5, b6, b7, b8, b9⟩ := ten_cells XB.out
      obtain ⟨r0, r1, r2, r3, r4, r5⟩ := six_cells RB.out
      have yb := lt_heap XB.out
      have yr := lt_heap RB.out
      have htl : i.ts.length ≤ 1000000 := by have := OK.out.tn i HIM.out; have := IOK2.out.2.2.2.2.1; omega
      cases hb : brB i.op with
      | false =>
        have HBR := Lib.hid hb
        have HT := Lib.hid (show tgL i = [] by unfold tgL; rw [hb]; rfl)
        clear hb
        go_upto_region 12 with (go_at_call 21; refine (br_any _ _).mono ?_; rintro e w' ⟨rfl, rfl⟩; rw [HBR.out])
        have HNX := Lib.hid (show Nxt W2 W2 ((tgL i).filter (exB c.n)) (.slice none 0 0) by rw [HT.out]; exact Nxt.start)
        have hWW : W2.heap.size ≤ W2.heap.size := Nat.le_refl _
        have HBW := Lib.hid (show Below w.heap.size w W2 from HB2.out)
        have hll : ((tgL i).filter (exB c.n)).length ≤ 1000001 := Nat.le_trans (List.length_filter_le _ _) (tgL_bd htl)
        cases hE : exB c.n ((k : Int) + 1) with
        | false =>
          have HE := Lib.hid hE
          have HNL := Lib.hid (show nxL c.n i k = (tgL i).filter (exB c.n) by unfold nxL; rw [hE]; simp)
          clear hE
          go_wp2_with (first | (go_at_call 123; (with_reducible refine (ex_gen _ _).mono ?_); rintro e w8 ⟨rfl, hb8⟩; rw [HE.out]; have HN8 := Lib.hid (HNX.out.up hb8); have hz8 := hb8.size; obtain ⟨hc8, hf8⟩ := bcell hb8) | (go_at_call 100; refine (ord_any HN8.out.own (by first | omega | (rw [List.length_append]; simp; omega))).mono ?_; rintro e w9 ⟨v9, rfl, ho9, hbk9, hg9⟩))
          go_ret
          rw [HS.out, HNL.out]
          exact Nxt.done HBW.out HN8.out ho9 hg9
        | true =>
          have HE := Lib.hid hE
          cases hT : termB i.op with
          | true =>
            have HTM := Lib.hid hT
            have HNL := Lib.hid (show nxL c.n i k = (tgL i).filter (exB c.n) by unfold nxL; rw [hT]; simp)
            clear hE hT
            go_wp2_with (first | (go_at_call 123; (with_reducible refine (ex_gen _ _).mono ?_); rintro e w8 ⟨rfl, hb8⟩; rw [HE.out]; have HN8 := Lib.hid (HNX.out.up hb8); have hz8 := hb8.size; obtain ⟨hc8, hf8⟩ := bcell hb8) | (go_at_call 20; refine (term_any _ _).mono ?_; rintro e w' ⟨rfl, rfl⟩; rw [HTM.out]) | (go_at_call 100; refine (ord_any HN8.out.own (by first | omega | (rw [List.length_append]; simp; omega))).mono ?_; rintro e w9 ⟨v9, rfl, ho9, hbk9, hg9⟩))
            go_ret
            rw [HS.out, HNL.out]
            exact Nxt.done HBW.out HN8.out ho9 hg9
          | false =>
            have HTM := Lib.hid hT
            have HNL := Lib.hid (show nxL c.n i k = (tgL i).filter (exB c.n) ++ [(k : Int) + 1] by unfold nxL; rw [hT, hE]; simp)
            clear hE hT
            go_wp2_with (first | (go_at_call 123; (with_reducible refine (ex_gen _ _).mono ?_); rintro e w8 ⟨rfl, hb8⟩; rw [HE.out]; have HN8 := Lib.hid (HNX.out.up hb8); have hz8 := hb8.size; obtain ⟨hc8, hf8⟩ := bcell hb8) | (go_at_call 20; refine (term_any _ _).mono ?_; rintro e w' ⟨rfl, rfl⟩; rw [HTM.out]) | (at_builtin; refine wpList_append_ints (by rfl) _ _ (by rfl) W2.heap.size _ 1 1 (w8.heap.size + 1) _ [(k : Int) + 1] _ _ (by rfl) (HN8.out.own.alloc _) (by rfl) (Row.one (ten_cell0 (new_at rfl)) (by omega)) rfl (fun h => by cases h) (by omega) (by have := HN8.out.bel.size; simp; omega) ?_; intro v7 w7 ho7 hg7; have HN7 := Lib.hid (HN8.out.add ho7 hg7)) | (go_at_call 100; refine (ord_any HN7.out.own (by first | omega | (rw [List.length_append]; simp; omega))).mono ?_; rintro e w9 ⟨v9, rfl, ho9, hbk9, hg9⟩))
            go_ret
            rw [HS.out, HNL.out]
            exact Nxt.done HBW.out HN7.out ho9 hg9
      | true =>
        have HBR := Lib.hid hb
        clear hb
        go_upto_region 7 with (first | (go_at_call 21; refine (br_any _ _).mono ?_; rintro e w' ⟨rfl, rfl⟩; rw [HBR.out]) | (go_at_call 18; refine (tg_any i _ IOK2.out (OK.out.nz i HIM.out) (Nat.le_trans (OK.out.tn i HIM.out) (by decide))).mono ?_; rintro e W3 ⟨A3, c3, rfl, hl3, hm3, hn3, hr3, hb3⟩))
        have HR3 := Lib.hid hr3
        have HBW := Lib.hid (below_on HB2.out hb3)
        have HXB := Lib.hid ((hb3.block _ (lt_heap XB.out)).trans XB.out)
        have HRB := Lib.hid ((hb3.block _ (lt_heap RB.out)).trans RB.out)
        have hz3 := hb3.size
        clear hr3 hb3 b0 b1 b2 b3 b4 b5 b6 b7 b8 b9 r0 r1 r2 r3 r4 r5 yb yr
        clear HB2 IOK2 XB RB
        have htt : (tgL i).length ≤ 1000001 := tgL_bd htl
        obtain ⟨T, hT⟩ : ∃ T, tgL i = T := ⟨_, rfl⟩
        rw [hT] at htt HR3 hl3
        have HT := Lib.hid hT
        rw [hT]
        obtain ⟨tn, htn⟩ : ∃ tn, T.length = tn := ⟨_, rfl⟩
        have HTN := Lib.hid htn
        rw [htn] at htt hl3 ⊢
        clear hT htn
        go_loopw [6, 24] (fun v z wr => ∃ j : Nat, j ≤ tn ∧ z = .int .i64 j ∧ Nxt W3 wr ((T.take j).filter (exB c.n)) v) (fun _ z _ => tn - (intOf z).toNat)
        case atStart => exact ⟨0, Nat.zero_le _, rfl, Nxt.start⟩
        case round =>
          obtain ⟨j, hj, rfl, N⟩ := hrel
          have HNX := Lib.hid N
          have hfl : ((T.take j).filter (exB c.n)).length ≤ tn := Nat.le_trans (List.length_filter_le _ _) (by rw [List.length_take, HTN.out]; exact Nat.min_le_right _ _)
          have XBr := Lib.hid ((N.bel.block _ (lt_heap HXB.out)).trans HXB.out)
          have RBr := Lib.hid ((N.bel.block _ (lt_heap HRB.out)).trans HRB.out)
          have HRr := Lib.hid (HR3.out.up N.bel)
          have hzr := N.bel.size
          clear N
          obtain ⟨b0, b1, b2, b3, b4, b5, b6, b7, b8, b9⟩ := ten_cells XBr.out
          obtain ⟨r0, r1, r2, r3, r4, r5⟩ := six_cells RBr.out
          have yb := lt_heap XBr.out
          have yr := lt_heap RBr.out
          by_cases hjt : j < tn
          · obtain ⟨t, ht⟩ := get_someF (l := T) (k := j) (by rw [HTN.out]; exact hjt)
            obtain ⟨gt, ot, rfl, hgt, hct⟩ := row_get HRr.out ht
            have hj0 : (0 : Int) ≤ (j : Int) := by omega
            have hj1 : (j : Int) < (tn : Int) := by omega
            have HTJ := Lib.hid ht
            clear ht
            cases hex : exB c.n t with
            | false =>
              have HET := Lib.hid hex
              clear hex
              go_wp2_with (go_at_call 123; (with_reducible refine (ex_gen _ _).mono ?_); rintro e w2 ⟨rfl, hb2⟩; rw [HET.out])
              exact ⟨⟨j + 1, hjt, by go_num, by rw [filter_snoc HTJ.out, HET.out]; simp only [Bool.false_eq_true, if_false, List.append_nil]; exact HNX.out.up hb2⟩, by simp [intOf]; omega⟩
            | true =>
              have HET := Lib.hid hex
              clear hex
              go_wp2_with (first | (go_at_call 123; (with_reducible refine (ex_gen _ _).mono ?_); rintro e w2 ⟨rfl, hb2⟩; rw [HET.out]; have HN2 := Lib.hid (HNX.out.up hb2); have hz2 := hb2.size) | (at_builtin; refine wpList_append_ints (by rfl) _ _ (by rfl) W3.heap.size _ 1 1 (w2.heap.size + 1) _ [t] _ _ (by rfl) (HN2.out.own.alloc _) (by rfl) (Row.one (ten_cell0 (new_at rfl)) (by omega)) rfl (fun h => by cases h) (by omega) (by have := HN2.out.bel.size; simp; omega) ?_; intro v4 w4 ho4 hg4))
              exact ⟨⟨j + 1, hjt, by go_num, by rw [filter_snoc HTJ.out, HET.out]; simp only [if_true]; exact HN2.out.add ho4 hg4⟩, by simp [intOf]; omega⟩
          · obtain ⟨rfl⟩ : tn = j := by omega
            have HNX := Lib.hid (show Nxt W3 wr ((tgL i).filter (exB c.n)) _ by have := HNX.out; rw [List.take_of_length_le (by rw [HTN.out]; exact Nat.le_refl _)] at this; rw [HT.out]; exact this)
            go_upto_region 12 with fail
            have hll : ((tgL i).filter (exB c.n)).length ≤ 1000001 := Nat.le_trans (List.length_filter_le _ _) (tgL_bd htl)
            cases hE : exB c.n ((k : Int) + 1) with
            | false =>
              have HE := Lib.hid hE
              have HNL := Lib.hid (show nxL c.n i k = (tgL i).filter (exB c.n) by unfold nxL; rw [hE]; simp)
              clear hE
              go_wp2_with (first | (go_at_call 123; (with_reducible refine (ex_gen _ _).mono ?_); rintro e w8 ⟨rfl, hb8⟩; rw [HE.out]; have HN8 := Lib.hid (HNX.out.up hb8); have hz8 := hb8.size; obtain ⟨hc8, hf8⟩ := bcell hb8) | (go_at_call 100; refine (ord_any HN8.out.own (by first | omega | (rw [List.length_append]; simp; omega))).mono ?_; rintro e w9 ⟨v9, rfl, ho9, hbk9, hg9⟩))
              go_ret
              rw [HS.out, HNL.out]
              exact Nxt.done HBW.out HN8.out ho9 hg9
            | true =>
              have HE := Lib.hid hE
              cases hT : termB i.op with
              | true =>
                have HTM := Lib.hid hT
                have HNL := Lib.hid (show nxL c.n i k = (tgL i).filter (exB c.n) by unfold nxL; rw [hT]; simp)
                clear hE hT
                go_wp2_with (first | (go_at_call 123; (with_reducible refine (ex_gen _ _).mono ?_); rintro e w8 ⟨rfl, hb8⟩; rw [HE.out]; have HN8 := Lib.hid (HNX.out.up hb8); have hz8 := hb8.size; obtain ⟨hc8, hf8⟩ := bcell hb8) | (go_at_call 20; refine (term_any _ _).mono ?_; rintro e w' ⟨rfl, rfl⟩; rw [HTM.out]) | (go_at_call 100; refine (ord_any HN8.out.own (by first | omega | (rw [List.length_append]; simp; omega))).mono ?_; rintro e w9 ⟨v9, rfl, ho9, hbk9, hg9⟩))
                go_ret
                rw [HS.out, HNL.out]
                exact Nxt.done HBW.out HN8.out ho9 hg9
              | false =>
                have HTM := Lib.hid hT
                have HNL := Lib.hid (show nxL c.n i k = (tgL i).filter (exB c.n) ++ [(k : Int) + 1] by unfold nxL; rw [hT, hE]; simp)
                clear hE hT
                go_wp2_with (first | (go_at_call 123; (with_reducible refine (ex_gen _ _).mono ?_); rintro e w8 ⟨rfl, hb8⟩; rw [HE.out]; have HN8 := Lib.hid (HNX.out.up hb8); have hz8 := hb8.size; obtain ⟨hc8, hf8⟩ := bcell hb8) | (go_at_call 20; refine (term_any _ _).mono ?_; rintro e w' ⟨rfl, rfl⟩; rw [HTM.out]) | (at_builtin; refine wpList_append_ints (by rfl) _ _ (by rfl) W3.heap.size _ 1 1 (w8.heap.size + 1) _ [(k : Int) + 1] _ _ (by rfl) (HN8.out.own.alloc _) (by rfl) (Row.one (ten_cell0 (new_at rfl)) (by omega)) rfl (fun h => by cases h) (by omega) (by have := HN8.out.bel.size; simp; omega) ?_; intro v7 w7 ho7 hg7; have HN7 := Lib.hid (HN8.out.add ho7 hg7)) | (go_at_call 100; refine (ord_any HN7.out.own (by first | omega | (rw [List.length_append]; simp; omega))).mono ?_; rintro e w9 ⟨v9, rfl, ho9, hbk9, hg9⟩))
                go_ret
                rw [HS.out, HNL.out]
                exact Nxt.done HBW.out HN7.out ho9 hg9

end Go.Proofs.YtdppooflbjlbcaaDoor.I

/- Fh -/
/- Layer 19: Handlers, edges. -/
namespace Go.Proofs.YtdppooflbjlbcaaDoor.I
open Go.ChangeShapes Go.WideShapes Go.ChangeAt Go.RowKit Go.PlainAid
set_option linter.unusedSimpArgs false
set_option linter.unusedVariables false

def hdB (n : Nat) (h : Hd) (x : Int) : Bool := decide (h.f ≤ x ∧ x < h.t) && exB n h.g
def hdP (c : Cd) (x : Int) (r : Nat) : Bool := match c.hs[r]? with | some h => hdB c.n h x | none => false
theorem hdP_at {c : Cd} {x : Int} {r : Nat} {h : Hd} (hr : c.hs[r]? = some h) : hdP c x r = hdB c.n h x := by unfold hdP; rw [hr]
def hdL (c : Cd) (x : Int) : List Int := if exB c.n x = true then rowsI (hdP c x) c.hn else []
theorem hdL_len (c : Cd) (x : Int) : (hdL c x).length ≤ c.hn := by
  unfold hdL
  split
  · exact rowsI_len _ _
  · simp
set_option maxRecDepth 100000 in
set_option maxHeartbeats 4000000 in
theorem hds_any (c : Cd) (x : Int) (w : World) (hok : c.ok w) : Calls Tryd.prog 99 #[(Value.agg #[Value.int IntKind.i64 (Cd.st c), Value.int IntKind.i64 (Cd.lo c), Value.slice (Cd.iA c) (Cd.n c) (Cd.ic c), Value.slice (Cd.hA c) (Cd.hn c) (Cd.hc c), Value.slice (Cd.mA c) (Cd.mn c) (Cd.mc c), Value.slice (Cd.lA c) (Cd.ln c) (Cd.lc c)]), .int .i64 x] w (IntsOwn w (hdL c x)) := by
  have hB : Below w.heap.size w w := Below.refl _ _
  have OK := Lib.hid hok
  clear hok
  cases hex : exB c.n x with
  | false =>
    have HX := Lib.hid hex
    have HS := Lib.hid (show hdL c x = [] by unfold hdL; rw [hex]; rfl)
    clear hex
    go_enter Tryd.func99, Tryd.ntmps99
    go_upto_region 1 with fail
    have R := World.alloc_heap_new w (.cells #[.int .i64 c.st, .int .i64 c.lo, .slice c.iA c.n c.ic, .slice c.hA c.hn c.hc, .slice c.mA c.mn c.mc, .slice c.lA c.ln c.lc] 27)
    replace hB := below_al hB (.cells #[.int .i64 c.st, .int .i64 c.lo, .slice c.iA c.n c.ic, .slice c.hA c.hn c.hc, .slice c.mA c.mn c.mc, .slice c.lA c.ln c.lc] 27)
    generalize w.alloc (.cells #[.int .i64 c.st, .int .i64 c.lo, .slice c.iA c.n c.ic, .slice c.hA c.hn c.hc, .slice c.mA c.mn c.mc, .slice c.lA c.ln c.lc] 27) = W1 at R hB ⊢
    obtain ⟨r0, r1, r2, r3, r4, r5⟩ := six_cells R
    have y1 := lt_heap R
    replace R := Lib.hid R
    go_wp2_with (go_at_call 123; (with_reducible refine (ex_gen _ _).mono ?_); rintro e w1 ⟨rfl, hb1⟩; rw [HX.out])
    go_ret
    rw [HS.out]
    exact own_nil _ _ (below_on hB hb1)
  | true =>
    have HX := Lib.hid hex
    have HS := Lib.hid (show hdL c x = rowsI (hdP c x) c.hn by unfold hdL; rw [if_pos hex])
    have hhb := OK.out.hb
    clear hex
    go_enter Tryd.func99, Tryd.ntmps99
    go_upto_region 1 with fail
    have R := World.alloc_heap_new w (.cells #[.int .i64 c.st, .int .i64 c.lo, .slice c.iA c.n c.ic, .slice c.hA c.hn c.hc, .slice c.mA c.mn c.mc, .slice c.lA c.ln c.lc] 27)
    replace hB := below_al hB (.cells #[.int .i64 c.st, .int .i64 c.lo, .slice c.iA c.n c.ic, .slice c.hA c.hn c.hc, .slice c.mA c.mn c.mc, .slice c.lA c.ln c.lc] 27)
    generalize w.alloc (.cells #[.int .i64 c.st, .int .i64 c.lo, .slice c.iA c.n c.ic, .slice c.hA c.hn c.hc, .slice c.mA c.mn c.mc, .slice c.lA c.ln c.lc] 27) = W1 at R hB ⊢
    obtain ⟨r0, r1, r2, r3, r4, r5⟩ := six_cells R
    have y1 := lt_heap R
    replace R := Lib.hid R
    go_upto_region 3 with (go_at_call 123; (with_reducible refine (ex_gen _ _).mono ?_); rintro e w1 ⟨rfl, hb1⟩; rw [HX.out])
    have RB := Lib.hid ((hb1.block _ y1).trans R.out)
    have HB := Lib.hid (below_on hB hb1)
    have OK1 := Lib.hid (OK.out.up HB.out)
    clear r0 r1 r2 r3 r4 r5 y1 R hb1 hB
    clear W1
    obtain ⟨r0, r1, r2, r3, r4, r5⟩ := six_cells RB.out
    have yr := lt_heap RB.out
    obtain ⟨A, hA⟩ : ∃ A, c.hA = A := ⟨_, rfl⟩
    have HA := Lib.hid hA
    rw [hA] at r3
    clear hA
    go_wp2
    go_loopw [5, 15] (fun v z wr => ∃ j : Nat, j ≤ c.hn ∧ z = .int .i64 j ∧ Nxt w1 wr (rowsI (hdP c x) j) v) (fun _ z _ => c.hn - (intOf z).toNat)
    case atStart => exact ⟨0, Nat.zero_le _, rfl, Nxt.start⟩
    case round =>
      clear r0 r1 r2 r3 r4 r5 yr
      obtain ⟨j, hj, rfl, N⟩ := hrel
      have HNX := Lib.hid N
      have RBr := Lib.hid ((N.bel.block _ (lt_heap RB.out)).trans RB.out)
      have hwr := OK1.out.hw.up N.bel
      rw [HA.out] at hwr
      have hln := rowsI_len (hdP c x) j
      clear N
      by_cases hlt : j < c.hn
      · obtain ⟨h, hh⟩ := get_someF (l := c.hs) (k := j) (by rw [OK.out.hl]; exact hlt)
        rcases hwr with h0 | ⟨g, o, rfl, hg, hcell⟩
        · rw [h0] at hh; simp at hh
        · obtain ⟨a0, a1, a2, a3, a4⟩ := hcell j h hh
          have HP := Lib.hid (hdP_at (x := x) hh)
          obtain ⟨r0, r1, r2, r3, r4, r5⟩ := six_cells RBr.out
          have yr := lt_heap RBr.out
          rw [HA.out] at r3
          have hj0 : (0 : Int) ≤ (j : Int) := by omega
          have hj1 : (j : Int) < (c.hn : Int) := by omega
          clear hcell hh
          by_cases h1 : h.f ≤ x
          · by_cases h2 : x < h.t
            · cases hE : exB c.n h.g with
              | false =>
                have HE := Lib.hid hE
                have HN := Lib.hid (show hdP c x j = false by rw [HP.out]; unfold hdB; rw [hE]; simp)
                clear hE
                go_wp2_with (go_at_call 123; (with_reducible refine (ex_gen _ _).mono ?_); rintro e w2 ⟨rfl, hb2⟩; rw [HE.out])
                exact ⟨⟨j + 1, hlt, by go_num, by rw [rowsI_succ, HN.out]; simp only [Bool.false_eq_true, if_false, List.append_nil]; exact HNX.out.up (below_on (below_al (Below.refl _ _) _) hb2)⟩, by simp [intOf]; omega⟩
              | true =>
                have HE := Lib.hid hE
                have HN := Lib.hid (show hdP c x j = true by rw [HP.out]; unfold hdB; rw [hE, decide_eq_true ⟨h1, h2⟩]; rfl)
                clear hE
                go_wp2_with (first | (go_at_call 123; (with_reducible refine (ex_gen _ _).mono ?_); rintro e w2 ⟨rfl, hb2⟩; rw [HE.out]; have HN2 := Lib.hid (HNX.out.up (below_on (below_al (Below.refl _ _) _) hb2)); have hz2 := hb2.size) | (at_builtin; refine wpList_append_ints (by rfl) _ _ (by rfl) w1.heap.size _ 1 1 (w2.heap.size + 1) _ [(j : Int)] _ _ (by rfl) (HN2.out.own.alloc _) (by rfl) (Row.one (ten_cell0 (new_at rfl)) (by omega)) rfl (fun h => by cases h) (by omega) (by have := HN2.out.bel.size; simp; omega) ?_; intro v4 w4 ho4 hg4))
                exact ⟨⟨j + 1, hlt, by go_num, by rw [rowsI_succ, HN.out]; simp only [if_true]; exact HN2.out.add ho4 hg4⟩, by simp [intOf]; omega⟩
            · have HN := Lib.hid (show hdP c x j = false by rw [HP.out]; unfold hdB; rw [decide_eq_false (fun e => h2 e.2)]; rfl)
              go_wp2
              exact ⟨⟨j + 1, hlt, by go_num, by rw [rowsI_succ, HN.out]; simp only [Bool.false_eq_true, if_false, List.append_nil]; exact HNX.out.up (below_al (Below.refl _ _) _)⟩, by simp [intOf]; omega⟩
          · have HN := Lib.hid (show hdP c x j = false by rw [HP.out]; unfold hdB; rw [decide_eq_false (fun e => h1 e.1)]; rfl)
            go_wp2
            exact ⟨⟨j + 1, hlt, by go_num, by rw [rowsI_succ, HN.out]; simp only [Bool.false_eq_true, if_false, List.append_nil]; exact HNX.out.up (below_al (Below.refl _ _) _)⟩, by simp [intOf]; omega⟩
      · obtain ⟨hjj⟩ : c.hn = j := by omega
        go_wp2
        go_ret
        rw [HS.out]
        exact own_up HB.out HNX.out.own HNX.out.bel

end Go.Proofs.YtdppooflbjlbcaaDoor.I

/- Fe -/
/- Layer 19: edges. -/
namespace Go.Proofs.YtdppooflbjlbcaaDoor.I
open Go.ChangeShapes Go.WideShapes Go.ChangeAt Go.RowKit Go.PlainAid
set_option linter.unusedSimpArgs false
set_option linter.unusedVariables false

def tgtV (c : Cd) (r : Int) : Int := match c.hs[r.toNat]? with | some h => h.g | none => 0
def edL (c : Cd) (x : Int) : List Int := ordL (scL c x ++ (hdL c x).map (tgtV c))
theorem apt_of {w1 w2 : World} {B e k n e2 k2 n2 : Nat} {v v2 : Value} {xs xs2 : List Value} (h : w1.ownsRow B e k v n xs) (h2 : w2.ownsRow w1.heap.size e2 k2 v2 n2 xs2) : Apt v v2 := by
  cases hv : v.ownBlock with
  | none => exact Or.inl hv
  | some b =>
    refine Or.inr (fun e => ?_)
    rw [hv] at e
    have := (h.lt b hv).2
    have := (h2.lt b e.symm).1
    omega
theorem scL_len {c : Cd} {w : World} (h : c.ok w) (x : Int) : (scL c x).length ≤ 1000002 := by
  unfold scL
  cases hi : c.is[x.toNat]? with
  | none => simp
  | some i =>
    show (if _ then _ else _ : List Int).length ≤ _
    split
    · refine Nat.le_trans (ordL_len _) ?_
      have hm := List.mem_of_getElem? hi
      have htl : i.ts.length = i.tn := by
        obtain ⟨j, hj, he⟩ := List.getElem_of_mem hm
        rcases h.iw with h0 | ⟨g, o, hA, hg, hc⟩
        · rw [h0] at hm; cases hm
        · exact (hc j i (by rw [List.getElem?_eq_getElem hj, he])).1.2.2.2.2.1
      have ht := tgL_bd (i := i) (by have := h.tn i hm; omega)
      have h1 := List.length_filter_le (exB c.n) (tgL i)
      unfold nxL
      rw [List.length_append]
      split <;> simp <;> omega
    · simp
theorem hdL_mem {c : Cd} {x r : Int} {w : World} (h : c.ok w) (hr : r ∈ hdL c x) : ∃ (j : Nat) (y : Hd), r = j ∧ j < c.hn ∧ c.hs[j]? = some y ∧ hdB c.n y x = true := by
  unfold hdL at hr
  split at hr
  · obtain ⟨j, hj, hp, rfl⟩ := rowsI_mem.1 hr
    obtain ⟨y, hy⟩ := get_someF (l := c.hs) (k := j) (by rw [h.hl]; exact hj)
    exact ⟨j, y, rfl, hj, hy, by rw [← hdP_at hy]; exact hp⟩
  · cases hr
set_option maxRecDepth 100000 in
set_option maxHeartbeats 4000000 in
theorem eds_any (c : Cd) (x : Int) (w : World) (hok : c.ok w) : Calls Tryd.prog 73 #[(Value.agg #[Value.int IntKind.i64 (Cd.st c), Value.int IntKind.i64 (Cd.lo c), Value.slice (Cd.iA c) (Cd.n c) (Cd.ic c), Value.slice (Cd.hA c) (Cd.hn c) (Cd.hc c), Value.slice (Cd.mA c) (Cd.mn c) (Cd.mc c), Value.slice (Cd.lA c) (Cd.ln c) (Cd.lc c)]), .int .i64 x] w (IntsOwn w (edL c x)) := by
  have hB : Below w.heap.size w w := Below.refl _ _
  have OK := Lib.hid hok
  clear hok
  have hsl := scL_len OK.out x
  have hhl := hdL_len c x
  have hhb := OK.out.hb
  have HED := Lib.hid (show edL c x = ordL (scL c x ++ (hdL c x).map (tgtV c)) from rfl)
  go_enter Tryd.func73, Tryd.ntmps73
  go_upto_region 1 with fail
  have R := World.alloc_heap_new w (.cells #[.int .i64 c.st, .int .i64 c.lo, .slice c.iA c.n c.ic, .slice c.hA c.hn c.hc, .slice c.mA c.mn c.mc, .slice c.lA c.ln c.lc] 27)
  replace hB := below_al hB (.cells #[.int .i64 c.st, .int .i64 c.lo, .slice c.iA c.n c.ic, .slice c.hA c.hn c.hc, .slice c.mA c.mn c.mc, .slice c.lA c.ln c.lc] 27)
  generalize w.alloc (.cells #[.int .i64 c.st, .int .i64 c.lo, .slice c.iA c.n c.ic, .slice c.hA c.hn c.hc, .slice c.mA c.mn c.mc, .slice c.lA c.ln c.lc] 27) = W1 at R hB ⊢
  obtain ⟨r0, r1, r2, r3, r4, r5⟩ := six_cells R
  have y1 := lt_heap R
  replace R := Lib.hid R
  have OK1 := Lib.hid (OK.out.up hB)
  go_upto_region 2 with (go_at_call 98; (with_reducible refine (scs_any c _ _ OK1.out).mono ?_); rintro e w1 ⟨v, rfl, ho1, hb1⟩)
  have OK2 := Lib.hid (OK1.out.up hb1)
  have RB1 := Lib.hid ((hb1.block _ y1).trans R.out)
  have HB := Lib.hid hB
  clear r0 r1 r2 r3 r4 r5
  obtain ⟨r0, r1, r2, r3, r4, r5⟩ := six_cells RB1.out
  have yr := lt_heap RB1.out
  have HO1 := Lib.hid ho1
  have HB1 := Lib.hid hb1
  clear ho1 hb1 hB
  obtain ⟨m, hm⟩ : ∃ m, (hdL c x).length = m := ⟨_, rfl⟩
  have HM := Lib.hid hm
  have hmb : m ≤ 1000000 := by omega
  clear hm
  go_upto_region 3 with (go_at_call 99; (with_reducible refine (hds_any c _ _ OK2.out).mono ?_); rintro e w2 ⟨v2, rfl, ho2, hb2⟩; rw [HM.out] at ho2; obtain ⟨A3, c3, rfl, hc3, hm3, _⟩ := own_form ho2)
  have HAP := Lib.hid (apt_of HO1.out ho2)
  have HO2 := Lib.hid ho2
  have OK3 := Lib.hid (OK2.out.up hb2)
  have RB2 := Lib.hid ((hb2.block _ (lt_heap RB1.out)).trans RB1.out)
  have HN := Lib.hid (show Nxt W1 w2 (scL c x) v from ⟨own_below HO1.out hb2, below_on HB1.out hb2⟩)
  clear ho2 hb2 r0 r1 r2 r3 r4 r5 yr HO1 HB1
  obtain ⟨HH, hHH⟩ : ∃ HH, hdL c x = HH := ⟨_, rfl⟩
  have HHM := Lib.hid (fun r (hr : r ∈ HH) => hdL_mem (c := c) (x := x) (r := r) OK1.out (by rw [hHH]; exact hr))
  rw [hHH] at HM HO2 HED
  clear hHH OK2 OK3 RB1 RB2
  go_loopw [5, 15] (fun next z wr => ∃ j : Nat, j ≤ m ∧ z = .int .i64 j ∧ Nxt W1 wr (scL c x ++ (HH.take j).map (tgtV c)) next ∧ wr.ownsRow w1.heap.size 3 1 (.slice A3 m c3) m (Ri HH) ∧ Apt next (.slice A3 m c3)) (fun _ z _ => m - (intOf z).toNat)
  case atStart => exact ⟨0, Nat.zero_le _, rfl, by simp only [List.take_zero, List.map_nil, List.append_nil]; exact HN.out, HO2.out, HAP.out⟩
  case round =>
    clear HN HO2 HAP
    obtain ⟨j, hj, rfl, N, hv2, hap⟩ := hrel
    have HNX := Lib.hid N
    have HV2 := Lib.hid hv2
    have HAP := Lib.hid hap
    have RBr := Lib.hid ((N.bel.block _ y1).trans R.out)
    have OKr := Lib.hid (OK1.out.up N.bel)
    have hln : (scL c x ++ (HH.take j).map (tgtV c)).length ≤ 2100000 := by rw [List.length_append, List.length_map, List.length_take]; omega
    obtain ⟨r0, r1, r2, r3, r4, r5⟩ := six_cells RBr.out
    have yr := lt_heap RBr.out
    clear N hap
    by_cases hlt : j < m
    · obtain ⟨r, hr⟩ := get_someF (l := HH) (k := j) (by rw [HM.out]; exact hlt)
      obtain ⟨jr, y, rfl, hjr, hy, _⟩ := HHM.out r (List.mem_of_getElem? hr)
      obtain ⟨gt, ot, rfl, hgt, hct⟩ := row_get (Row.of_own hv2).1 hr
      have HTG := Lib.hid (show tgtV c jr = y.g by unfold tgtV; rw [Int.toNat_natCast, hy])
      have HTK := Lib.hid (take_snocF hr)
      rcases OKr.out.hw with h0 | ⟨g, o, hA, hg, hcell⟩
      · rw [h0] at hy; simp at hy
      · obtain ⟨a0, a1, a2, a3, a4⟩ := hcell jr y hy
        rw [hA] at r3
        clear hA
        obtain ⟨q, hq⟩ : ∃ q, (scL c x ++ (HH.take j).map (tgtV c)).length = q := ⟨_, rfl⟩
        have hown := HNX.out.own
        rw [hq] at hown hln
        have HOWN := Lib.hid hown
        have HQ := Lib.hid hq
        clear hown hq
        have hj0 : (0 : Int) ≤ (j : Int) := by omega
        have hj1 : (j : Int) < (m : Int) := by omega
        have hk0 : (0 : Int) ≤ (jr : Int) := by omega
        have hk1 : (jr : Int) < (c.hn : Int) := by omega
        clear hcell hy hr hv2 a0 a1 a3 a4
        go_wp2_with (at_builtin; refine wpList_append_liesF (by rfl) _ _ (by rfl) W1.heap.size q 1 _ y.g _ _ (by rfl) (HOWN.out.alloc _) (by rfl) (Row.one (ten_cell0 (new_at rfl)) (by simp)) (by omega) (by have := HNX.out.bel.size; simp; omega) ?_; intro A7 c7 w4 ho4 hg4 hl4)
        have hkeep := HAP.out.kept (HV2.out.alloc _) hg4
        have hap4 := HAP.out.grow (HV2.out.alloc _) hl4
        exact ⟨⟨j + 1, hlt, by go_num, by rw [HTK.out, List.map_append, ← List.append_assoc]; have := HNX.out.add (by rw [HQ.out]; exact ho4) hg4; rw [← HTG.out] at this; exact this, hkeep, hap4⟩, by simp [intOf]; omega⟩
    · obtain ⟨rfl⟩ : m = j := by omega
      have HF := Lib.hid (show scL c x ++ (HH.take m).map (tgtV c) = scL c x ++ HH.map (tgtV c) by rw [List.take_of_length_le (by rw [HM.out]; exact Nat.le_refl _)])
      go_wp2_with (go_at_call 100; refine (ord_any HNX.out.own (by omega)).mono ?_; rintro e w9 ⟨v9, rfl, ho9, hbk9, hg9⟩)
      go_ret
      rw [HED.out, ← HF.out]
      exact Nxt.done HB.out HNX.out ho9 hg9

end Go.Proofs.YtdppooflbjlbcaaDoor.I

/- Fr -/
/- Layer 19: the reference's add, Ints, Handlers. -/
namespace Go.Proofs.YtdppooflbjlbcaaDoor.I
open Go.ChangeShapes Go.WideShapes Go.ChangeAt Go.RowKit Go.PlainAid
set_option linter.unusedSimpArgs false
set_option linter.unusedVariables false

theorem ord_self {L : List Int} (h : L.Pairwise (· < ·)) : ordL L = L := uniq_lt (ordL_spec L).1 h (ordL_spec L).2
theorem ord_same {L M : List Int} (h : ∀ x, x ∈ L ↔ x ∈ M) : ordL L = ordL M := uniq_lt (ordL_spec L).1 (ordL_spec M).1 fun x => by rw [(ordL_spec L).2, (ordL_spec M).2]; exact h x
theorem ord_snoc (L : List Int) (x : Int) : ordL (ordL L ++ [x]) = ordL (L ++ [x]) := ord_same fun y => by rw [List.mem_append, List.mem_append, (ordL_spec L).2]
theorem ord_in {L : List Int} {x : Int} (h : L.Pairwise (· < ·)) (hx : x ∈ L) : ordL (L ++ [x]) = L := by
  rw [← ord_self h]
  rw [ord_self h]
  refine uniq_lt (ordL_spec _).1 h fun y => ?_
  rw [(ordL_spec _).2, List.mem_append, List.mem_singleton]
  exact ⟨fun h => by rcases h with h | rfl; exact h; exact hx, fun h => Or.inl h⟩
theorem ord_ins {L : List Int} {x : Int} {k : Nat} (hs : L.Pairwise (· < ·)) (hk : k ≤ L.length) (h1 : ∀ j, j < k → L.getD j 0 < x) (h2 : k < L.length → x < L.getD k 0) : ordL (L ++ [x]) = L.take k ++ [x] ++ L.drop k := by
  have get : ∀ j (hj : j < L.length), L.getD j 0 = L[j] := fun j hj => by rw [List.getD_eq_getElem?_getD, List.getElem?_eq_getElem hj]; rfl
  have ht : ∀ a ∈ L.take k, a < x := by
    intro a ha
    obtain ⟨j, hj, rfl⟩ := List.getElem_of_mem ha
    rw [List.length_take] at hj
    have := h1 j (by omega)
    rw [get j (by omega)] at this
    rw [List.getElem_take]; exact this
  have hd : ∀ a ∈ L.drop k, x < a := by
    intro a ha
    obtain ⟨j, hj, rfl⟩ := List.getElem_of_mem ha
    rw [List.length_drop] at hj
    rw [List.getElem_drop]
    have h3 := h2 (by omega)
    rw [get k (by omega)] at h3
    rcases Nat.eq_zero_or_pos j with rfl | hj0
    · exact h3
    · have := List.pairwise_iff_getElem.1 hs k (k + j) (by omega) (by omega) (by omega)
      omega
  refine uniq_lt (ordL_spec _).1 ?_ fun y => ?_
  · rw [List.append_assoc, List.pairwise_append]
    refine ⟨hs.sublist (List.take_sublist k L), List.pairwise_append.2 ⟨List.pairwise_singleton _ _, hs.sublist (List.drop_sublist k L), fun a ha b hb => ?_⟩, fun a ha b hb => ?_⟩
    · obtain rfl := List.mem_singleton.1 ha
      exact hd b hb
    · rcases List.mem_append.1 hb with hb | hb
      · obtain rfl := List.mem_singleton.1 hb
        exact ht a ha
      · have := ht a ha; have := hd b hb; omega
  · rw [(ordL_spec _).2, List.mem_append, List.mem_append, List.mem_append]
    have : y ∈ L ↔ y ∈ L.take k ∨ y ∈ L.drop k := by rw [← List.mem_append, List.take_append_drop]
    rw [this]
    constructor
    · rintro ((h | h) | h)
      · exact Or.inl (Or.inl h)
      · exact Or.inr h
      · exact Or.inl (Or.inr h)
    · rintro ((h | h) | h)
      · exact Or.inl (Or.inl h)
      · exact Or.inr h
      · exact Or.inl (Or.inr h)
theorem row_sub {w : World} {B g o : Nat} {L : List Int} (h : Row w B (some ⟨g, o, none⟩) L) (k : Nat) : Row w B (some ⟨g, o, none⟩) (L.take k) ∧ Row w B (some ⟨g, o + k, none⟩) (L.drop k) := by
  rcases h with rfl | ⟨g', o', hA, hg, hc⟩
  · rw [List.take_nil, List.drop_nil]; exact ⟨Or.inl rfl, Or.inl rfl⟩
  · injection hA with hA
    injection hA with h1 h2
    subst h1 h2
    refine ⟨Or.inr ⟨g, o, rfl, hg, fun j x hj => ?_⟩, Or.inr ⟨g, o + k, rfl, hg, fun j x hj => ?_⟩⟩
    · rw [List.getElem?_take] at hj
      split at hj
      · exact hc j x hj
      · cases hj
    · rw [List.getElem?_drop] at hj
      rw [Nat.add_assoc]; exact hc _ x hj
theorem own_lit0 {w : World} {B : Nat} (hB : B ≤ w.heap.size) : (w.alloc (.cells #[] 3)).ownsRow B 3 1 (.slice (some ⟨w.heap.size, 0, none⟩) 0 0) 0 (Ri []) :=
  World.ownsRow_lit w #[] 0 hB (by unfold maxLen; omega) rfl
/-- what add hands back: the row itself, or a new one -/
def AddRet (w : World) (A : Option Addr) (L : List Int) (e : Ending) (w' : World) : Prop :=
  ∃ A' c, e = .returned (.slice A' L.length c) ∧ L.length ≤ c ∧ c ≤ maxLen ∧ (A' = none → c = 0) ∧ Row w' w'.heap.size A' L ∧ (A' = A ∨ ∀ g o s, A' = some ⟨g, o, s⟩ → w.heap.size ≤ g) ∧ Below w.heap.size w w'
theorem own_base {w' : World} {base e size n : Nat} {m c : Nat} {A : Option Addr} {xs : List Value} (h : w'.ownsRow base e size (.slice A m c) n xs) : ∀ g o s, A = some ⟨g, o, s⟩ → base ≤ g := by
  intro g o s hA
  subst hA
  exact (h.lt g rfl).1
theorem add_own {w w' : World} {A : Option Addr} {n : Nat} {v : Value} {L : List Int} (h : w'.ownsRow w.heap.size 3 1 v n (Ri L)) (hb : Below w.heap.size w w') : AddRet w A L (.returned v) w' := by
  obtain ⟨A, c, rfl, h1, h2, h3⟩ := own_form h
  have hob := own_base h
  obtain ⟨hr, rfl⟩ := Row.of_own h
  exact ⟨A, c, rfl, h1, h2, h3, hr, Or.inr hob, hb⟩
set_option maxRecDepth 100000 in
set_option maxHeartbeats 4000000 in
theorem add_any {w : World} {A : Option Addr} {n c : Nat} {L : List Int} (x : Int) (hr : Row w w.heap.size A L) (hl : L.length = n) (hn : n ≤ 1000000) (hc : n ≤ c) (hcm : c ≤ maxLen) (hnil : A = none → c = 0) (hs : L.Pairwise (· < ·)) :
    Calls Tryd.prog 128 #[.slice A n c, .int .i64 x] w (AddRet w A (ordL (L ++ [x]))) := by
  have HR := Lib.hid hr
  have HL := Lib.hid hl
  have HS := Lib.hid hs
  have HN := Lib.hid (And.intro hcm hnil)
  clear hr hl hs hnil hcm
  go_enter Tryd.func128, Tryd.ntmps128
  go_wp2
  go_loopw [5] (fun z wr => ∃ k : Nat, k ≤ n ∧ z = .int .i64 k ∧ (∀ j, j < k → L.getD j 0 < x) ∧ wr = w) (fun z _ => n - (intOf z).toNat)
  case atStart => exact ⟨0, Nat.zero_le _, rfl, fun j hj => absurd hj (Nat.not_lt_zero _), rfl⟩
  case round =>
    obtain ⟨k, hk, rfl, hall, rfl⟩ := hrel
    have HA := Lib.hid hall
    clear hall
    have hk0 : (0 : Int) ≤ (k : Int) := by omega
    by_cases hlt : k < n
    · obtain ⟨y, hy⟩ := get_someF (l := L) (k := k) (by rw [HL.out]; exact hlt)
      have HY := Lib.hid (show L.getD k 0 = y by rw [List.getD_eq_getElem?_getD, hy]; rfl)
      obtain ⟨g, o, rfl, hg, hcy⟩ := row_get HR.out hy
      have HYM := Lib.hid (List.mem_of_getElem? hy)
      have hk1 : (k : Int) < (n : Int) := by omega
      clear hy
      by_cases hyx : y < x
      · go_wp2
        refine ⟨⟨k + 1, hlt, by go_num, fun j hj => ?_, trivial⟩, by simp [intOf]; omega⟩
        rcases (by omega : j < k ∨ j = k) with h | rfl
        · exact HA.out j h
        · rw [HY.out]; exact hyx
      · by_cases hxe : y = x
        · subst hxe
          have hyy : ¬ y < y := Int.lt_irrefl y
          have HIN := Lib.hid (ord_in HS.out HYM.out)
          go_wp2
          go_ret
          rw [HIN.out]
          exact ⟨some ⟨g, o, none⟩, c, by rw [HL.out]; rfl, by rw [HL.out]; exact hc, HN.out.1, HN.out.2, HR.out, Or.inl rfl, Below.refl _ _⟩
        · have HINS := Lib.hid (ord_ins HS.out (by rw [HL.out]; exact hk) HA.out (fun _ => by rw [HY.out]; omega))
          have hq := row_sub HR.out k
          have HR1 := Lib.hid hq.1
          have HR2 := Lib.hid hq.2
          have htk : (L.take k).length = k := by rw [List.length_take, HL.out]; omega
          have hdk : (L.drop k).length = n - k := by rw [List.length_drop, HL.out]
          have HTK := Lib.hid htk
          have HDK := Lib.hid hdk
          have hcc : c ≤ 9223372036854775807 := by have := HN.out.1; unfold maxLen at this; omega
          have hk2 : (k : Int) ≤ (c : Int) := by omega
          have hk3 : (k : Int) ≤ (n : Int) := by omega
          have hck : ¬ c = k := by omega
          have hHO := Lib.hid (own_lit0 (w := wr) (Nat.le_refl _))
          go_upto_region 7 with (at_builtin; refine wpList_append_ints (by rfl) _ _ (by rfl) wr.heap.size 0 k c (wr.heap.size + 1) [] (L.take k) _ _ (by rfl) hHO.out (by rfl) ((HR1.out.below (below_al (Below.refl _ _) _)).more (by simp)) HTK.out (fun h => by cases h) (by omega) (by simp) ?_; intro v1 w1 ho1 hg1)
          rw [Nat.zero_add, List.nil_append] at ho1
          have HO1 := Lib.hid ho1
          have HB1 := Lib.hid (grown_own (below_al (Below.refl wr.heap.size wr) _) hHO.out hg1)
          have hz1 := HB1.out.size
          clear ho1 hg1
          go_upto_region 8 with (at_builtin; refine wpList_append_ints (by rfl) _ _ (by rfl) wr.heap.size k 1 1 (w1.heap.size + 1) (L.take k) [x] _ _ (by rfl) (HO1.out.alloc _) (by rfl) (Row.one (ten_cell0 (new_at rfl)) (by omega)) rfl (fun h => by cases h) (by omega) (by simp; omega) ?_; intro v2 w2 ho2 hg2)
          have HO2 := Lib.hid ho2
          have HB2 := Lib.hid (grown_own (below_al HB1.out _) (HO1.out.alloc _) hg2)
          have HR3 := Lib.hid ((HR2.out.below HB2.out).more HB2.out.size)
          have hz2 := HB2.out.size
          clear ho2 hg2
          go_wp2_with (at_builtin; refine wpList_append_ints (by rfl) _ _ (by rfl) wr.heap.size (k + 1) (n - k) (c - k) w2.heap.size (L.take k ++ [x]) (L.drop k) _ _ (by rfl) HO2.out (by rfl) HR3.out HDK.out (fun h => by cases h) (by omega) (by omega) ?_; intro v3 w3 ho3 hg3)
          go_ret
          rw [HINS.out]
          exact add_own ho3 (grown_own HB2.out HO2.out hg3)
    · obtain ⟨rfl⟩ : n = k := by omega
      have HINS := Lib.hid (ord_ins HS.out (by rw [HL.out]; exact Nat.le_refl _) HA.out (fun h => by rw [HL.out] at h; omega))
      have hcc : c ≤ 9223372036854775807 := by have := HN.out.1; unfold maxLen at this; omega
      have HTK := Lib.hid (show (L.take n).length = n by rw [List.length_take, HL.out]; omega)
      have HDK := Lib.hid (show (L.drop n).length = 0 by rw [List.length_drop, HL.out]; omega)
      rcases Nat.eq_zero_or_pos n with rfl | h0
      · have HR1 := Lib.hid (show Row wr wr.heap.size A (L.take 0) from Or.inl rfl)
        have hL0 : L.drop 0 = [] := List.eq_nil_of_length_eq_zero HDK.out
        have HR2 := Lib.hid (show Row wr wr.heap.size A (L.drop 0) by rw [hL0]; exact Or.inl rfl)
        clear hL0
        cases A with
        | none =>
          obtain rfl : c = 0 := HN.out.2 rfl
          have hHO := Lib.hid (own_lit0 (w := wr) (Nat.le_refl _))
          go_upto_region 7 with (at_builtin; refine wpList_append_ints (by rfl) _ _ (by rfl) wr.heap.size 0 0 0 (wr.heap.size + 1) [] (L.take 0) _ _ (by rfl) hHO.out (by rfl) ((HR1.out.below (below_al (Below.refl _ _) _)).more (by simp)) HTK.out (fun _ => rfl) (by omega) (by simp) ?_; intro v1 w1 ho1 hg1)
          rw [Nat.zero_add, List.nil_append] at ho1
          have HO1 := Lib.hid ho1
          have HB1 := Lib.hid (grown_own (below_al (Below.refl wr.heap.size wr) _) hHO.out hg1)
          have hz1 := HB1.out.size
          clear ho1 hg1
          go_upto_region 8 with (at_builtin; refine wpList_append_ints (by rfl) _ _ (by rfl) wr.heap.size 0 1 1 (w1.heap.size + 1) (L.take 0) [x] _ _ (by rfl) (HO1.out.alloc _) (by rfl) (Row.one (ten_cell0 (new_at rfl)) (by omega)) rfl (fun h => by cases h) (by omega) (by simp; omega) ?_; intro v2 w2 ho2 hg2)
          have HO2 := Lib.hid ho2
          have HB2 := Lib.hid (grown_own (below_al HB1.out _) (HO1.out.alloc _) hg2)
          have HR3 := Lib.hid ((HR2.out.below HB2.out).more HB2.out.size)
          have hz2 := HB2.out.size
          clear ho2 hg2
          go_wp2_with (at_builtin; refine wpList_append_ints (by rfl) _ _ (by rfl) wr.heap.size (0 + 1) 0 0 w2.heap.size (L.take 0 ++ [x]) (L.drop 0) _ _ (by rfl) HO2.out (by rfl) HR3.out HDK.out (fun _ => rfl) (by omega) (by omega) ?_; intro v3 w3 ho3 hg3)
          go_ret
          rw [HINS.out]
          exact add_own ho3 (grown_own HB2.out HO2.out hg3)
        | some ad =>
          obtain ⟨g, o, sp⟩ := ad
          have HR2 := Lib.hid (show Row wr wr.heap.size (some ⟨g, o, sp⟩) (L.drop 0) from HR2.out)
          have hHO := Lib.hid (own_lit0 (w := wr) (Nat.le_refl _))
          go_upto_region 7 with (at_builtin; refine wpList_append_ints (by rfl) _ _ (by rfl) wr.heap.size 0 0 c (wr.heap.size + 1) [] (L.take 0) _ _ (by rfl) hHO.out (by rfl) ((HR1.out.below (below_al (Below.refl _ _) _)).more (by simp)) HTK.out (fun h => by cases h) (by omega) (by simp) ?_; intro v1 w1 ho1 hg1)
          rw [Nat.zero_add, List.nil_append] at ho1
          have HO1 := Lib.hid ho1
          have HB1 := Lib.hid (grown_own (below_al (Below.refl wr.heap.size wr) _) hHO.out hg1)
          have hz1 := HB1.out.size
          clear ho1 hg1
          go_upto_region 8 with (at_builtin; refine wpList_append_ints (by rfl) _ _ (by rfl) wr.heap.size 0 1 1 (w1.heap.size + 1) (L.take 0) [x] _ _ (by rfl) (HO1.out.alloc _) (by rfl) (Row.one (ten_cell0 (new_at rfl)) (by omega)) rfl (fun h => by cases h) (by omega) (by simp; omega) ?_; intro v2 w2 ho2 hg2)
          have HO2 := Lib.hid ho2
          have HB2 := Lib.hid (grown_own (below_al HB1.out _) (HO1.out.alloc _) hg2)
          have HR3 := Lib.hid ((HR2.out.below HB2.out).more HB2.out.size)
          have hz2 := HB2.out.size
          clear ho2 hg2
          go_wp2_with (at_builtin; refine wpList_append_ints (by rfl) _ _ (by rfl) wr.heap.size (0 + 1) 0 c w2.heap.size (L.take 0 ++ [x]) (L.drop 0) _ _ (by rfl) HO2.out (by rfl) HR3.out HDK.out (fun h => by cases h) (by omega) (by omega) ?_; intro v3 w3 ho3 hg3)
          go_ret
          rw [HINS.out]
          exact add_own ho3 (grown_own HB2.out HO2.out hg3)
      · obtain ⟨g, o, rfl, hg, _⟩ := HR.out.at (by rw [HL.out]; exact h0)
        have hq := row_sub HR.out n
        have HR1 := Lib.hid hq.1
        have HR2 := Lib.hid hq.2
        have hk1 : (n : Int) ≤ (c : Int) := by omega
        clear hq
        by_cases hcn : c = n
        · subst hcn
          have HR2 := Lib.hid (show Row wr wr.heap.size (some ⟨g, o, none⟩) (L.drop c) by rw [List.eq_nil_of_length_eq_zero HDK.out]; exact Or.inl rfl)
          have hHO := Lib.hid (own_lit0 (w := wr) (Nat.le_refl _))
          go_upto_region 7 with (at_builtin; refine wpList_append_ints (by rfl) _ _ (by rfl) wr.heap.size 0 c c (wr.heap.size + 1) [] (L.take c) _ _ (by rfl) hHO.out (by rfl) ((HR1.out.below (below_al (Below.refl _ _) _)).more (by simp)) HTK.out (fun h => by cases h) (by omega) (by simp) ?_; intro v1 w1 ho1 hg1)
          rw [Nat.zero_add, List.nil_append] at ho1
          have HO1 := Lib.hid ho1
          have HB1 := Lib.hid (grown_own (below_al (Below.refl wr.heap.size wr) _) hHO.out hg1)
          have hz1 := HB1.out.size
          clear ho1 hg1
          go_upto_region 8 with (at_builtin; refine wpList_append_ints (by rfl) _ _ (by rfl) wr.heap.size c 1 1 (w1.heap.size + 1) (L.take c) [x] _ _ (by rfl) (HO1.out.alloc _) (by rfl) (Row.one (ten_cell0 (new_at rfl)) (by omega)) rfl (fun h => by cases h) (by omega) (by simp; omega) ?_; intro v2 w2 ho2 hg2)
          have HO2 := Lib.hid ho2
          have HB2 := Lib.hid (grown_own (below_al HB1.out _) (HO1.out.alloc _) hg2)
          have HR3 := Lib.hid ((HR2.out.below HB2.out).more HB2.out.size)
          have hz2 := HB2.out.size
          clear ho2 hg2
          go_wp2_with (at_builtin; refine wpList_append_ints (by rfl) _ _ (by rfl) wr.heap.size (c + 1) 0 0 w2.heap.size (L.take c ++ [x]) (L.drop c) _ _ (by rfl) HO2.out (by rfl) HR3.out HDK.out (fun h => by cases h) (by omega) (by omega) ?_; intro v3 w3 ho3 hg3)
          go_ret
          rw [HINS.out]
          exact add_own ho3 (grown_own HB2.out HO2.out hg3)
        · have hHO := Lib.hid (own_lit0 (w := wr) (Nat.le_refl _))
          go_upto_region 7 with (at_builtin; refine wpList_append_ints (by rfl) _ _ (by rfl) wr.heap.size 0 n c (wr.heap.size + 1) [] (L.take n) _ _ (by rfl) hHO.out (by rfl) ((HR1.out.below (below_al (Below.refl _ _) _)).more (by simp)) HTK.out (fun h => by cases h) (by omega) (by simp) ?_; intro v1 w1 ho1 hg1)
          rw [Nat.zero_add, List.nil_append] at ho1
          have HO1 := Lib.hid ho1
          have HB1 := Lib.hid (grown_own (below_al (Below.refl wr.heap.size wr) _) hHO.out hg1)
          have hz1 := HB1.out.size
          clear ho1 hg1
          go_upto_region 8 with (at_builtin; refine wpList_append_ints (by rfl) _ _ (by rfl) wr.heap.size n 1 1 (w1.heap.size + 1) (L.take n) [x] _ _ (by rfl) (HO1.out.alloc _) (by rfl) (Row.one (ten_cell0 (new_at rfl)) (by omega)) rfl (fun h => by cases h) (by omega) (by simp; omega) ?_; intro v2 w2 ho2 hg2)
          have HO2 := Lib.hid ho2
          have HB2 := Lib.hid (grown_own (below_al HB1.out _) (HO1.out.alloc _) hg2)
          have HR3 := Lib.hid ((HR2.out.below HB2.out).more HB2.out.size)
          have hz2 := HB2.out.size
          clear ho2 hg2
          go_wp2_with (at_builtin; refine wpList_append_ints (by rfl) _ _ (by rfl) wr.heap.size (n + 1) 0 (c - n) w2.heap.size (L.take n ++ [x]) (L.drop n) _ _ (by rfl) HO2.out (by rfl) HR3.out HDK.out (fun h => by cases h) (by omega) (by omega) ?_; intro v3 w3 ho3 hg3)
          go_ret
          rw [HINS.out]
          exact add_own ho3 (grown_own HB2.out HO2.out hg3)
end Go.Proofs.YtdppooflbjlbcaaDoor.I

/- Fq -/
/- Layer 19: the reference's Handlers, Successors. -/
namespace Go.Proofs.YtdppooflbjlbcaaDoor.I
open Go.ChangeShapes Go.WideShapes Go.ChangeAt Go.RowKit Go.PlainAid
set_option linter.unusedSimpArgs false
set_option linter.unusedVariables false

/-- a row of numbers, its value: new since B -/
def RowV (B : Nat) (w : World) (L : List Int) (v : Value) : Prop := ∃ A c, v = .slice A L.length c ∧ L.length ≤ c ∧ c ≤ maxLen ∧ (A = none → c = 0) ∧ Row w w.heap.size A L ∧ (∀ g o s, A = some ⟨g, o, s⟩ → B ≤ g)
theorem RowV.up {B : Nat} {w w' : World} {L : List Int} {v : Value} (h : RowV B w L v) (hb : Below w.heap.size w w') : RowV B w' L v := by
  obtain ⟨A, c, h1, h2, h3, h4, h5, h6⟩ := h
  exact ⟨A, c, h1, h2, h3, h4, h5.up hb, h6⟩
/-- a new row is handed back -/
def IntsNew (w : World) (L : List Int) (e : Ending) (w' : World) : Prop :=
  ∃ A c, e = .returned (.slice A L.length c) ∧ L.length ≤ c ∧ c ≤ maxLen ∧ (A = none → c = 0) ∧ Row w' w'.heap.size A L ∧ (∀ g o s, A = some ⟨g, o, s⟩ → w.heap.size ≤ g) ∧ Below w.heap.size w w'
theorem IntsNew.ret {w w' : World} {L : List Int} {e : Ending} (h : IntsNew w L e w') : IntsRet w L e w' := by
  obtain ⟨A, c, he, h1, h2, h3, h4, _, h5⟩ := h
  exact ⟨A, c, he, h1, h2, h3, h4, h5⟩
theorem IntsNew.get {w w' : World} {L : List Int} {e : Ending} (h : IntsNew w L e w') : ∃ v, e = .returned v ∧ RowV w.heap.size w' L v ∧ Below w.heap.size w w' := by
  obtain ⟨A, c, he, h1, h2, h3, h4, h6, h5⟩ := h
  exact ⟨_, he, ⟨A, c, rfl, h1, h2, h3, h4, h6⟩, h5⟩
theorem RowV.ret {w w' : World} {L : List Int} {v : Value} (h : RowV w.heap.size w' L v) (hb : Below w.heap.size w w') : IntsNew w L (.returned v) w' := by
  obtain ⟨A, c, rfl, h1, h2, h3, h4, h6⟩ := h
  exact ⟨A, c, rfl, h1, h2, h3, h4, h6, hb⟩
theorem rowV_lit {B : Nat} (w : World) (hB : B ≤ w.heap.size) : RowV B (w.alloc (.cells #[] 3)) [] (.slice (some ⟨w.heap.size, 0, none⟩) 0 0) := ⟨some ⟨w.heap.size, 0, none⟩, 0, rfl, Nat.le_refl _, Nat.zero_le _, (fun h => by cases h), Or.inl rfl, fun g o s h => by injection h with h; injection h with h _ _; omega⟩
theorem RowV.more {B B' : Nat} {w : World} {L : List Int} {v : Value} (h : RowV B w L v) (hB : B' ≤ B) : RowV B' w L v := by
  obtain ⟨A, c, h1, h2, h3, h4, h5, h6⟩ := h
  exact ⟨A, c, h1, h2, h3, h4, h5, fun g o s e => Nat.le_trans hB (h6 g o s e)⟩
theorem below_drew {w w2 : World} (h : Below w.drew.heap.size w.drew w2) : Below w.heap.size w w2 := ⟨h.os, h.tape, h.output, h.size, h.block⟩
theorem addv_any {B : Nat} {w : World} {L : List Int} {v : Value} (x : Int) (h : RowV B w L v) (hB : B ≤ w.heap.size) (hn : L.length ≤ 1000000) (hs : L.Pairwise (· < ·)) :
    Calls Tryd.prog 128 #[v, .int .i64 x] w (fun e w' => ∃ v', e = .returned v' ∧ RowV B w' (ordL (L ++ [x])) v' ∧ Below w.heap.size w w') := by
  obtain ⟨A, c, rfl, h1, h2, h3, h4, h6⟩ := h
  refine (add_any x h4 rfl hn h1 h2 h3 hs).mono fun e w' hr => ?_
  obtain ⟨A', c', he, k1, k2, k3, k4, k5, k6⟩ := hr
  refine ⟨_, he, ⟨A', c', rfl, k1, k2, k3, k4, fun g o s hA => ?_⟩, k6⟩
  rcases k5 with rfl | k5
  · exact h6 g o s hA
  · exact Nat.le_trans hB (k5 g o s hA)
def hdQ (c : Cd) (x : Int) (j : Nat) : Bool := exB c.n x && hdP c x j
theorem hdQ_all (c : Cd) (x : Int) : rowsI (hdQ c x) c.hn = hdL c x := by
  unfold hdL
  cases h : exB c.n x with
  | true =>
    rw [if_pos rfl]
    congr 1
    funext j
    unfold hdQ
    rw [h]; rfl
  | false =>
    rw [if_neg (by simp)]
    unfold rowsI
    have : (List.range c.hn).filter (hdQ c x) = [] := List.filter_eq_nil_iff.2 fun j _ => by unfold hdQ; rw [h]; simp
    rw [this]; rfl
set_option maxRecDepth 100000 in
set_option maxHeartbeats 4000000 in
theorem rhd_any (c : Cd) (x : Int) (w : World) (hok : c.ok w) : Calls Tryd.prog 127 #[(Value.agg #[Value.int IntKind.i64 (Cd.st c), Value.int IntKind.i64 (Cd.lo c), Value.slice (Cd.iA c) (Cd.n c) (Cd.ic c), Value.slice (Cd.hA c) (Cd.hn c) (Cd.hc c), Value.slice (Cd.mA c) (Cd.mn c) (Cd.mc c), Value.slice (Cd.lA c) (Cd.ln c) (Cd.lc c)]), .int .i64 x] w (IntsOwn w (hdL c x)) := by
  have hB : Below w.heap.size w w := Below.refl _ _
  have OK := Lib.hid hok
  clear hok
  have HS := Lib.hid (hdQ_all c x).symm
  have hhb := OK.out.hb
  go_enter Tryd.func127, Tryd.ntmps127
  go_upto_region 1 with fail
  have R := World.alloc_heap_new w (.cells #[.int .i64 c.st, .int .i64 c.lo, .slice c.iA c.n c.ic, .slice c.hA c.hn c.hc, .slice c.mA c.mn c.mc, .slice c.lA c.ln c.lc] 27)
  replace hB := below_al hB (.cells #[.int .i64 c.st, .int .i64 c.lo, .slice c.iA c.n c.ic, .slice c.hA c.hn c.hc, .slice c.mA c.mn c.mc, .slice c.lA c.ln c.lc] 27)
  generalize w.alloc (.cells #[.int .i64 c.st, .int .i64 c.lo, .slice c.iA c.n c.ic, .slice c.hA c.hn c.hc, .slice c.mA c.mn c.mc, .slice c.lA c.ln c.lc] 27) = W1 at R hB ⊢
  obtain ⟨r0, r1, r2, r3, r4, r5⟩ := six_cells R
  have y1 := lt_heap R
  replace R := Lib.hid R
  go_upto_region 2 with fail
  have HB := Lib.hid hB
  have OK1 := Lib.hid (OK.out.up hB)
  have HN0 := Lib.hid (show Nxt W1 (W1.alloc (.cells #[] 3)) [] (.slice (some ⟨W1.heap.size, 0, none⟩) 0 0) from ⟨own_lit0 (Nat.le_refl _), below_al (Below.refl _ _) _⟩)
  obtain ⟨A, hA⟩ : ∃ A, c.hA = A := ⟨_, rfl⟩
  have HA := Lib.hid hA
  clear hA r0 r1 r2 r3 r4 r5 hB
  go_wp2
  go_loopw [5, 6] (fun v z wr => ∃ j : Nat, j ≤ c.hn ∧ z = .int .i64 j ∧ Nxt W1 wr (rowsI (hdQ c x) j) v) (fun _ z _ => c.hn - (intOf z).toNat)
  case atStart => exact ⟨0, Nat.zero_le _, rfl, HN0.out⟩
  case round =>
    clear HN0
    obtain ⟨j, hj, rfl, N⟩ := hrel
    have HNX := Lib.hid N
    have RBr := Lib.hid ((N.bel.block _ y1).trans R.out)
    have hwr := OK1.out.hw.up N.bel
    rw [HA.out] at hwr
    obtain ⟨q, hq⟩ : ∃ q, (rowsI (hdQ c x) j).length = q := ⟨_, rfl⟩
    have hln := rowsI_len (hdQ c x) j
    have hown := N.own
    rw [hq] at hown hln
    have HQ := Lib.hid hq
    have HOWN := Lib.hid hown
    clear N hq hown
    by_cases hlt : j < c.hn
    · obtain ⟨h, hh⟩ := get_someF (l := c.hs) (k := j) (by rw [OK.out.hl]; exact hlt)
      rcases hwr with h0 | ⟨g, o, rfl, hg, hcell⟩
      · rw [h0] at hh; simp at hh
      · obtain ⟨a0, a1, a2, a3, a4⟩ := hcell j h hh
        have HP := Lib.hid (hdP_at (x := x) hh)
        obtain ⟨r0, r1, r2, r3, r4, r5⟩ := six_cells RBr.out
        have yr := lt_heap RBr.out
        rw [HA.out] at r3
        have hj0 : (0 : Int) ≤ (j : Int) := by omega
        have hj1 : (j : Int) < (c.hn : Int) := by omega
        have no : hdQ c x j = false → ∀ w3, Below wr.heap.size wr w3 → Nxt W1 w3 (rowsI (hdQ c x) (j + 1)) _ := fun e w3 hb => by
          rw [rowsI_succ, e]; simp only [Bool.false_eq_true, if_false, List.append_nil]; exact HNX.out.up hb
        have NO := Lib.hid no
        clear hcell hh no
        cases hX : exB c.n x with
        | false =>
          have HX := Lib.hid hX
          have HN := Lib.hid (show hdQ c x j = false by unfold hdQ; rw [hX]; rfl)
          clear hX
          go_wp2_with (go_at_call 138; (with_reducible refine (is_gen _ _).mono ?_); rintro e w2 ⟨rfl, hb2⟩; rw [HX.out])
          exact ⟨⟨j + 1, hlt, by go_num, NO.out HN.out _ (below_on (below_al (Below.refl _ _) _) hb2)⟩, by simp [intOf]; omega⟩
        | true =>
          have HX := Lib.hid hX
          by_cases h1 : h.f ≤ x
          · by_cases h2 : x < h.t
            · cases hE : exB c.n h.g with
              | false =>
                have HE := Lib.hid hE
                have HN := Lib.hid (show hdQ c x j = false by unfold hdQ; rw [HP.out]; unfold hdB; rw [hE]; simp)
                clear hE hX
                go_wp2_with (first | (go_at_call 138; (with_reducible refine (is_gen (n := c.n) x _).mono ?_); rintro e w2 ⟨rfl, hb2⟩; rw [HX.out]; obtain ⟨hc2, hf2⟩ := bcell hb2; have hz2 := hb2.size; simp only [World.size_alloc] at hz2 hc2) | (go_at_call 138; (with_reducible refine (is_gen (n := c.n) h.g _).mono ?_); rintro e w3 ⟨rfl, hb3⟩; rw [HE.out]))
                exact ⟨⟨j + 1, hlt, by go_num, NO.out HN.out _ (below_on (below_on (below_al (Below.refl _ _) _) hb2) hb3)⟩, by simp [intOf]; omega⟩
              | true =>
                have HE := Lib.hid hE
                have HN := Lib.hid (show hdQ c x j = true by unfold hdQ; rw [HP.out, hX]; unfold hdB; rw [hE, decide_eq_true ⟨h1, h2⟩]; rfl)
                clear hE hX
                go_wp2_with (first | (go_at_call 138; (with_reducible refine (is_gen (n := c.n) x _).mono ?_); rintro e w2 ⟨rfl, hb2⟩; rw [HX.out]; obtain ⟨hc2, hf2⟩ := bcell hb2; have hz2 := hb2.size; simp only [World.size_alloc] at hz2 hc2) | (go_at_call 138; (with_reducible refine (is_gen (n := c.n) h.g _).mono ?_); rintro e w3 ⟨rfl, hb3⟩; rw [HE.out]; have HN3 := Lib.hid (HNX.out.up (below_on (below_on (below_al (Below.refl _ _) _) hb2) hb3)); have HO3 := Lib.hid (own_below HOWN.out (below_on (below_on (below_al (Below.refl _ _) _) hb2) hb3)); have hz3 := hb3.size) | (at_builtin; refine wpList_append_ints (by rfl) _ _ (by rfl) W1.heap.size q 1 1 (w3.heap.size + 1) _ [(j : Int)] _ _ (by rfl) (HO3.out.alloc _) (by rfl) (Row.one (ten_cell0 (new_at rfl)) (by omega)) rfl (fun h => by cases h) (by omega) (by have := HN3.out.bel.size; simp; omega) ?_; intro v4 w4 ho4 hg4))
                exact ⟨⟨j + 1, hlt, by go_num, by rw [rowsI_succ, HN.out]; simp only [if_true]; exact HN3.out.add (by rw [HQ.out]; exact ho4) hg4⟩, by simp [intOf]; omega⟩
            · have HN := Lib.hid (show hdQ c x j = false by unfold hdQ; rw [HP.out]; unfold hdB; rw [decide_eq_false (fun e => h2 e.2)]; simp)
              clear hX
              go_wp2_with (go_at_call 138; (with_reducible refine (is_gen (n := c.n) x _).mono ?_); rintro e w2 ⟨rfl, hb2⟩; rw [HX.out]; obtain ⟨hc2, hf2⟩ := bcell hb2; have hz2 := hb2.size; simp only [World.size_alloc] at hz2 hc2)
              exact ⟨⟨j + 1, hlt, by go_num, NO.out HN.out _ (below_on (below_al (Below.refl _ _) _) hb2)⟩, by simp [intOf]; omega⟩
          · have HN := Lib.hid (show hdQ c x j = false by unfold hdQ; rw [HP.out]; unfold hdB; rw [decide_eq_false (fun e => h1 e.1)]; simp)
            clear hX
            go_wp2_with (go_at_call 138; (with_reducible refine (is_gen (n := c.n) x _).mono ?_); rintro e w2 ⟨rfl, hb2⟩; rw [HX.out]; obtain ⟨hc2, hf2⟩ := bcell hb2; have hz2 := hb2.size; simp only [World.size_alloc] at hz2 hc2)
            exact ⟨⟨j + 1, hlt, by go_num, NO.out HN.out _ (below_on (below_al (Below.refl _ _) _) hb2)⟩, by simp [intOf]; omega⟩
    · obtain ⟨rfl⟩ : c.hn = j := by omega
      obtain ⟨r0, r1, r2, r3, r4, r5⟩ := six_cells RBr.out
      go_wp2
      go_ret
      rw [HS.out]
      exact own_up HB.out HNX.out.own HNX.out.bel

end Go.Proofs.YtdppooflbjlbcaaDoor.I

/- Ft -/
/- Layer 19: the reference's Successors. -/
namespace Go.Proofs.YtdppooflbjlbcaaDoor.I
open Go.ChangeShapes Go.WideShapes Go.ChangeAt Go.RowKit Go.PlainAid
set_option linter.unusedSimpArgs false
set_option linter.unusedVariables false

set_option maxRecDepth 100000 in
set_option maxHeartbeats 4000000 in
theorem rsc_any (c : Cd) (x : Int) (w : World) (hok : c.ok w) (h9 : ∀ i ∈ c.is, i.tn ≤ 900000) : Calls Tryd.prog 126 #[(Value.agg #[Value.int IntKind.i64 (Cd.st c), Value.int IntKind.i64 (Cd.lo c), Value.slice (Cd.iA c) (Cd.n c) (Cd.ic c), Value.slice (Cd.hA c) (Cd.hn c) (Cd.hc c), Value.slice (Cd.mA c) (Cd.mn c) (Cd.mc c), Value.slice (Cd.lA c) (Cd.ln c) (Cd.lc c)]), .int .i64 x] w (IntsNew w (scL c x)) := by
  have hB : Below w.heap.size w w := Below.refl _ _
  have OK := Lib.hid hok
  clear hok
  cases hex : exB c.n x with
  | false =>
    have HX := Lib.hid hex
    have HS := Lib.hid (scL_no hex)
    clear hex
    go_enter Tryd.func126, Tryd.ntmps126
    go_upto_region 1 with fail
    have R := World.alloc_heap_new w (.cells #[.int .i64 c.st, .int .i64 c.lo, .slice c.iA c.n c.ic, .slice c.hA c.hn c.hc, .slice c.mA c.mn c.mc, .slice c.lA c.ln c.lc] 27)
    replace hB := below_al hB (.cells #[.int .i64 c.st, .int .i64 c.lo, .slice c.iA c.n c.ic, .slice c.hA c.hn c.hc, .slice c.mA c.mn c.mc, .slice c.lA c.ln c.lc] 27)
    generalize w.alloc (.cells #[.int .i64 c.st, .int .i64 c.lo, .slice c.iA c.n c.ic, .slice c.hA c.hn c.hc, .slice c.mA c.mn c.mc, .slice c.lA c.ln c.lc] 27) = W1 at R hB ⊢
    obtain ⟨r0, r1, r2, r3, r4, r5⟩ := six_cells R
    have y1 := lt_heap R
    replace R := Lib.hid R
    go_upto_region 2 with fail
    have HV := Lib.hid (rowV_lit (B := w.heap.size) W1 hB.size)
    have HB := Lib.hid (below_al hB (.cells #[] 3))
    go_wp2_with (go_at_call 138; (with_reducible refine (is_gen _ _).mono ?_); rintro e w1 ⟨rfl, hb1⟩; rw [HX.out])
    go_ret
    rw [HS.out]
    exact (HV.out.up hb1).ret (below_on HB.out hb1)
  | true =>
    obtain ⟨hx0, hx1⟩ := ex_iff.1 hex
    have HX := Lib.hid hex
    obtain ⟨i, hi⟩ := get_someF (l := c.is) (k := x.toNat) (by rw [OK.out.il]; omega)
    have HS := Lib.hid (scL_yes hi hex)
    have HIM := Lib.hid (List.mem_of_getElem? hi)
    have HI := Lib.hid hi
    clear hex
    obtain ⟨k, rfl⟩ : ∃ k : Nat, x = (k : Int) := ⟨x.toNat, by omega⟩
    rw [Int.toNat_natCast] at hi HI
    have hcn := OK.out.ib
    have hw1 : IntKind.i64.wrap ((k : Int) + 1) = (k : Int) + 1 := by simp [IntKind.wrap, IntKind.bits, IntKind.signed]; omega
    go_enter Tryd.func126, Tryd.ntmps126
    go_upto_region 1 with fail
    have R := World.alloc_heap_new w (.cells #[.int .i64 c.st, .int .i64 c.lo, .slice c.iA c.n c.ic, .slice c.hA c.hn c.hc, .slice c.mA c.mn c.mc, .slice c.lA c.ln c.lc] 27)
    replace hB := below_al hB (.cells #[.int .i64 c.st, .int .i64 c.lo, .slice c.iA c.n c.ic, .slice c.hA c.hn c.hc, .slice c.mA c.mn c.mc, .slice c.lA c.ln c.lc] 27)
    generalize w.alloc (.cells #[.int .i64 c.st, .int .i64 c.lo, .slice c.iA c.n c.ic, .slice c.hA c.hn c.hc, .slice c.mA c.mn c.mc, .slice c.lA c.ln c.lc] 27) = W1 at R hB ⊢
    obtain ⟨r0, r1, r2, r3, r4, r5⟩ := six_cells R
    have y1 := lt_heap R
    replace R := Lib.hid R
    go_upto_region 2 with fail
    have HV := Lib.hid (rowV_lit (B := w.heap.size) W1 hB.size)
    have HB := Lib.hid (below_al hB (.cells #[] 3))
    have HR := Lib.hid (laid_old R.out : (W1.alloc (.cells #[] 3)).heap[w.heap.size]? = _)
    generalize hvv : Value.slice (some ⟨W1.heap.size, 0, none⟩) 0 0 = v0 at HV ⊢
    generalize W1.alloc (.cells #[] 3) = W2 at HV HB HR ⊢
    clear r0 r1 r2 r3 r4 r5 y1 R hB hvv
    clear W1
    obtain ⟨r0, r1, r2, r3, r4, r5⟩ := six_cells HR.out
    have yr := lt_heap HR.out
    go_upto_region 4 with (go_at_call 138; (with_reducible refine (is_gen _ _).mono ?_); rintro e w1 ⟨rfl, hb1⟩; rw [HX.out])
    have HR1 := Lib.hid ((hb1.block _ yr).trans HR.out)
    have HV1 := Lib.hid (HV.out.up hb1)
    have HB1 := Lib.hid (below_on HB.out hb1)
    have OK1 := Lib.hid (OK.out.up HB1.out)
    clear r0 r1 r2 r3 r4 r5 yr hb1 HR HV HB
    clear W2
    obtain ⟨r0, r1, r2, r3, r4, r5⟩ := six_cells HR1.out
    have yr := lt_heap HR1.out
    obtain ⟨A, hA⟩ : ∃ A, c.iA = A := ⟨_, rfl⟩
    have HA := Lib.hid hA
    rcases OK1.out.iw with h0 | ⟨g, o, hA2, hg, hcell⟩
    · rw [h0] at hi; simp at hi
    · obtain ⟨iok, a0, a1, a2, a3, a4, a5, a6, a7, a8, a9⟩ := hcell k _ hi
      have IOK := Lib.hid iok
      have hnz := OK.out.nz i HIM.out
      have htn := OK.out.tn i HIM.out
      have HNT := Lib.hid (And.intro hnz htn)
      obtain rfl : A = some ⟨g, o, none⟩ := hA.symm.trans hA2
      rw [hA] at r2
      clear hcell iok hi hA hA2 hnz htn
      go_upto_region 5 with (go_at_call 39; refine (rtg_any i _ IOK.out HNT.out.1 (Nat.le_trans HNT.out.2 (by decide))).mono ?_; intro e w2 hrt; obtain ⟨A3, c3, rfl, hl3, hm3, hn3, hr3, hb3⟩ := hrt)
      have HRT := Lib.hid hr3
      have HR2 := Lib.hid ((hb3.block _ yr).trans HR1.out)
      have HV2 := Lib.hid (HV1.out.up hb3)
      have HB2 := Lib.hid (below_on HB1.out hb3)
      have hA0 := hb3.cell (p := ⟨g, o + k * 10, none⟩) hg
      have hgz : g < w2.heap.size := Nat.lt_of_lt_of_le hg hb3.size
      rw [a0] at hA0
      have HA0 := Lib.hid hA0
      have htl : i.ts.length ≤ 900000 := by have := h9 i HIM.out; have := IOK.out.2.2.2.2.1; omega
      clear r0 r1 r2 r3 r4 r5 yr a0 a1 a2 a3 a4 a5 a6 a7 a8 a9 hr3 hb3 HR1 HV1 HB1 OK1 IOK hg hA0
      clear w1
      have htt : (tgL i).length ≤ 900001 := by
        unfold tgL
        split
        · simp; omega
        · simp
      obtain ⟨T, hT⟩ : ∃ T, tgL i = T := ⟨_, rfl⟩
      rw [hT] at htt HRT hl3
      have HT := Lib.hid hT
      rw [hT]
      obtain ⟨tn, htn⟩ : ∃ tn, T.length = tn := ⟨_, rfl⟩
      have HTN := Lib.hid htn
      rw [htn] at htt hl3 ⊢
      clear hT htn
      go_wp2
      go_loopw [5, 7] (fun v z wr => ∃ j : Nat, j ≤ tn ∧ z = .int .i64 j ∧ RowV w.heap.size wr (ordL ((T.take j).filter (exB c.n))) v ∧ Below w2.heap.size w2 wr) (fun _ z _ => tn - (intOf z).toNat)
      case atStart => exact ⟨0, Nat.zero_le _, rfl, by rw [List.take_zero, List.filter_nil, ord_self List.Pairwise.nil]; exact HV2.out, Below.refl _ _⟩
      case round =>
        clear HV2
        obtain ⟨j, hj, rfl, hv, hbw⟩ := hrel
        have HV := Lib.hid hv
        have HBW := Lib.hid hbw
        have hln : (ordL ((T.take j).filter (exB c.n))).length ≤ 1000000 := Nat.le_trans (ordL_len _) (Nat.le_trans (List.length_filter_le _ _) (by rw [List.length_take, HTN.out]; omega))
        have HRr := Lib.hid ((hbw.block _ (lt_heap HR2.out)).trans HR2.out)
        have HTr := Lib.hid (HRT.out.up hbw)
        obtain ⟨r0, r1, r2, r3, r4, r5⟩ := six_cells HRr.out
        have yr := lt_heap HRr.out
        rw [HA.out] at r2
        clear hv hbw
        by_cases hjt : j < tn
        · obtain ⟨t, ht⟩ := get_someF (l := T) (k := j) (by rw [HTN.out]; exact hjt)
          obtain ⟨gt, ot, rfl, hgt, hct⟩ := row_get HTr.out ht
          have hj0 : (0 : Int) ≤ (j : Int) := by omega
          have hj1 : (j : Int) < (tn : Int) := by omega
          have HTJ := Lib.hid ht
          clear ht
          cases hex : exB c.n t with
          | false =>
            have HET := Lib.hid hex
            clear hex
            go_wp2
            go_region_law (first | (go_simp; go_at_call 138; (with_reducible refine (is_gen _ _).mono ?_); rintro e w3 ⟨rfl, hb3⟩; rw [HET.out]))
            all_goals go_wp2
            all_goals exact ⟨⟨j + 1, hjt, by go_num, by rw [filter_snoc HTJ.out, HET.out]; simp only [Bool.false_eq_true, if_false, List.append_nil]; first | exact HV.out.up hb3 | exact HV.out.up (below_drew hb3), by first | exact below_on HBW.out hb3 | exact below_on HBW.out (below_drew hb3)⟩, by simp [intOf]; omega⟩
          | true =>
            have HET := Lib.hid hex
            clear hex
            go_wp2
            go_region_law (first | (go_simp; go_at_call 138; (with_reducible refine (is_gen _ _).mono ?_); rintro e w3 ⟨rfl, hb3⟩; rw [HET.out]))
            all_goals
              have hb3' : Below wr.heap.size wr w3 := by first | exact hb3 | exact below_drew hb3
              have HV3 := Lib.hid (HV.out.up hb3')
              have HB3 := Lib.hid (below_on HBW.out hb3')
              have hct3 := hb3'.cell (p := ⟨gt, ot + j, none⟩) hgt
              rw [hct] at hct3
              have hgt3 : gt < w3.heap.size := Nat.lt_of_lt_of_le hgt hb3'.size
              clear hb3 hb3'
              go_wp2_with (go_at_call 128; refine (addv_any t HV3.out (below_on HB2.out HB3.out).size hln (ordL_spec _).1).mono ?_; rintro e w4 ⟨v4, rfl, hv4, hb4⟩)
              exact ⟨⟨j + 1, hjt, by go_num, by rw [filter_snoc HTJ.out, HET.out]; simp only [if_true]; rw [← ord_snoc]; exact hv4, below_on HB3.out hb4⟩, by simp [intOf]; omega⟩
        · obtain ⟨rfl⟩ : tn = j := by omega
          have HVT := Lib.hid (show RowV w.heap.size wr (ordL ((tgL i).filter (exB c.n))) _ by have := HV.out; rw [List.take_of_length_le (by rw [HTN.out]; exact Nat.le_refl _)] at this; rw [HT.out]; exact this)
          have hll : (ordL ((tgL i).filter (exB c.n))).length ≤ 1000000 := by
            have := hln
            rw [List.take_of_length_le (by rw [HTN.out]; exact Nat.le_refl _)] at this
            rw [HT.out]; exact this
          have ha0 := HBW.out.cell (p := ⟨g, o + k * 10, none⟩) hgz
          rw [HA0.out] at ha0
          have hgr : g < wr.heap.size := Nat.lt_of_lt_of_le hgz HBW.out.size
          have HBB := Lib.hid (below_on HB2.out HBW.out)
          cases hT : termB i.op with
          | true =>
            have HTM := Lib.hid hT
            have HNL := Lib.hid (show nxL c.n i k = (tgL i).filter (exB c.n) by unfold nxL; rw [hT]; simp)
            clear hT
            go_wp2_with (go_at_call 41; refine (rterm_any _ _).mono ?_; rintro e w' ⟨rfl, rfl⟩; rw [HTM.out])
            go_ret
            rw [HS.out, HNL.out]
            exact HVT.out.ret HBB.out
          | false =>
            have HTM := Lib.hid hT
            cases hE : exB c.n ((k : Int) + 1) with
            | false =>
              have HE := Lib.hid hE
              have HNL := Lib.hid (show nxL c.n i k = (tgL i).filter (exB c.n) by unfold nxL; rw [hE]; simp)
              clear hT hE
              go_wp2_with (first | (go_at_call 41; refine (rterm_any _ _).mono ?_; rintro e w' ⟨rfl, rfl⟩; rw [HTM.out]) | (go_at_call 138; (with_reducible refine (is_gen _ _).mono ?_); rintro e w3 ⟨rfl, hb3⟩; rw [HE.out]))
              go_ret
              rw [HS.out, HNL.out]
              exact (HVT.out.up hb3).ret (below_on HBB.out hb3)
            | true =>
              have HE := Lib.hid hE
              have HNL := Lib.hid (show nxL c.n i k = (tgL i).filter (exB c.n) ++ [(k : Int) + 1] by unfold nxL; rw [hE, hT]; simp)
              clear hT hE
              go_wp2_with (first | (go_at_call 41; refine (rterm_any _ _).mono ?_; rintro e w' ⟨rfl, rfl⟩; rw [HTM.out]) | (go_at_call 138; (with_reducible refine (is_gen _ _).mono ?_); rintro e w3 ⟨rfl, hb3⟩; rw [HE.out]; have HV3 := Lib.hid (HVT.out.up hb3); have HB3 := Lib.hid (below_on HBB.out hb3); clear hb3) | (go_at_call 128; refine (addv_any ((k : Int) + 1) HV3.out HB3.out.size hll (ordL_spec _).1).mono ?_; rintro e w4 ⟨v4, rfl, hv4, hb4⟩))
              go_ret
              rw [HS.out, HNL.out, ← ord_snoc]
              exact hv4.ret (below_on HB3.out hb4)

end Go.Proofs.YtdppooflbjlbcaaDoor.I

/- Fu -/
/- Layer 19: the reference's Edges; few. -/
namespace Go.Proofs.YtdppooflbjlbcaaDoor.I
open Go.ChangeShapes Go.WideShapes Go.ChangeAt Go.RowKit Go.PlainAid
set_option linter.unusedSimpArgs false
set_option linter.unusedVariables false

/-- small enough for the statements -/
structure Cd.few (c : Cd) : Prop where
  n : c.n ≤ 300
  hn : c.hn ≤ 60
  tn : ∀ i ∈ c.is, i.tn ≤ 100
theorem scL_few {c : Cd} {w : World} (h : c.ok w) (hf : c.few) (x : Int) : (scL c x).length ≤ 102 := by
  unfold scL
  cases hi : c.is[x.toNat]? with
  | none => simp
  | some i =>
    show (if _ then _ else _ : List Int).length ≤ _
    split
    · refine Nat.le_trans (ordL_len _) ?_
      have hm := List.mem_of_getElem? hi
      have htl : i.ts.length = i.tn := by
        obtain ⟨j, hj, he⟩ := List.getElem_of_mem hm
        rcases h.iw with h0 | ⟨g, o, hA, hg, hc⟩
        · rw [h0] at hm; cases hm
        · exact (hc j i (by rw [List.getElem?_eq_getElem hj, he])).1.2.2.2.2.1
      have ht : (tgL i).length ≤ 101 := by
        have := hf.tn i hm
        unfold tgL
        split
        · simp; omega
        · simp
      have h1 := List.length_filter_le (exB c.n) (tgL i)
      unfold nxL
      rw [List.length_append]
      split <;> simp <;> omega
    · simp
set_option maxRecDepth 100000 in
set_option maxHeartbeats 4000000 in
theorem red_any (c : Cd) (x : Int) (w : World) (hok : c.ok w) (hf : c.few) : Calls Tryd.prog 101 #[(Value.agg #[Value.int IntKind.i64 (Cd.st c), Value.int IntKind.i64 (Cd.lo c), Value.slice (Cd.iA c) (Cd.n c) (Cd.ic c), Value.slice (Cd.hA c) (Cd.hn c) (Cd.hc c), Value.slice (Cd.mA c) (Cd.mn c) (Cd.mc c), Value.slice (Cd.lA c) (Cd.ln c) (Cd.lc c)]), .int .i64 x] w (IntsNew w (edL c x)) := by
  have hB : Below w.heap.size w w := Below.refl _ _
  have OK := Lib.hid hok
  have h9 := Lib.hid (fun i (hi : i ∈ c.is) => show i.tn ≤ 900000 by have := hf.tn i hi; omega)
  have hsl := scL_few hok hf x
  have hhl := hdL_len c x
  have hhb := hf.hn
  clear hok
  have HED := Lib.hid (show edL c x = ordL (scL c x ++ (hdL c x).map (tgtV c)) from rfl)
  have HSO := Lib.hid (show (scL c x).Pairwise (· < ·) by
    unfold scL
    cases c.is[x.toNat]? with
    | none => exact List.Pairwise.nil
    | some i =>
      show (if _ then _ else _ : List Int).Pairwise _
      split
      · exact (ordL_spec _).1
      · exact List.Pairwise.nil)
  go_enter Tryd.func101, Tryd.ntmps101
  go_upto_region 1 with fail
  have R := World.alloc_heap_new w (.cells #[.int .i64 c.st, .int .i64 c.lo, .slice c.iA c.n c.ic, .slice c.hA c.hn c.hc, .slice c.mA c.mn c.mc, .slice c.lA c.ln c.lc] 27)
  replace hB := below_al hB (.cells #[.int .i64 c.st, .int .i64 c.lo, .slice c.iA c.n c.ic, .slice c.hA c.hn c.hc, .slice c.mA c.mn c.mc, .slice c.lA c.ln c.lc] 27)
  generalize w.alloc (.cells #[.int .i64 c.st, .int .i64 c.lo, .slice c.iA c.n c.ic, .slice c.hA c.hn c.hc, .slice c.mA c.mn c.mc, .slice c.lA c.ln c.lc] 27) = W1 at R hB ⊢
  obtain ⟨r0, r1, r2, r3, r4, r5⟩ := six_cells R
  have y1 := lt_heap R
  replace R := Lib.hid R
  have OK1 := Lib.hid (OK.out.up hB)
  have HB := Lib.hid hB
  have HR1 := Lib.hid R.out
  go_upto_region 2 with (go_at_call 126; (with_reducible refine (rsc_any c _ _ OK1.out h9.out).mono ?_); intro e w1 hra; obtain ⟨v, rfl, hv1, hb1⟩ := hra.get; clear hra)
  have HV1 := Lib.hid (hv1.more hB.size)
  have HB1 := Lib.hid (below_on hB hb1)
  have OK2 := Lib.hid (OK1.out.up hb1)
  have HR2 := Lib.hid ((hb1.block _ y1).trans R.out)
  clear r0 r1 r2 r3 r4 r5 y1 R hB hv1 hb1 HB HR1 OK1
  clear W1
  obtain ⟨r0, r1, r2, r3, r4, r5⟩ := six_cells HR2.out
  have yr := lt_heap HR2.out
  obtain ⟨HH, hHH⟩ : ∃ HH, hdL c x = HH := ⟨_, rfl⟩
  have HHM := Lib.hid (fun r (hr : r ∈ HH) => hdL_mem (c := c) (x := x) (r := r) OK2.out (by rw [hHH]; exact hr))
  rw [hHH] at HED hhl
  have HHH := Lib.hid hHH
  clear hHH
  obtain ⟨m, hm⟩ : ∃ m, HH.length = m := ⟨_, rfl⟩
  have HM := Lib.hid hm
  rw [hm] at hhl
  clear hm
  go_upto_region 3 with (go_at_call 127; (with_reducible refine (rhd_any c _ _ OK2.out).mono ?_); rintro e w2 ⟨v2, rfl, ho2, hb2⟩; rw [HHH.out, HM.out] at ho2; obtain ⟨A3, c3, rfl, hc3, hm3, _⟩ := own_form ho2)
  have HRW := Lib.hid (Row.of_own ho2).1
  have HV2 := Lib.hid (HV1.out.up hb2)
  have HB2 := Lib.hid (below_on HB1.out hb2)
  have OK3 := Lib.hid (OK2.out.up hb2)
  have HR3 := Lib.hid ((hb2.block _ yr).trans HR2.out)
  clear r0 r1 r2 r3 r4 r5 yr ho2 hb2 HV1 HB1 OK2 HR2
  clear w1
  go_wp2
  go_loopw [5, 7] (fun v z wr => ∃ j : Nat, j ≤ m ∧ z = .int .i64 j ∧ RowV w.heap.size wr (ordL (scL c x ++ (HH.take j).map (tgtV c))) v ∧ Below w2.heap.size w2 wr) (fun _ z _ => m - (intOf z).toNat)
  case atStart => exact ⟨0, Nat.zero_le _, rfl, by rw [List.take_zero, List.map_nil, List.append_nil, ord_self HSO.out]; exact HV2.out, Below.refl _ _⟩
  case round =>
    clear HV2
    obtain ⟨j, hj, rfl, hv, hbw⟩ := hrel
    have HV := Lib.hid hv
    have HBW := Lib.hid hbw
    have hln : (ordL (scL c x ++ (HH.take j).map (tgtV c))).length ≤ 1000000 := Nat.le_trans (ordL_len _) (by rw [List.length_append, List.length_map, List.length_take]; omega)
    have HRr := Lib.hid ((hbw.block _ (lt_heap HR3.out)).trans HR3.out)
    have HTr := Lib.hid (HRW.out.up hbw)
    have OKr := Lib.hid (OK3.out.up hbw)
    obtain ⟨r0, r1, r2, r3, r4, r5⟩ := six_cells HRr.out
    have yr := lt_heap HRr.out
    clear hv hbw
    by_cases hlt : j < m
    · obtain ⟨r, hr⟩ := get_someF (l := HH) (k := j) (by rw [HM.out]; exact hlt)
      obtain ⟨jr, y, rfl, hjr, hy, _⟩ := HHM.out r (List.mem_of_getElem? hr)
      obtain ⟨gt, ot, rfl, hgt, hct⟩ := row_get HTr.out hr
      have HTG := Lib.hid (show tgtV c jr = y.g by unfold tgtV; rw [Int.toNat_natCast, hy])
      have HTK := Lib.hid (take_snocF hr)
      rcases OKr.out.hw with h0 | ⟨g, o, hA, hg, hcell⟩
      · rw [h0] at hy; simp at hy
      · obtain ⟨a0, a1, a2, a3, a4⟩ := hcell jr y hy
        rw [hA] at r3
        clear hA
        have hj0 : (0 : Int) ≤ (j : Int) := by omega
        have hj1 : (j : Int) < (m : Int) := by omega
        have hk0 : (0 : Int) ≤ (jr : Int) := by omega
        have hk1 : (jr : Int) < (c.hn : Int) := by omega
        have HADD := Lib.hid (fun W (hW : Below wr.heap.size wr W) => addv_any y.g (HV.out.up hW) (below_on (below_on HB2.out HBW.out) hW).size hln (ordL_spec _).1)
        clear hcell hy hr a0 a1 a3 a4
        go_wp2
        go_region_law (first | (go_simp; go_at_call 128; first | (refine (HADD.out wr (Below.refl _ _)).mono ?_) | (refine (HADD.out wr.drew (below_dr (Below.refl _ _) 1)).mono ?_) | (refine (HADD.out (wr.drewN 1) (below_dr (Below.refl _ _) 1)).mono ?_) | (refine (HADD.out (wr.drewN 2) (below_dr (Below.refl _ _) 2)).mono ?_)); rintro e w4 ⟨v4, rfl, hv4, hb4⟩)
        all_goals
          have hb4' : Below wr.heap.size wr w4 := by first | exact hb4 | exact below_drew hb4 | exact ⟨hb4.os, hb4.tape, hb4.output, hb4.size, hb4.block⟩
          clear hb4
          go_wp2
          exact ⟨⟨j + 1, hlt, by go_num, by rw [HTK.out, List.map_append, ← List.append_assoc, List.map_cons, List.map_nil, ← ord_snoc]; rw [← HTG.out] at hv4; exact hv4, below_on HBW.out hb4'⟩, by simp [intOf]; omega⟩
    · obtain ⟨rfl⟩ : m = j := by omega
      have HF := Lib.hid (show scL c x ++ (HH.take m).map (tgtV c) = scL c x ++ HH.map (tgtV c) by rw [List.take_of_length_le (by rw [HM.out]; exact Nat.le_refl _)])
      go_wp2
      go_ret
      rw [HED.out, ← HF.out]
      exact HV.out.ret (below_on HB2.out HBW.out)

end Go.Proofs.YtdppooflbjlbcaaDoor.I

/- Fb -/
/- Layer 19: BackEdges. -/
namespace Go.Proofs.YtdppooflbjlbcaaDoor.I
open Go.ChangeShapes Go.WideShapes Go.ChangeAt Go.RowKit Go.PlainAid
set_option linter.unusedSimpArgs false
set_option linter.unusedVariables false

def prow (L : List (Int × Int)) : List Value := L.flatMap fun p => [.int .i64 p.1, .int .i64 p.2]
theorem prow_len (L : List (Int × Int)) : (prow L).length = L.length * 2 := by
  unfold prow
  induction L with
  | nil => rfl
  | cons p L ih => rw [List.flatMap_cons, List.length_append, ih, List.length_cons]; simp; omega
theorem prow_snoc (L : List (Int × Int)) (p : Int × Int) : prow (L ++ [p]) = prow L ++ [.int .i64 p.1, .int .i64 p.2] := by unfold prow; simp
theorem own_typesF {w : World} {B B' e e' k k' n n' b : Nat} {v v' : Value} {xs xs' : List Value} (h : w.ownsRow B e k v n xs) (h2 : w.ownsRow B' e' k' v' n' xs') (he : e ≠ e') (h3 : v.ownBlock = some b) : v'.ownBlock ≠ some b := by
  intro h4
  rcases h.2 with ⟨rfl, _⟩ | ⟨g, cap, cur, rfl, _, hg, _⟩
  · cases h3
  · rcases h2.2 with ⟨rfl, _⟩ | ⟨g', cap', cur', rfl, _, hg', _⟩
    · cases h4
    · have e1 : g = b := Option.some.inj h3
      have e2 : g' = b := Option.some.inj h4
      subst e1
      subst e2
      rw [hg] at hg'
      have := Option.some.inj hg'
      injection this with _ h5 _
      exact he h5
theorem own_keptF {w w' : World} {B B' e e' k k' n n' : Nat} {v v' : Value} {xs xs' : List Value} (h : w.ownsRow B e k v n xs) (h2 : w.ownsRow B' e' k' v' n' xs') (he : e ≠ e') (hg : w.grownBy w' v.ownBlock) : w'.ownsRow B' e' k' v' n' xs' := by
  refine h2.kept hg ?_
  cases hk : v'.ownBlock with
  | none => exact Or.inl rfl
  | some b => exact Or.inr (fun e => own_typesF h h2 he e.symm hk)
theorem two_cellsF {W : World} {B : Nat} {a b : Value} {t : TypeId} (hh : W.heap[B]? = some (.cells #[a, b] t)) : W.cell? ⟨B, 0, none⟩ = some a ∧ W.cell? ⟨B, 1, none⟩ = some b := by constructor <;> simp [World.cell?, hh]
/-- the back edges of the first k -/
def beK (c : Cd) (k : Nat) : List (Int × Int) := (List.range k).flatMap fun (j : Nat) => ((scL c j).filter (fun t => decide (t ≤ (j : Int)))).map fun t => ((j : Int), t)
theorem beK_succ (c : Cd) (k : Nat) : beK c (k + 1) = beK c k ++ ((scL c k).filter (fun t => decide (t ≤ (k : Int)))).map fun t => ((k : Int), t) := by unfold beK; rw [List.range_succ, List.flatMap_append]; simp
theorem beK_len {c : Cd} {w : World} (h : c.ok w) (hf : c.few) : ∀ k, (beK c k).length ≤ 102 * k
  | 0 => by simp [beK]
  | k + 1 => by
    have ih := beK_len h hf k
    have h1 := scL_few h hf k
    have h2 := List.length_filter_le (fun t => decide (t ≤ (k : Int))) (scL c k)
    rw [beK_succ, List.length_append, List.length_map]
    omega
end Go.Proofs.YtdppooflbjlbcaaDoor.I

/- Fd -/
/- Layer 19: a queue: the tail of a row of the call's own. -/
namespace Go.Proofs.YtdppooflbjlbcaaDoor.I
open Go.ChangeShapes Go.WideShapes Go.ChangeAt Go.RowKit Go.PlainAid
set_option linter.unusedSimpArgs false
set_option linter.unusedVariables false

/-- the tail of a row: at whatever place it begins -/
def Tl (B : Nat) (w : World) (L : List Int) (v : Value) : Prop :=
  ∃ g o cap cur, v = .slice (some ⟨g, o, none⟩) L.length cap ∧ B ≤ g ∧ w.heap[g]? = some (.cells cur 3 (0, 0)) ∧ L.length ≤ cap ∧ o + cap ≤ cur.size ∧ cap ≤ maxLen ∧ ∀ (j : Nat) (x : Int), L[j]? = some x → cur[o + j]? = some (.int .i64 x)
theorem Tl.cell {B g o cap : Nat} {w : World} {L : List Int} {n : Nat} (h : Tl B w L (.slice (some ⟨g, o, none⟩) n cap)) {j : Nat} {x : Int} (hx : L[j]? = some x) : w.cell? ⟨g, o + j, none⟩ = some (.int .i64 x) := by
  obtain ⟨g', o', cap', cur, hv, hB, hg, hc, ho, hm, hat⟩ := h
  injection hv with h1 h2 h3
  injection h1 with h1
  injection h1 with h1 h4
  subst h1 h4
  simp [World.cell?, hg, hat j x hx]
theorem Tl.lt {B : Nat} {w : World} {L : List Int} {v : Value} (h : Tl B w L v) : ∀ b, v.ownBlock = some b → B ≤ b ∧ b < w.heap.size := by
  obtain ⟨g, o, cap, cur, rfl, hB, hg, _⟩ := h
  intro b hb
  have : g = b := Option.some.inj hb
  subst this
  exact ⟨hB, lt_heap hg⟩
theorem Tl.kept {B : Nat} {w w' : World} {L : List Int} {v : Value} {r : Option Nat} (h : Tl B w L v) (hg : w.grownBy w' r) (hr : v.ownBlock ≠ r) : Tl B w' L v := by
  obtain ⟨g, o, cap, cur, rfl, hB, hh, rest⟩ := h
  exact ⟨g, o, cap, cur, rfl, hB, (hg.block g (lt_heap hh) (fun e => hr e)).trans hh, rest⟩
theorem Tl.below {B : Nat} {w w' : World} {L : List Int} {v : Value} (h : Tl B w L v) (hb : Below w.heap.size w w') : Tl B w' L v := by
  obtain ⟨g, o, cap, cur, rfl, hB, hh, rest⟩ := h
  exact ⟨g, o, cap, cur, rfl, hB, (hb.block g (lt_heap hh)).trans hh, rest⟩
theorem Tl.of_own {B : Nat} {w : World} {L : List Int} {g n cap : Nat} (h : w.ownsRow B 3 1 (.slice (some ⟨g, 0, none⟩) n cap) n (Ri L)) : Tl B w L (.slice (some ⟨g, 0, none⟩) n cap) := by
  have h1 := h.1
  rw [ri_len] at h1
  rcases h.2 with ⟨hv, _⟩ | ⟨g', cap', cur, hv, hb, hg, hnc, hcm, hcs, htake⟩
  · cases hv
  · injection hv with e1 e2 e3
    injection e1 with e1
    injection e1 with e1
    subst e1 e3
    obtain rfl : n = L.length := by omega
    refine ⟨g, 0, cap, cur, rfl, hb, hg, hnc, by omega, hcm, fun j x hx => ?_⟩
    have hj := get_ltF hx
    have : (cur.toList.take (L.length * 1))[j]? = (Ri L)[j]? := by rw [htake]
    rw [List.getElem?_take, if_pos (by omega)] at this
    unfold Ri at this
    rw [List.getElem?_map, hx] at this
    rw [Nat.zero_add]
    simpa using this
/-- the first taken away -/
theorem Tl.tail {B : Nat} {w : World} {L : List Int} {x : Int} {g o n cap : Nat} (h : Tl B w (x :: L) (.slice (some ⟨g, o, none⟩) n cap)) : Tl B w L (.slice (if cap = 1 then some ⟨g, o, none⟩ else some ⟨g, o + 1, none⟩) (n - 1) (cap - 1)) := by
  obtain ⟨g', o', cap', cur, hv, hB, hg, hc, ho, hm, hat⟩ := h
  injection hv with h1 h2 h3
  injection h1 with h1
  injection h1 with h1 h4
  subst h1 h4 h3 h2
  simp only [List.length_cons] at hc
  by_cases h1 : cap = 1
  · rw [if_pos h1]
    obtain rfl : L = [] := List.eq_nil_of_length_eq_zero (by omega)
    exact ⟨g, o, cap - 1, cur, rfl, hB, hg, by simp, by omega, by omega, fun j y hy => by simp at hy⟩
  · rw [if_neg h1]
    refine ⟨g, o + 1, cap - 1, cur, by simp, hB, hg, by omega, by omega, by omega, fun j y hy => ?_⟩
    have := hat (j + 1) y (by simpa using hy)
    rw [show o + 1 + j = o + (j + 1) by omega]
    exact this
theorem run_append_tl {w : World} {B : Nat} {L : List Int} {v : Value} (ty : TypeId) (h : Tl B w L v) (x : Int) {ad : Addr} {c : Nat} (hrow : Row w w.heap.size (some ad) [x]) (hb : L.length + 1 ≤ 1000000) (hB : B ≤ w.heap.size) :
    ∃ v' w', (Builtin.append_ #[32, 32] ty #[v, .slice (some ad) 1 c]).run Tryd.prog w = .ok v' w' ∧ Tl B w' (L ++ [x]) v' ∧ w.grownBy w' v.ownBlock ∧ Lies w v v' := by
  obtain ⟨i0, hi, hz0, hz1, hz2⟩ := info_parts infoI
  obtain ⟨g, o, cap, cur, rfl, hBg, hg, hc, ho, hm, hat⟩ := h
  have hnew := hrow.news
  by_cases hroom : L.length + 1 ≤ cap
  · have hr := run_append_room_cells (P := Tryd.prog) w 32 ty 3 i0 Tryd.underlying32 hi g o L.length cap ad 1 c (Ri [x]) (by rw [hz1]; rfl) hnew (ri_one [x]) hroom
      (fun j hj => by
        have hj0 : j = 0 := by simp [Ri] at hj; exact hj
        subst hj0
        rw [hz1]
        simp [World.cell?, hg]
        omega) (fun j hj => by simp [World.frozen?, hg])
    refine ⟨_, _, hr, ⟨g, o, cap, cur.setIfInBounds (o + L.length) (.int .i64 x), by simp, hBg, ?_, by simpa using hroom, by simpa using ho, hm, fun j y hy => ?_⟩, ?_⟩
    · rw [hz1]
      show ((w.setCell ⟨g, o + L.length * 1, none⟩ (.int .i64 x))).heap[g]? = _
      rw [Nat.mul_one]
      exact heap_setCell_same w g _ _ _ _ hg
    · rw [Array.getElem?_setIfInBounds]
      rcases Nat.lt_or_ge j L.length with hj | hj
      · rw [if_neg (by omega)]
        rw [List.getElem?_append_left hj] at hy
        exact hat j y hy
      · rw [List.getElem?_append_right hj] at hy
        have hj2 : j = L.length := by
          rcases Nat.lt_or_ge (j - L.length) 1 with h' | h'
          · omega
          · rw [List.getElem?_eq_none (by simpa using h')] at hy; cases hy
        subst hj2
        rw [Nat.sub_self] at hy
        have hxy : x = y := by simpa using hy
        rw [if_pos rfl, if_pos (by omega), hxy]
    · rw [hz1]
      refine ⟨?_, Or.inl rfl⟩
      show w.grownBy (w.setCell ⟨g, o + L.length * 1, none⟩ (.int .i64 x)) (some g)
      exact grown_set
  · obtain ⟨v2, w2, hr2, g1, g2⟩ := run_append_arg_grows (P := Tryd.prog) w 32 ty 3 i0 (.int .i64 0) 1 8 Tryd.underlying32 hi hz0 hz1 hz2 rfl (by decide) ⟨g, o, none⟩ L.length cap (Ri L) (by rw [ri_len]; omega) (fun j u hu => by
      unfold Ri at hu
      rw [List.getElem?_map] at hu
      cases hx : L[j]? with
      | none => rw [hx] at hu; cases hu
      | some y =>
        rw [hx] at hu
        obtain rfl := Option.some.inj hu
        rw [Addr.add_lit]
        simp [World.cell?, hg, hat j y hx]) ad 1 c (Ri [x]) (by rfl) hnew (by omega) (by unfold maxLen; omega) (by omega)
    have hw := g1
    refine ⟨v2, w2, hr2, ?_, ⟨g2.os, g2.tape, g2.output, g2.size, fun k hk hne => g2.block k hk (by simp)⟩, ?_⟩
    rotate_left
    · obtain ⟨g5, cap5, hv5, hb5, _⟩ := hw.form (by omega)
      exact Or.inr ⟨g5, by rw [hv5]; rfl, hb5⟩
    have g3 := own_leF g1 hB
    rw [← ri_app] at g3
    obtain ⟨g4, cap4, hv4, _, _⟩ := g3.form (by omega)
    subst hv4
    exact Tl.of_own g3
theorem wpList_append_tl {w : World} {ops : Array Oper} {rest : List Oper} {o : Oper} {a : Act} {Q : Exit → Act → World → Prop} (hgd : o.guard = none) (s x : Operand)
    (hop : o.op = Op.call { callee := Callee.builtin Builtin.append, args := #[s, x], argTypes := #[32, 32] })
    (B : Nat) (L : List Int) (y : Int) (v : Value) (ad : Addr) (c : Nat) (hs : a.eval s = v) (h : Tl B w L v) (hx : a.eval x = .slice (some ad) 1 c) (hrow : Row w w.heap.size (some ad) [y]) (hb : L.length + 1 ≤ 1000000) (hB : B ≤ w.heap.size)
    (hK : ∀ v' w', Tl B w' (L ++ [y]) v' → w.grownBy w' v.ownBlock → Lies w v v' → wpList Tryd.prog ops Q rest (a.put o.dst v') w') : wpList Tryd.prog ops Q (o :: rest) a w := by
  refine wpList_plain hgd fun K hK' => ?_
  obtain ⟨v', w', hrun, r1, r2, r3⟩ := run_append_tl o.type h y (c := c) hrow hb hB
  unfold Oper.wp
  simp [execOp, hop, resolve, invoke, builtin, hs, hx, hrun, Result.andThen]
  exact hK' _ _ (hK v' w' r1 r2 r3)

end Go.Proofs.YtdppooflbjlbcaaDoor.I

/- Fp -/
/- Layer 19: distances, pure. -/
namespace Go.Proofs.YtdppooflbjlbcaaDoor.I
open Go.ChangeShapes Go.WideShapes Go.ChangeAt Go.RowKit Go.PlainAid
set_option linter.unusedSimpArgs false
set_option linter.unusedVariables false

/-- what is done with the edges of a -/
def dsIn (a : Int) : List Int → List Int → List Int → List Int × List Int
  | f, q, [] => (f, q)
  | f, q, t :: r => if f.getD t.toNat 0 < 0 then dsIn a (f.set t.toNat (f.getD a.toNat 0 + 1)) (q ++ [t]) r else dsIn a f q r
/-- what is done with the queue -/
def dsOut (c : Cd) : Nat → List Int → List Int → List Int
  | 0, f, _ => f
  | _ + 1, f, [] => f
  | n + 1, f, a :: q => dsOut c n (dsIn a f q (edL c a)).1 (dsIn a f q (edL c a)).2
/-- what is still to come -/
def mu (f q : List Int) : Nat := (f.filter (· < 0)).length + q.length
theorem neg_set : ∀ (f : List Int) (k : Nat) (y : Int), f.getD k 0 < 0 → 0 ≤ y → ((f.set k y).filter (· < 0)).length + 1 = (f.filter (· < 0)).length
  | [], k, y, h, _ => by simp at h
  | x :: f, 0, y, h, hy => by
    simp at h
    rw [List.set_cons_zero, List.filter_cons_of_neg (by simpa using hy), List.filter_cons_of_pos (by simpa using h), List.length_cons]
  | x :: f, k + 1, y, h, hy => by
    have ih := neg_set f k y (by simpa using h) hy
    rw [List.set_cons_succ]
    by_cases hx : x < 0
    · rw [List.filter_cons_of_pos (by simpa using hx), List.filter_cons_of_pos (by simpa using hx), List.length_cons, List.length_cons]; omega
    · rw [List.filter_cons_of_neg (by simpa using hx), List.filter_cons_of_neg (by simpa using hx)]; exact ih
theorem dsIn_mu (a : Int) : ∀ (S f q : List Int), 0 ≤ f.getD a.toNat 0 → mu (dsIn a f q S).1 (dsIn a f q S).2 = mu f q ∧ (dsIn a f q S).1.length = f.length
  | [], f, q, _ => ⟨rfl, rfl⟩
  | t :: r, f, q, h => by
    unfold dsIn
    by_cases ht : f.getD t.toNat 0 < 0
    · rw [if_pos ht]
      have hne : t.toNat ≠ a.toNat := fun e => by rw [e] at ht; omega
      have hg : (f.set t.toNat (f.getD a.toNat 0 + 1)).getD a.toNat 0 = f.getD a.toNat 0 := by
        rw [List.getD_eq_getElem?_getD, List.getElem?_set, if_neg hne, ← List.getD_eq_getElem?_getD]
      have ih := dsIn_mu a r (f.set t.toNat (f.getD a.toNat 0 + 1)) (q ++ [t]) (by rw [hg]; exact h)
      have hn := neg_set f t.toNat (f.getD a.toNat 0 + 1) ht (by omega)
      refine ⟨?_, by rw [ih.2, List.length_set]⟩
      rw [ih.1]
      unfold mu
      rw [List.length_append]
      simp only [List.length_cons, List.length_nil]
      omega
    · rw [if_neg ht]
      exact dsIn_mu a r f q h
/-- the distances -/
def distL (c : Cd) : List Int := if c.n = 0 then [] else dsOut c (c.n + 1) ((List.replicate c.n (-1)).set 0 0) [0]
theorem mu_start {n : Nat} (h : 0 < n) : mu ((List.replicate n (-1)).set 0 0) [0] = n := by
  have := neg_set (List.replicate n (-1)) 0 0 (by rw [List.getD_eq_getElem?_getD, List.getElem?_replicate, if_pos h]; decide) (Int.le_refl _)
  unfold mu
  have h2 : ((List.replicate n (-1 : Int)).filter (· < 0)).length = n := by rw [List.filter_eq_self.2 (fun x hx => by rw [List.eq_of_mem_replicate hx]; decide)]; simp
  simp only [List.length_cons, List.length_nil]
  omega

end Go.Proofs.YtdppooflbjlbcaaDoor.I

/- Fi -/
/- Layer 19: Distances. -/
namespace Go.Proofs.YtdppooflbjlbcaaDoor.I
open Go.ChangeShapes Go.WideShapes Go.ChangeAt Go.RowKit Go.PlainAid
set_option linter.unusedSimpArgs false
set_option linter.unusedVariables false

theorem made_ri (n : Nat) : (madeCells (Value.int .i64 0).cells (n * 1)).toList = Ri (List.replicate n 0) := by
  unfold madeCells Ri
  rw [Nat.mul_one]
  apply List.ext_getElem
  · simp
  · intro i h1 h2
    simp [Value.cells, Nat.mod_one]
/-- the distances' row while the call runs -/
structure Fr (W wr : World) (n : Nat) (F : List Int) : Prop where
  own : wr.ownsRow W.heap.size 3 1 (.slice (some ⟨W.heap.size, 0, none⟩) n n) n (Ri F)
  bel : Below W.heap.size W wr
theorem Fr.len {W wr : World} {n : Nat} {F : List Int} (h : Fr W wr n F) : F.length = n := by have := h.own.1; rw [ri_len] at this; omega
theorem Fr.cell {W wr : World} {n : Nat} {F : List Int} (h : Fr W wr n F) {j : Nat} (hj : j < n) : wr.cell? ⟨W.heap.size, j, none⟩ = some (.int .i64 (F.getD j 0)) := by
  rw [h.own.cellAt j (by omega)]
  unfold Ri
  have hl := h.len
  rw [List.getElem?_map, List.getD_eq_getElem?_getD, List.getElem?_eq_getElem (by omega)]; rfl
theorem Fr.put {W wr : World} {n : Nat} {F : List Int} (h : Fr W wr n F) (j : Nat) (x : Int) : Fr W (wr.setCell ⟨W.heap.size, j, none⟩ (.int .i64 x)) n (F.set j x) := by
  have hs := h.own.stored j (.int .i64 x)
  refine ⟨by unfold Ri; rw [List.map_set]; exact hs.1, below_st (p := ⟨W.heap.size, j, none⟩) h.bel (Nat.le_refl _) _⟩
theorem Fr.up {W wr w2 : World} {n : Nat} {F : List Int} (h : Fr W wr n F) (hb : Below wr.heap.size wr w2) : Fr W w2 n F := ⟨own_below h.own hb, below_on h.bel hb⟩
theorem Fr.sz {W wr : World} {n : Nat} {F : List Int} (h : Fr W wr n F) (h0 : 0 < n) : W.heap.size < wr.heap.size := (h.own.lt W.heap.size rfl).2
theorem edL_bd {c : Cd} {w : World} (h : c.ok w) (x : Int) : ∀ t ∈ edL c x, 0 ≤ t ∧ t < c.n := by
  intro t ht
  unfold edL at ht
  rw [(ordL_spec _).2, List.mem_append] at ht
  rcases ht with ht | ht
  · unfold scL at ht
    cases hi : c.is[x.toNat]? with
    | none => rw [hi] at ht; cases ht
    | some i =>
      rw [hi] at ht
      change t ∈ (if _ then _ else _ : List Int) at ht
      split at ht
      · rw [(ordL_spec _).2] at ht
        unfold nxL at ht
        rcases List.mem_append.1 ht with ht | ht
        · exact ex_iff.1 (List.mem_filter.1 ht).2
        · split at ht
          · rename_i hh
            obtain rfl := List.mem_singleton.1 ht
            exact ex_iff.1 hh.1
          · cases ht
      · cases ht
  · obtain ⟨r, hr, rfl⟩ := List.mem_map.1 ht
    obtain ⟨j, y, rfl, _, hy, hb⟩ := hdL_mem h hr
    unfold tgtV
    rw [Int.toNat_natCast, hy]
    unfold hdB at hb
    rw [Bool.and_eq_true] at hb
    exact ex_iff.1 hb.2
theorem edL_few {c : Cd} {w : World} (h : c.ok w) (hf : c.few) (x : Int) : (edL c x).length ≤ 162 := by
  unfold edL
  refine Nat.le_trans (ordL_len _) ?_
  rw [List.length_append, List.length_map]
  have h1 := scL_few h hf x
  have h2 := hdL_len c x
  have h3 := hf.hn
  omega
/-- no distance is too large -/
def Bdd (n : Nat) (f : List Int) : Prop := ∀ (j : Nat) (x : Int), f[j]? = some x → x + ((f.filter (· < 0)).length : Nat) ≤ n
theorem Bdd.put {n : Nat} {f : List Int} (h : Bdd n f) {k a : Nat} (hk : f.getD k 0 < 0) (ha : 0 ≤ f.getD a 0) (hal : a < f.length) : Bdd n (f.set k (f.getD a 0 + 1)) := by
  have hn := neg_set f k (f.getD a 0 + 1) hk (by omega)
  have hfa := h a (f.getD a 0) (by rw [List.getD_eq_getElem?_getD, List.getElem?_eq_getElem hal]; rfl)
  intro j x hx
  rw [List.getElem?_set] at hx
  split at hx
  · split at hx
    · obtain rfl := Option.some.inj hx
      omega
    · cases hx
  · have := h j x hx
    omega
theorem getD_setF {f : List Int} {k a : Nat} {y : Int} (hne : k ≠ a) : (f.set k y).getD a 0 = f.getD a 0 := by
  rw [List.getD_eq_getElem?_getD, List.getElem?_set, if_neg hne, ← List.getD_eq_getElem?_getD]
theorem getD_selfF {f : List Int} {k : Nat} {y : Int} (hk : k < f.length) : (f.set k y).getD k 0 = y := by
  rw [List.getD_eq_getElem?_getD, List.getElem?_set, if_pos rfl, if_pos hk]; rfl
/-- the queue holds instructions that have a distance -/
def Qok (n : Nat) (f q : List Int) : Prop := ∀ x ∈ q, 0 ≤ x ∧ x < n ∧ 0 ≤ f.getD x.toNat 0
theorem Qok.put {n : Nat} {f q : List Int} (h : Qok n f q) {t : Int} {y : Int} (h0 : 0 ≤ t) (h1 : t < n) (hl : f.length = n) (hy : 0 ≤ y) : Qok n (f.set t.toNat y) (q ++ [t]) := by
  intro x hx
  rcases List.mem_append.1 hx with hx | hx
  · obtain ⟨a, b, c⟩ := h x hx
    refine ⟨a, b, ?_⟩
    by_cases e : t.toNat = x.toNat
    · rw [← e, getD_selfF (by omega)]; exact hy
    · rw [getD_setF e]; exact c
  · obtain rfl := List.mem_singleton.1 hx
    exact ⟨h0, h1, by rw [getD_selfF (by omega)]; exact hy⟩
end Go.Proofs.YtdppooflbjlbcaaDoor.I

/- Fga -/
/- Layer 19: the reference's BackEdges. -/
namespace Go.Proofs.YtdppooflbjlbcaaDoor.I
open Go.ChangeShapes Go.WideShapes Go.ChangeAt Go.RowKit Go.PlainAid
set_option linter.unusedSimpArgs false
set_option linter.unusedVariables false

/-- a row of numbers outside the block of v -/
def RowO (w : World) (A : Option Addr) (L : List Int) (v : Value) : Prop :=
  L = [] ∨ ∃ g o, A = some ⟨g, o, none⟩ ∧ g < w.heap.size ∧ v.ownBlock ≠ some g ∧ ∀ (j : Nat) (x : Int), L[j]? = some x → w.cell? ⟨g, o + j, none⟩ = some (.int .i64 x)
theorem RowO.of {w : World} {A : Option Addr} {L : List Int} {B e k n : Nat} {v : Value} {xs : List Value} {W : World} (hr : Row w w.heap.size A L) (h : W.ownsRow B e k v n xs) (hA : ∀ g o s, A = some ⟨g, o, s⟩ → W.heap.size ≤ g) : RowO w A L v := by
  rcases hr with h0 | ⟨g, o, hA1, hg, hc⟩
  · exact Or.inl h0
  · refine Or.inr ⟨g, o, hA1, hg, fun h2 => ?_, hc⟩
    have := (h.lt g h2).2
    have := hA g o none hA1
    omega
theorem RowO.row {w : World} {A : Option Addr} {L : List Int} {v : Value} (h : RowO w A L v) : Row w w.heap.size A L := by
  rcases h with h0 | ⟨g, o, hA, hg, _, hc⟩
  · exact Or.inl h0
  · exact Or.inr ⟨g, o, hA, hg, hc⟩
theorem RowO.up {w w' : World} {A : Option Addr} {L : List Int} {v : Value} (h : RowO w A L v) (hb : Below w.heap.size w w') : RowO w' A L v := by
  rcases h with h0 | ⟨g, o, hA, hg, hv, hc⟩
  · exact Or.inl h0
  · exact Or.inr ⟨g, o, hA, Nat.lt_of_lt_of_le hg hb.size, hv, fun j x hx => (hb.cell (p := ⟨g, _, none⟩) hg).trans (hc j x hx)⟩
theorem RowO.grow {w w' : World} {A : Option Addr} {L : List Int} {v v' : Value} (h : RowO w A L v) (hg : w.grownBy w' v.ownBlock) (hl : Lies w v v') : RowO w' A L v' := by
  rcases h with h0 | ⟨g, o, hA, hgl, hv, hc⟩
  · exact Or.inl h0
  · refine Or.inr ⟨g, o, hA, Nat.lt_of_lt_of_le hgl hg.size, ?_, fun j x hx => ?_⟩
    · rcases hl with hl | ⟨k, hl, hk⟩
      · rw [hl]; exact hv
      · rw [hl]; intro e; injection e with e; omega
    · rw [grown_cell hg hgl hv]
      exact hc j x hx
end Go.Proofs.YtdppooflbjlbcaaDoor.I

/- Fgc -/
/- Layer 19: the reference's Distances (written by gen/rds.py out of gen/rds.txt). -/
namespace Go.Proofs.YtdppooflbjlbcaaDoor.I
open Go.ChangeShapes Go.WideShapes Go.ChangeAt Go.RowKit Go.PlainAid
set_option linter.unusedSimpArgs false
set_option linter.unusedVariables false

/-- the distances' row in block g while the call runs -/
structure Fg (W wr : World) (g cap n : Nat) (F : List Int) : Prop where
  own : wr.ownsRow W.heap.size 3 1 (.slice (some ⟨g, 0, none⟩) n cap) n (Ri F)
  bel : Below W.heap.size W wr
theorem Fg.len {W wr : World} {g cap n : Nat} {F : List Int} (h : Fg W wr g cap n F) : F.length = n := by have := h.own.1; rw [ri_len] at this; omega
theorem Fg.cell {W wr : World} {g cap n : Nat} {F : List Int} (h : Fg W wr g cap n F) {j : Nat} (hj : j < n) : wr.cell? ⟨g, j, none⟩ = some (.int .i64 (F.getD j 0)) := by
  rw [h.own.cellAt j (by omega)]
  unfold Ri
  have hl := h.len
  rw [List.getElem?_map, List.getD_eq_getElem?_getD, List.getElem?_eq_getElem (by omega)]; rfl
theorem Fg.at_ {W wr : World} {g cap n : Nat} {F : List Int} (h : Fg W wr g cap n F) : W.heap.size ≤ g ∧ g < wr.heap.size := ⟨(h.own.lt g rfl).1, (h.own.lt g rfl).2⟩
theorem Fg.put {W wr : World} {g cap n : Nat} {F : List Int} (h : Fg W wr g cap n F) (j : Nat) (x : Int) : Fg W (wr.setCell ⟨g, j, none⟩ (.int .i64 x)) g cap n (F.set j x) := by
  have hs := h.own.stored j (.int .i64 x)
  refine ⟨by unfold Ri; rw [List.map_set]; exact hs.1, below_st (p := ⟨g, j, none⟩) h.bel h.at_.1 _⟩
theorem Fg.up {W wr w2 : World} {g cap n : Nat} {F : List Int} (h : Fg W wr g cap n F) (hb : Below wr.heap.size wr w2) : Fg W w2 g cap n F := ⟨own_below h.own hb, below_on h.bel hb⟩
theorem RowO.set {w : World} {A : Option Addr} {L : List Int} {v : Value} {g j : Nat} {u : Value} (h : RowO w A L v) (hA : ∀ g' o s, A = some ⟨g', o, s⟩ → g' ≠ g) : RowO (w.setCell ⟨g, j, none⟩ u) A L v := by
  rcases h with h | ⟨g', o, hA1, hg, hv, hc⟩
  · exact Or.inl h
  · refine Or.inr ⟨g', o, hA1, by simpa using hg, hv, fun k x hx => ?_⟩
    have hne := hA g' o none hA1
    have hh := heap_setCell_other w ⟨g, j, none⟩ g' u hne
    have := hc k x hx
    simp only [World.cell?, hh] at this ⊢
    exact this
theorem drop_snoc {α : Type} {Q : List α} {t : α} {k : Nat} (h : k ≤ Q.length) : (Q ++ [t]).drop k = Q.drop k ++ [t] := List.drop_append_of_le_length h
theorem drop_get {α : Type} {Q : List α} {x : α} {k : Nat} (h : Q[k]? = some x) : Q.drop k = x :: Q.drop (k + 1) := by
  have hl := get_ltF h
  rw [List.drop_eq_getElem_cons hl]
  congr 1
  rw [List.getElem?_eq_getElem hl] at h
  exact Option.some.inj h
theorem mu_cons (f : List Int) (a : Int) (q : List Int) : mu f (a :: q) = mu f q + 1 := by unfold mu; rw [List.length_cons]; omega
set_option maxRecDepth 100000 in
set_option maxHeartbeats 4000000 in
theorem rds_any (c : Cd) (w : World) (hok : c.ok w) (hf : c.few) : Calls Tryd.prog 74 #[(Value.agg #[Value.int IntKind.i64 (Cd.st c), Value.int IntKind.i64 (Cd.lo c), Value.slice (Cd.iA c) (Cd.n c) (Cd.ic c), Value.slice (Cd.hA c) (Cd.hn c) (Cd.hc c), Value.slice (Cd.mA c) (Cd.mn c) (Cd.mc c), Value.slice (Cd.lA c) (Cd.ln c) (Cd.lc c)])] w (IntsOwn w (distL c)) := by
  have hB : Below w.heap.size w w := Below.refl _ _
  have OK := Lib.hid hok
  have hcn := hf.n
  clear hok
  go_enter Tryd.func74, Tryd.ntmps74
  go_upto_region 1 with fail
  have R := World.alloc_heap_new w (.cells #[.int .i64 c.st, .int .i64 c.lo, .slice c.iA c.n c.ic, .slice c.hA c.hn c.hc, .slice c.mA c.mn c.mc, .slice c.lA c.ln c.lc] 27)
  replace hB := below_al hB (.cells #[.int .i64 c.st, .int .i64 c.lo, .slice c.iA c.n c.ic, .slice c.hA c.hn c.hc, .slice c.mA c.mn c.mc, .slice c.lA c.ln c.lc] 27)
  generalize w.alloc (.cells #[.int .i64 c.st, .int .i64 c.lo, .slice c.iA c.n c.ic, .slice c.hA c.hn c.hc, .slice c.mA c.mn c.mc, .slice c.lA c.ln c.lc] 27) = W1 at R hB ⊢
  obtain ⟨r0, r1, r2, r3, r4, r5⟩ := six_cells R
  have y1 := lt_heap R
  replace R := Lib.hid R
  have OK1 := Lib.hid (OK.out.up hB)
  have HB := Lib.hid hB
  have HN0 := Lib.hid (show Nxt W1 (W1.alloc (.cells #[] 3)) (List.replicate 0 (-1)) (.slice (some ⟨W1.heap.size, 0, none⟩) 0 0) from ⟨own_lit0 (Nat.le_refl _), below_al (Below.refl _ _) _⟩)
  clear hB
  go_wp2
  clear r0 r1 r2 r3 r4 r5
  go_loopw [3, 4] (fun v z wr => ∃ k : Nat, k ≤ c.n ∧ z = .int .i64 k ∧ Nxt W1 wr (List.replicate k (-1)) v) (fun _ z _ => c.n - (intOf z).toNat)
  case atStart => exact ⟨0, Nat.zero_le _, rfl, HN0.out⟩
  case round =>
    clear HN0
    obtain ⟨k, hk, rfl, N⟩ := hrel
    have RBr := Lib.hid ((N.bel.block _ y1).trans R.out)
    obtain ⟨r0, r1, r2, r3, r4, r5⟩ := six_cells RBr.out
    have yr := lt_heap RBr.out
    have hln := N.bel.size
    have hown := N.own
    rw [List.length_replicate] at hown
    have HOWN := Lib.hid hown
    have HN := Lib.hid N
    clear N hown
    by_cases hlt : k < c.n
    · have hk0 : (0 : Int) ≤ (k : Int) := by omega
      have hk1 : (k : Int) < (c.n : Int) := by omega
      go_wp2_with (at_builtin; refine wpList_append_liesF (by rfl) _ _ (by rfl) W1.heap.size k 1 _ (-1) _ _ (by rfl) (HOWN.out.alloc _) (by rfl) (Row.one (ten_cell0 (new_at rfl)) (by simp)) (by omega) (by simp; omega) ?_; intro A7 c7 w4 ho4 hg4 hl4)
      have hn4 := HN.out.add (by rw [List.length_replicate]; exact ho4) hg4
      exact ⟨⟨k + 1, hlt, by go_num, by rw [List.replicate_succ']; exact hn4⟩, by simp [intOf]; omega⟩
    · obtain ⟨hkn⟩ : c.n = k := by omega
      obtain ⟨A, cap, rfl, hcc, hcm, _⟩ := own_form HOWN.out
      by_cases hn0 : c.n = 0
      · have HD := Lib.hid (show distL c = [] from if_pos hn0)
        have hbe : ((c.n : Int) == 0) = true := by simp [hn0]
        have HO0 := Lib.hid (show wr.ownsRow W1.heap.size 3 1 (.slice A c.n cap) 0 (Ri []) from by have := HOWN.out; rw [hn0] at this ⊢; exact this)
        clear hn0 hcc
        go_wp2
        go_ret
        rw [HD.out]
        exact ⟨_, rfl, own_leF HO0.out HB.out.size, below_on HB.out HN.out.bel⟩
      · have hpos : 0 < c.n := by omega
        have HD := Lib.hid (show distL c = dsOut c (c.n + 1) ((List.replicate c.n (-1)).set 0 0) [0] from if_neg hn0)
        obtain ⟨g, cap2, hv, hg0, hg1⟩ := HOWN.out.form hpos
        injection hv with hA _ hcap
        subst hA hcap
        have HFR := Lib.hid (show Fg W1 wr g cap c.n (List.replicate c.n (-1)) from ⟨HOWN.out, HN.out.bel⟩)
        have hcl := HFR.out.cell hpos
        have hfz := HFR.out.own.frozenAt 0
        have hn1 : (0 : Int) < (c.n : Int) := by omega
        have hbe : ((c.n : Int) == 0) = false := by simp [hn0]
        go_upto_region 9 with fail
        have HFP := Lib.hid (HFR.out.put 0 0)
        clear hcl hfz HFR HN HOWN RBr r0 r1 r2 r3 r4 r5 yr hln
        generalize wr.setCell ⟨g, 0, none⟩ (.int .i64 0) = W3 at HFP ⊢
        have HQ0 := Lib.hid (show (W3.alloc (.cells #[.int .i64 0] 3)).ownsRow W1.heap.size 3 1 (.slice (some ⟨W3.heap.size, 0, none⟩) 1 1) 1 (Ri [0]) from own_one (w := W3) 0 HFP.out.bel.size)
        have HF1 := Lib.hid (HFP.out.up (below_al (Below.refl W3.heap.size W3) (.cells #[.int .i64 0] 3)))
        have hz3 := HFP.out.at_.2
        have HAP0 := Lib.hid (show (Value.slice (some ⟨W3.heap.size, 0, none⟩) 1 1).ownBlock ≠ some g from fun e => by have e2 : W3.heap.size = g := Option.some.inj e; omega)
        clear HFP hz3 hg1
        go_wp2
        clear hlt hbe
        go_loopw [5, 6] (fun v z wr => ∃ (i : Nat) (f Q : List Int), z = .int .i64 i ∧ i ≤ Q.length ∧ mu f (Q.drop i) + i = c.n ∧ dsOut c (c.n - i + 1) f (Q.drop i) = distL c ∧ Fg W1 wr g cap c.n f ∧ wr.ownsRow W1.heap.size 3 1 v Q.length (Ri Q) ∧ v.ownBlock ≠ some g ∧ Qok c.n f (Q.drop i) ∧ Bdd c.n f) (fun _ z _ => c.n - (intOf z).toNat)
        case atStart =>
          refine ⟨0, _, [0], rfl, Nat.zero_le _, by rw [List.drop_zero, mu_start hpos]; omega, HD.out.symm, HF1.out, HQ0.out, HAP0.out, fun x hx => ?_, ?_⟩
          · obtain rfl := List.mem_singleton.1 hx
            exact ⟨Int.le_refl _, hn1, by rw [show (0 : Int).toNat = 0 from rfl, getD_selfF (by simpa using hpos)]; exact Int.le_refl _⟩
          · intro j x hx
            have hn := neg_set (List.replicate c.n (-1)) 0 0 (by rw [List.getD_eq_getElem?_getD, List.getElem?_replicate, if_pos hpos]; decide) (Int.le_refl _)
            have h2 := List.length_filter_le (fun (x : Int) => decide (x < 0)) (List.replicate c.n (-1))
            rw [List.length_replicate] at h2
            rw [List.getElem?_set] at hx
            split at hx
            · split at hx
              · obtain rfl := Option.some.inj hx; omega
              · cases hx
            · rw [List.getElem?_replicate] at hx
              split at hx
              · obtain rfl := Option.some.inj hx; omega
              · cases hx
        case round =>
          clear HQ0 HF1 HAP0
          obtain ⟨i, f, Q, rfl, hiQ, hmu, hds, hfr, how, hap, hq, hbd⟩ := hrel
          have HFR := Lib.hid hfr
          have HDS := Lib.hid hds
          have HOW := Lib.hid how
          have HAP := Lib.hid hap
          have HBD := Lib.hid hbd
          have hgb := hfr.at_.2
          have RBr := Lib.hid ((hfr.bel.block _ y1).trans R.out)
          have OKr := Lib.hid (OK1.out.up hfr.bel)
          have hqn : Q.length ≤ c.n := by have h1 := hmu; unfold mu at h1; rw [List.length_drop] at h1; omega
          clear hds hfr hap hbd
          by_cases hlt : i < Q.length
          · obtain ⟨a, ha⟩ := get_someF hlt
            have hdg := drop_get ha
            rw [hdg] at hmu hq
            rw [mu_cons] at hmu
            obtain ⟨ha0, ha1, ha2⟩ := hq a List.mem_cons_self
            obtain ⟨ka, rfl⟩ : ∃ ka : Nat, a = (ka : Int) := ⟨a.toNat, by omega⟩
            rw [Int.toNat_natCast] at ha2
            have HQ := Lib.hid (show Qok c.n f (Q.drop (i + 1)) from fun x hx => hq x (List.mem_cons_of_mem _ hx))
            have HDG := Lib.hid hdg
            have HA := Lib.hid ha
            have HA2 := Lib.hid ha2
            have HMU := Lib.hid hmu
            obtain ⟨gq, capq, rfl, hgq0, hgq1⟩ := how.form (by omega)
            have hcq : wr.cell? ⟨gq, i, none⟩ = some (.int .i64 (ka : Int)) := by
              rw [how.cellAt i (by omega)]
              unfold Ri
              rw [List.getElem?_map, ha]; rfl
            have hi0 : (0 : Int) ≤ (i : Int) := by omega
            have hi1 : (i : Int) < (Q.length : Int) := by omega
            obtain ⟨r0, r1, r2, r3, r4, r5⟩ := six_cells RBr.out
            have yr := lt_heap RBr.out
            obtain ⟨S, hS⟩ : ∃ S, edL c ka = S := ⟨_, rfl⟩
            have HS := Lib.hid hS
            have hm1 : S.length ≤ 162 := by rw [← hS]; exact edL_few OKr.out hf ka
            have HSB := Lib.hid (show ∀ t ∈ S, 0 ≤ t ∧ t < c.n by rw [← hS]; exact edL_bd OKr.out ka)
            obtain ⟨m, hm⟩ : ∃ m, S.length = m := ⟨_, rfl⟩
            have HM := Lib.hid hm
            rw [hm] at hm1
            clear hS hm ha hdg hq ha2 hmu how
            have KS := Lib.hid (fun (w' : World) (hb : Below wr.heap.size wr w') => show w'.cell? ⟨w.heap.size, 0, none⟩ = some (.int .i64 c.st) ∧ w'.cell? ⟨w.heap.size, 1, none⟩ = some (.int .i64 c.lo) ∧ w'.cell? ⟨w.heap.size, 2, none⟩ = some (.slice c.iA c.n c.ic) ∧ w'.cell? ⟨w.heap.size, 3, none⟩ = some (.slice c.hA c.hn c.hc) ∧ w'.cell? ⟨w.heap.size, 4, none⟩ = some (.slice c.mA c.mn c.mc) ∧ w'.cell? ⟨w.heap.size, 5, none⟩ = some (.slice c.lA c.ln c.lc) ∧ w'.cell? ⟨gq, i, none⟩ = some (.int .i64 (ka : Int)) ∧ Below wr.heap.size wr w' from ⟨(hb.cell (p := ⟨w.heap.size, 0, none⟩) yr).trans r0, (hb.cell (p := ⟨w.heap.size, 1, none⟩) yr).trans r1, (hb.cell (p := ⟨w.heap.size, 2, none⟩) yr).trans r2, (hb.cell (p := ⟨w.heap.size, 3, none⟩) yr).trans r3, (hb.cell (p := ⟨w.heap.size, 4, none⟩) yr).trans r4, (hb.cell (p := ⟨w.heap.size, 5, none⟩) yr).trans r5, (hb.cell (p := ⟨gq, i, none⟩) hgq1).trans hcq, hb⟩)
            go_wp2
            refine regN_start (N := 6) (S := (fun w' => w'.cell? ⟨w.heap.size, 0, none⟩ = some (.int .i64 c.st) ∧ w'.cell? ⟨w.heap.size, 1, none⟩ = some (.int .i64 c.lo) ∧ w'.cell? ⟨w.heap.size, 2, none⟩ = some (.slice c.iA c.n c.ic) ∧ w'.cell? ⟨w.heap.size, 3, none⟩ = some (.slice c.hA c.hn c.hc) ∧ w'.cell? ⟨w.heap.size, 4, none⟩ = some (.slice c.mA c.mn c.mc) ∧ w'.cell? ⟨w.heap.size, 5, none⟩ = some (.slice c.lA c.ln c.lc) ∧ w'.cell? ⟨gq, i, none⟩ = some (.int .i64 (ka : Int)) ∧ Below wr.heap.size wr w')) (by kernel_rfl) ?_
            change wpAnyN _ _ _ _ _ _ _ #[false, false, false, false, false, false, false] _ (World.drew _)
            have hS0 := KS.out _ (Below.refl wr.heap.size wr).drew
            refine regN_take (i := 0) (d := (some 33)) (v := ?v13x1) (l2 := #[true, false, false, false, false, false, false]) rfl rfl rfl (by kernel_rfl) (by kernel_rfl) (by kernel_rfl) (by kernel_rfl) (fun _ _ _ h => h) (by rfl) ?hv13x1 hS0 ?h13x1
            case hv13x1 => intro u hSu; (try dsimp only at hSu); (try go_split_ands); go_simp; (try with_reducible rfl)
            (try simp only [Act.put, List.setIfInBounds_toArray, List.set_cons_zero, List.set_cons_succ])
            refine regN_take (i := 1) (d := (some 34)) (v := ?v13x2) (l2 := #[true, true, false, false, false, false, false]) rfl rfl rfl (by kernel_rfl) (by kernel_rfl) (by kernel_rfl) (by kernel_rfl) (fun _ _ _ h => h) (by rfl) ?hv13x2 hS0 ?h13x2
            case hv13x2 => intro u hSu; clear hSu; go_simp; (try with_reducible rfl)
            (try simp only [Act.put, List.setIfInBounds_toArray, List.set_cons_zero, List.set_cons_succ])
            refine regN_take (i := 2) (d := (some 35)) (v := ?v13x3) (l2 := #[true, true, true, false, false, false, false]) rfl rfl rfl (by kernel_rfl) (by kernel_rfl) (by kernel_rfl) (by kernel_rfl) (fun _ _ _ h => h) (by rfl) ?hv13x3 hS0 ?h13x3
            case hv13x3 => intro u hSu; clear hSu; go_simp; (try with_reducible rfl)
            (try simp only [Act.put, List.setIfInBounds_toArray, List.set_cons_zero, List.set_cons_succ])
            refine regN_take (i := 3) (d := (some 36)) (v := ?v13x4) (l2 := #[true, true, true, true, false, false, false]) rfl rfl rfl (by kernel_rfl) (by kernel_rfl) (by kernel_rfl) (by kernel_rfl) (fun _ _ _ h => h) (by rfl) ?hv13x4 hS0 ?h13x4
            case hv13x4 => intro u hSu; clear hSu; go_simp; (try with_reducible rfl)
            (try simp only [Act.put, List.setIfInBounds_toArray, List.set_cons_zero, List.set_cons_succ])
            refine regN_take (i := 4) (d := (some 37)) (v := ?v13x5) (l2 := #[true, true, true, true, true, false, false]) rfl rfl rfl (by kernel_rfl) (by kernel_rfl) (by kernel_rfl) (by kernel_rfl) (fun _ _ _ h => h) (by rfl) ?hv13x5 hS0 ?h13x5
            case hv13x5 => intro u hSu; (try dsimp only at hSu); (try go_split_ands); go_simp; (try with_reducible rfl)
            (try simp only [Act.put, List.setIfInBounds_toArray, List.set_cons_zero, List.set_cons_succ])
            refine regN_ready (rs := [5]) (by kernel_rfl) (by simp) ?_
            refine (AllN.cons (i := 5) (l2 := #[true, true, true, true, true, true, false]) rfl rfl (fun K hK => ?_) AllN.nil)
            go_simp
            go_at_call 101
            (with_reducible refine (red_any c _ _ (OKr.out.up (Below.refl _ _).drew) hf).mono ?_)
            rintro e w2 ⟨A3, c3, rfl, hc3, hm3, _, hr3, hA3, hb2⟩
            rw [HS.out] at hc3 hr3
            rw [HM.out] at hc3
            rw [HS.out, HM.out]
            replace hb2 : Below wr.heap.size wr w2 := below_drew hb2
            go_simp
            have hS1 : ((fun w' => w'.cell? ⟨w.heap.size, 0, none⟩ = some (.int .i64 c.st) ∧ w'.cell? ⟨w.heap.size, 1, none⟩ = some (.int .i64 c.lo) ∧ w'.cell? ⟨w.heap.size, 2, none⟩ = some (.slice c.iA c.n c.ic) ∧ w'.cell? ⟨w.heap.size, 3, none⟩ = some (.slice c.hA c.hn c.hc) ∧ w'.cell? ⟨w.heap.size, 4, none⟩ = some (.slice c.mA c.mn c.mc) ∧ w'.cell? ⟨w.heap.size, 5, none⟩ = some (.slice c.lA c.ln c.lc) ∧ w'.cell? ⟨gq, i, none⟩ = some (.int .i64 (ka : Int)) ∧ Below wr.heap.size wr w') : World → Prop) _ := KS.out w2 hb2
            refine hK _ _ (fun _ => hS1) ?_
            clear hK K
            (try simp only [Act.put, List.setIfInBounds_toArray, List.set_cons_zero, List.set_cons_succ])
            refine regN_ready (rs := [6]) (by kernel_rfl) (by simp) ?_
            refine (AllN.cons (i := 6) (l2 := #[true, true, true, true, true, true, true]) rfl rfl (fun K hK => ?_) AllN.nil)
            go_simp
            refine hK _ _ (fun h => absurd rfl h) ?_
            clear hK K
            (try simp only [Act.put, List.setIfInBounds_toArray, List.set_cons_zero, List.set_cons_succ])
            refine regN_done (by kernel_rfl) ?_ _
            have HR3 := Lib.hid (RowO.of hr3 HOW.out hA3)
            have HF2 := Lib.hid (HFR.out.up hb2)
            have HO2 := Lib.hid (own_below HOW.out hb2)
            have HA3 := Lib.hid (show ∀ g' o s, A3 = some ⟨g', o, s⟩ → g' ≠ g from fun g' o s e => by have h3 : wr.heap.size ≤ g' := hA3 g' o s e; omega)
            clear r0 r1 r2 r3 r4 r5 yr hr3 hA3 hb2 KS RBr OKr HFR HOW hcq hgq1 hgb hS0 hS1
            go_wp2
            go_loopw [5, 8] (fun v z wx => ∃ (j : Nat) (f2 Q2 : List Int), j ≤ m ∧ z = .int .i64 j ∧ dsIn ka f (Q.drop (i + 1)) S = dsIn ka f2 (Q2.drop (i + 1)) (S.drop j) ∧ mu f2 (Q2.drop (i + 1)) = mu f (Q.drop (i + 1)) ∧ Q2[i]? = some (ka : Int) ∧ Fg W1 wx g cap c.n f2 ∧ wx.ownsRow W1.heap.size 3 1 v Q2.length (Ri Q2) ∧ v.ownBlock ≠ some g ∧ Qok c.n f2 (Q2.drop (i + 1)) ∧ Bdd c.n f2 ∧ 0 ≤ f2.getD ka 0 ∧ RowO wx A3 S v) (fun _ z _ => m - (intOf z).toNat)
            case atStart => exact ⟨0, f, Q, Nat.zero_le _, rfl, rfl, rfl, HA.out, HF2.out, HO2.out, HAP.out, HQ.out, HBD.out, HA2.out, HR3.out⟩
            case round =>
              clear HF2 HO2 HAP HQ HBD HA2 HR3
              obtain ⟨j, f2, Q2, hj, rfl, hst, hmu2, hqa, hfr, how, hap, hq, hbd, ha2, hrow⟩ := hrel
              have HST := Lib.hid hst
              have HMX := Lib.hid hmu2
              have HFR := Lib.hid hfr
              have HOW := Lib.hid how
              have HAP := Lib.hid hap
              have HQ := Lib.hid hq
              have HBD := Lib.hid hbd
              have HROW := Lib.hid hrow
              have HQA := Lib.hid hqa
              have hil := get_ltF hqa
              have hq2 : Q2.length ≤ 600 := by have h1 := HMU.out; have h2 := hmu2; unfold mu at h1 h2; rw [List.length_drop, List.length_drop] at h2; rw [List.length_drop] at h1; omega
              have hgb := hfr.at_.2
              have hfl := hfr.len
              clear hst hmu2 hap hq hbd
              by_cases hjt : j < m
              · obtain ⟨t, ht⟩ := get_someF (l := S) (k := j) (by rw [HM.out]; exact hjt)
                obtain ⟨ht0, ht1⟩ := HSB.out t (List.mem_of_getElem? ht)
                obtain ⟨kt, rfl⟩ : ∃ kt : Nat, t = (kt : Int) := ⟨t.toNat, by omega⟩
                obtain ⟨gs, os, rfl, hgs, hcs⟩ := row_get hrow.row ht
                have HDR := Lib.hid (drop_get ht)
                obtain ⟨gq, capq, rfl, hgq0, hgq1⟩ := how.form (by omega)
                have hcq : wr.cell? ⟨gq, i, none⟩ = some (.int .i64 (ka : Int)) := by
                  rw [how.cellAt i (by omega)]
                  unfold Ri
                  rw [List.getElem?_map, hqa]; rfl
                have hct := hfr.cell (j := kt) (by omega)
                have hca := hfr.cell (j := ka) (by omega)
                have hfz := hfr.own.frozenAt kt
                have hj0 : (0 : Int) ≤ (j : Int) := by omega
                have hj1 : (j : Int) < (m : Int) := by omega
                have hi1 : (i : Int) < (Q2.length : Int) := by omega
                have hka1 : (ka : Int) < (c.n : Int) := by omega
                have hkt1 : (kt : Int) < (c.n : Int) := by omega
                have hka0 : (0 : Int) ≤ (ka : Int) := by omega
                have hkt0 : (0 : Int) ≤ (kt : Int) := by omega
                obtain ⟨ft, hft⟩ : ∃ ft, f2.getD kt 0 = ft := ⟨_, rfl⟩
                obtain ⟨fa, hfa⟩ : ∃ fa, f2.getD ka 0 = fa := ⟨_, rfl⟩
                have hfab : fa ≤ 300 := by
                  have := HBD.out ka fa (by rw [← hfa, List.getD_eq_getElem?_getD, List.getElem?_eq_getElem (by omega)]; rfl)
                  omega
                have HFT := Lib.hid (And.intro hft (And.intro hfa ha2))
                rw [hft] at hct
                rw [hfa] at hca
                clear ht hrow hfr ha2 hft hfa how hqa
                by_cases hlt0 : ft < 0
                · have hw1 : IntKind.i64.wrap (fa + 1) = fa + 1 := by have := HFT.out.2.2; rw [HFT.out.2.1] at this; simp [IntKind.wrap, IntKind.bits, IntKind.signed]; omega
                  have hlt1 : f2.getD kt 0 < 0 := by rw [HFT.out.1]; exact hlt0
                  have hge : 0 ≤ f2.getD ka 0 := HFT.out.2.2
                  have HSTN := Lib.hid (show dsIn ka f (Q.drop (i + 1)) S = dsIn ka (f2.set kt (fa + 1)) ((Q2 ++ [(kt : Int)]).drop (i + 1)) (S.drop (j + 1)) by
                    rw [HST.out, HDR.out, drop_snoc (k := i + 1) hil]
                    show (if f2.getD (kt : Int).toNat 0 < 0 then _ else _) = _
                    rw [Int.toNat_natCast, if_pos hlt1, Int.toNat_natCast, HFT.out.2.1])
                  have HMUN := Lib.hid (show mu (f2.set kt (fa + 1)) ((Q2 ++ [(kt : Int)]).drop (i + 1)) = mu f (Q.drop (i + 1)) by
                    rw [← HMX.out, drop_snoc (k := i + 1) hil]
                    have hn := neg_set f2 kt (fa + 1) hlt1 (by rw [HFT.out.2.1] at hge; omega)
                    unfold mu
                    rw [List.length_append]
                    simp only [List.length_cons, List.length_nil]
                    omega)
                  have HQN := Lib.hid (show Qok c.n (f2.set kt (fa + 1)) ((Q2 ++ [(kt : Int)]).drop (i + 1)) by
                    rw [drop_snoc (k := i + 1) hil]
                    have := HQ.out.put (t := (kt : Int)) (y := fa + 1) (by omega) ht1 hfl (by rw [HFT.out.2.1] at hge; omega)
                    rw [Int.toNat_natCast] at this
                    exact this)
                  have HBN := Lib.hid (show Bdd c.n (f2.set kt (fa + 1)) by
                    have := HBD.out.put (k := kt) (a := ka) hlt1 hge (by omega)
                    rw [HFT.out.2.1] at this
                    exact this)
                  have HAN := Lib.hid (show 0 ≤ (f2.set kt (fa + 1)).getD ka 0 by
                    rw [getD_setF (fun e => by rw [e] at hlt1; omega)]
                    exact hge)
                  have HFN := Lib.hid (HFR.out.put kt (fa + 1))
                  have HON := Lib.hid (HOW.out.kept (grown_set (w := wr) (g := g) (j := kt) (u := .int .i64 (fa + 1))) (Or.inr HAP.out))
                  have HRN := Lib.hid (HROW.out.set (g := g) (j := kt) (u := .int .i64 (fa + 1)) HA3.out)
                  have HQAN := Lib.hid (show (Q2 ++ [(kt : Int)])[i]? = some (ka : Int) by rw [List.getElem?_append_left hil]; exact HQA.out)
                  clear hlt1 hge
                  go_wp2
                  have KS := And.intro (show wr.drew.cell? ⟨gs, os + j, none⟩ = some (.int .i64 (kt : Int)) from hcs) (And.intro (show wr.drew.cell? ⟨gq, i, none⟩ = some (.int .i64 (ka : Int)) from hcq) (And.intro (show wr.drew.cell? ⟨g, ka, none⟩ = some (.int .i64 fa) from hca) (rfl : wr.drew = wr.drew)))
                  replace KS := Lib.hid KS
                  refine regN_start (N := 14) (S := (fun w' => w'.cell? ⟨gs, os + j, none⟩ = some (.int .i64 (kt : Int)) ∧ w'.cell? ⟨gq, i, none⟩ = some (.int .i64 (ka : Int)) ∧ w'.cell? ⟨g, ka, none⟩ = some (.int .i64 fa) ∧ w' = wr.drew)) (by kernel_rfl) ?_
                  change wpAnyN _ _ _ _ _ _ _ #[false, false, false, false, false, false, false, false, false, false, false, false, false, false, false] _ (World.drew _)
                  have hS0 := KS.out
                  refine regN_take (i := 0) (d := (some 53)) (v := ?v18x1) (l2 := #[true, false, false, false, false, false, false, false, false, false, false, false, false, false, false]) rfl rfl rfl (by kernel_rfl) (by kernel_rfl) (by kernel_rfl) (by kernel_rfl) (fun _ _ _ h => h) (by rfl) ?hv18x1 hS0 ?h18x1
                  case hv18x1 => intro u hSu; clear hSu; go_simp; (try with_reducible rfl)
                  (try simp only [Act.put, List.setIfInBounds_toArray, List.set_cons_zero, List.set_cons_succ])
                  refine regN_take (i := 1) (d := (some 54)) (v := ?v18x2) (l2 := #[true, true, false, false, false, false, false, false, false, false, false, false, false, false, false]) rfl rfl rfl (by kernel_rfl) (by kernel_rfl) (by kernel_rfl) (by kernel_rfl) (fun _ _ _ h => h) (by rfl) ?hv18x2 hS0 ?h18x2
                  case hv18x2 => intro u hSu; clear hSu; go_simp; (try with_reducible rfl)
                  (try simp only [Act.put, List.setIfInBounds_toArray, List.set_cons_zero, List.set_cons_succ])
                  refine regN_take (i := 2) (d := (some 55)) (v := ?v18x3) (l2 := #[true, true, true, false, false, false, false, false, false, false, false, false, false, false, false]) rfl rfl rfl (by kernel_rfl) (by kernel_rfl) (by kernel_rfl) (by kernel_rfl) (fun _ _ _ h => h) (by rfl) ?hv18x3 hS0 ?h18x3
                  case hv18x3 => intro u hSu; clear hSu; go_simp; (try with_reducible rfl)
                  (try simp only [Act.put, List.setIfInBounds_toArray, List.set_cons_zero, List.set_cons_succ])
                  refine regN_take (i := 3) (d := (some 56)) (v := ?v18x4) (l2 := #[true, true, true, true, false, false, false, false, false, false, false, false, false, false, false]) rfl rfl rfl (by kernel_rfl) (by kernel_rfl) (by kernel_rfl) (by kernel_rfl) (fun _ _ _ h => h) (by rfl) ?hv18x4 hS0 ?h18x4
                  case hv18x4 => intro u hSu; clear hSu; go_simp; (try with_reducible rfl)
                  (try simp only [Act.put, List.setIfInBounds_toArray, List.set_cons_zero, List.set_cons_succ])
                  refine regN_take (i := 4) (d := (some 57)) (v := ?v18x5) (l2 := #[true, true, true, true, true, false, false, false, false, false, false, false, false, false, false]) rfl rfl rfl (by kernel_rfl) (by kernel_rfl) (by kernel_rfl) (by kernel_rfl) (fun _ _ _ h => h) (by rfl) ?hv18x5 hS0 ?h18x5
                  case hv18x5 => intro u hSu; (try dsimp only at hSu); (try go_split_ands); go_simp; (try with_reducible rfl)
                  (try simp only [Act.put, List.setIfInBounds_toArray, List.set_cons_zero, List.set_cons_succ])
                  refine regN_take (i := 5) (d := (some 58)) (v := ?v18x6) (l2 := #[true, true, true, true, true, true, false, false, false, false, false, false, false, false, false]) rfl rfl rfl (by kernel_rfl) (by kernel_rfl) (by kernel_rfl) (by kernel_rfl) (fun _ _ _ h => h) (by rfl) ?hv18x6 hS0 ?h18x6
                  case hv18x6 => intro u hSu; clear hSu; go_simp; (try with_reducible rfl)
                  (try simp only [Act.put, List.setIfInBounds_toArray, List.set_cons_zero, List.set_cons_succ])
                  refine regN_take (i := 6) (d := (some 59)) (v := ?v18x7) (l2 := #[true, true, true, true, true, true, true, false, false, false, false, false, false, false, false]) rfl rfl rfl (by kernel_rfl) (by kernel_rfl) (by kernel_rfl) (by kernel_rfl) (fun _ _ _ h => h) (by rfl) ?hv18x7 hS0 ?h18x7
                  case hv18x7 => intro u hSu; clear hSu; go_simp; (try with_reducible rfl)
                  (try simp only [Act.put, List.setIfInBounds_toArray, List.set_cons_zero, List.set_cons_succ])
                  refine regN_take (i := 7) (d := (some 60)) (v := ?v18x8) (l2 := #[true, true, true, true, true, true, true, true, false, false, false, false, false, false, false]) rfl rfl rfl (by kernel_rfl) (by kernel_rfl) (by kernel_rfl) (by kernel_rfl) (fun _ _ _ h => h) (by rfl) ?hv18x8 hS0 ?h18x8
                  case hv18x8 => intro u hSu; clear hSu; go_simp; (try with_reducible rfl)
                  (try simp only [Act.put, List.setIfInBounds_toArray, List.set_cons_zero, List.set_cons_succ])
                  refine regN_take (i := 8) (d := (some 61)) (v := ?v18x9) (l2 := #[true, true, true, true, true, true, true, true, true, false, false, false, false, false, false]) rfl rfl rfl (by kernel_rfl) (by kernel_rfl) (by kernel_rfl) (by kernel_rfl) (fun _ _ _ h => h) (by rfl) ?hv18x9 hS0 ?h18x9
                  case hv18x9 => intro u hSu; clear hSu; go_simp; (try with_reducible rfl)
                  (try simp only [Act.put, List.setIfInBounds_toArray, List.set_cons_zero, List.set_cons_succ])
                  refine regN_take (i := 9) (d := (some 62)) (v := ?v18x10) (l2 := #[true, true, true, true, true, true, true, true, true, true, false, false, false, false, false]) rfl rfl rfl (by kernel_rfl) (by kernel_rfl) (by kernel_rfl) (by kernel_rfl) (fun _ _ _ h => h) (by rfl) ?hv18x10 hS0 ?h18x10
                  case hv18x10 => intro u hSu; (try dsimp only at hSu); (try go_split_ands); go_simp; (try with_reducible rfl)
                  (try simp only [Act.put, List.setIfInBounds_toArray, List.set_cons_zero, List.set_cons_succ])
                  refine regN_take (i := 10) (d := (some 63)) (v := ?v18x11) (l2 := #[true, true, true, true, true, true, true, true, true, true, true, false, false, false, false]) rfl rfl rfl (by kernel_rfl) (by kernel_rfl) (by kernel_rfl) (by kernel_rfl) (fun _ _ _ h => h) (by rfl) ?hv18x11 hS0 ?h18x11
                  case hv18x11 => intro u hSu; clear hSu; go_simp; (try with_reducible rfl)
                  (try simp only [Act.put, List.setIfInBounds_toArray, List.set_cons_zero, List.set_cons_succ])
                  refine regN_take (i := 11) (d := (some 64)) (v := ?v18x12) (l2 := #[true, true, true, true, true, true, true, true, true, true, true, true, false, false, false]) rfl rfl rfl (by kernel_rfl) (by kernel_rfl) (by kernel_rfl) (by kernel_rfl) (fun _ _ _ h => h) (by rfl) ?hv18x12 hS0 ?h18x12
                  case hv18x12 => intro u hSu; (try dsimp only at hSu); (try go_split_ands); go_simp; (try with_reducible rfl)
                  (try simp only [Act.put, List.setIfInBounds_toArray, List.set_cons_zero, List.set_cons_succ])
                  refine regN_take (i := 12) (d := (some 65)) (v := ?v18x13) (l2 := #[true, true, true, true, true, true, true, true, true, true, true, true, true, false, false]) rfl rfl rfl (by kernel_rfl) (by kernel_rfl) (by kernel_rfl) (by kernel_rfl) (fun _ _ _ h => h) (by rfl) ?hv18x13 hS0 ?h18x13
                  case hv18x13 => intro u hSu; clear hSu; go_simp; (try with_reducible rfl)
                  (try simp only [Act.put, List.setIfInBounds_toArray, List.set_cons_zero, List.set_cons_succ])
                  refine regN_take (i := 13) (d := (some 66)) (v := ?v18x14) (l2 := #[true, true, true, true, true, true, true, true, true, true, true, true, true, true, false]) rfl rfl rfl (by kernel_rfl) (by kernel_rfl) (by kernel_rfl) (by kernel_rfl) (fun _ _ _ h => h) (by rfl) ?hv18x14 hS0 ?h18x14
                  case hv18x14 => intro u hSu; clear hSu; go_simp; (try with_reducible rfl)
                  (try simp only [Act.put, List.setIfInBounds_toArray, List.set_cons_zero, List.set_cons_succ])
                  refine regN_ready (rs := [14]) (by kernel_rfl) (by simp) ?_
                  refine (AllN.cons (i := 14) (l2 := #[true, true, true, true, true, true, true, true, true, true, true, true, true, true, true]) rfl rfl (fun K hK => ?_) AllN.nil)
                  go_simp
                  refine hK _ _ (fun h => absurd rfl h) ?_
                  clear hK K
                  (try simp only [Act.put, List.setIfInBounds_toArray, List.set_cons_zero, List.set_cons_succ])
                  refine regN_done (by kernel_rfl) ?_ _
                  have hcs6 : (wr.setCell ⟨g, kt, none⟩ (.int .i64 (fa + 1))).drew.cell? ⟨gs, os + j, none⟩ = some (.int .i64 (kt : Int)) := by
                    have hh := heap_setCell_other wr ⟨g, kt, none⟩ gs (.int .i64 (fa + 1)) (HA3.out gs os none rfl)
                    show (wr.setCell ⟨g, kt, none⟩ (.int .i64 (fa + 1))).cell? ⟨gs, os + j, none⟩ = _
                    simp only [World.cell?, hh] at hcs ⊢
                    exact hcs
                  have HF6 := Lib.hid (HFN.out.up (Below.refl _ _).drew)
                  have HO6 := Lib.hid (own_below HON.out (Below.refl _ _).drew)
                  have HR6 := Lib.hid (HRN.out.up (Below.refl _ _).drew)
                  have hgs6 : gs < (wr.setCell ⟨g, kt, none⟩ (.int .i64 (fa + 1))).drew.heap.size := by simpa using hgs
                  clear hct hca hfz hcs hgs HFR HOW HROW hcq hS0 KS HFN HON HRN hgb hgq1
                  generalize (wr.setCell ⟨g, kt, none⟩ (.int .i64 (fa + 1))).drew = W6 at hcs6 HF6 HO6 HR6 hgs6 ⊢
                  have hs6 := HF6.out.bel.size
                  go_wp2_with (at_builtin; refine wpList_append_liesF (by rfl) _ _ (by rfl) W1.heap.size Q2.length 1 Q2 (kt : Int) _ _ (by rfl) (HO6.out.alloc _) (by rfl) (Row.one (ten_cell0 (new_at rfl)) (by simp)) (by omega) (by simp; omega) ?_; intro A7 c7 w7 ho7 hg7 hl7)
                  have hfr7 : Fg W1 w7 g cap c.n (f2.set kt (fa + 1)) := ⟨(HF6.out.own.alloc _).kept hg7 (Or.inr (fun e => HAP.out e.symm)), grown_own (below_al HF6.out.bel _) (HO6.out.alloc _) hg7⟩
                  have hap7 : (Value.slice A7 (Q2.length + 1) c7).ownBlock ≠ some g := by
                    rcases hl7 with h | ⟨g7, h, hge7⟩
                    · rw [h]; exact HAP.out
                    · rw [h]; intro e
                      have e2 : g7 = g := Option.some.inj e
                      have := HF6.out.at_.2
                      simp at hge7
                      omega
                  have hr7 := (HR6.out.up (below_al (Below.refl _ _) _)).grow hg7 hl7
                  exact ⟨⟨j + 1, _, Q2 ++ [(kt : Int)], hjt, by go_num, HSTN.out, HMUN.out, HQAN.out, hfr7, by rw [List.length_append]; exact ho7, hap7, HQN.out, HBN.out, HAN.out, hr7⟩, by simp [intOf]; omega⟩
                · have HSTN := Lib.hid (show dsIn ka f (Q.drop (i + 1)) S = dsIn ka f2 (Q2.drop (i + 1)) (S.drop (j + 1)) by
                    rw [HST.out, HDR.out]
                    show (if f2.getD (kt : Int).toNat 0 < 0 then _ else _) = _
                    rw [Int.toNat_natCast, if_neg (by rw [HFT.out.1]; exact hlt0)])
                  go_wp2
                  exact ⟨⟨j + 1, f2, Q2, hjt, by go_num, HSTN.out, HMX.out, HQA.out, HFR.out, HOW.out, HAP.out, HQ.out, HBD.out, HFT.out.2.2, HROW.out⟩, by simp [intOf]; omega⟩
              · obtain ⟨rfl⟩ : m = j := by omega
                have hst2 := HST.out
                rw [show S.drop m = [] from List.drop_eq_nil_of_le (by rw [HM.out]; exact Nat.le_refl _)] at hst2
                have hmu1 := HMU.out
                have hmu3 : mu f2 (Q2.drop (i + 1)) + (i + 1) = c.n := by rw [HMX.out]; omega
                have hds3 : dsOut c (c.n - (i + 1) + 1) f2 (Q2.drop (i + 1)) = distL c := by
                  rw [← HDS.out, HDG.out, show c.n - (i + 1) + 1 = c.n - i by omega]
                  show _ = dsOut c (c.n - i) (dsIn ka f (Q.drop (i + 1)) (edL c ka)).1 (dsIn ka f (Q.drop (i + 1)) (edL c ka)).2
                  rw [HS.out, hst2]; rfl
                have HD3 := Lib.hid hds3
                have HMU3 := Lib.hid hmu3
                obtain ⟨QA, Qc, rfl, _, _, _⟩ := own_form HOW.out
                clear hst2 hds3 how hrow hfr hqa
                go_wp2
                exact ⟨⟨i + 1, f2, Q2, by go_num, hil, HMU3.out, HD3.out, HFR.out, HOW.out, HAP.out, HQ.out, HBD.out⟩, by simp [intOf]; omega⟩
          · have HDR := Lib.hid (show f = distL c by rw [← HDS.out, List.drop_eq_nil_of_le (by omega)]; rfl)
            obtain ⟨QA, Qc, rfl, _, _, _⟩ := own_form HOW.out
            have hin : ¬ ((i : Int) < (Q.length : Int)) := by omega
            go_wp2
            go_ret
            rw [← HDR.out]
            have hl := HFR.out.len
            exact own_up HB.out (by rw [hl]; exact HFR.out.own) HFR.out.bel

end Go.Proofs.YtdppooflbjlbcaaDoor.I

/- Fgd -/
/- Layer 19: the reference's Reachable. -/
namespace Go.Proofs.YtdppooflbjlbcaaDoor.I
open Go.ChangeShapes Go.WideShapes Go.ChangeAt Go.RowKit Go.PlainAid
set_option linter.unusedSimpArgs false
set_option linter.unusedVariables false

/-- what is reached -/
def reL (c : Cd) : List Bool := (distL c).map fun x => decide (0 ≤ x)
theorem dsIn_len (a : Int) : ∀ (S f q : List Int), (dsIn a f q S).1.length = f.length
  | [], _, _ => rfl
  | t :: r, f, q => by
    unfold dsIn
    split
    · rw [dsIn_len a r, List.length_set]
    · exact dsIn_len a r f q
theorem dsOut_len (c : Cd) : ∀ (k : Nat) (f q : List Int), (dsOut c k f q).length = f.length
  | 0, _, _ => rfl
  | k + 1, f, [] => rfl
  | k + 1, f, a :: q => by
    show (dsOut c k _ _).length = _
    rw [dsOut_len c k, dsIn_len]
theorem distL_len (c : Cd) : (distL c).length = c.n := by
  unfold distL
  split
  · rename_i h; rw [h]; rfl
  · rw [dsOut_len, List.length_set, List.length_replicate]
set_option maxRecDepth 100000 in
set_option maxHeartbeats 4000000 in
theorem rre_any (c : Cd) (w : World) (hok : c.ok w) (hf : c.few) : Calls Tryd.prog 49 #[(Value.agg #[Value.int IntKind.i64 (Cd.st c), Value.int IntKind.i64 (Cd.lo c), Value.slice (Cd.iA c) (Cd.n c) (Cd.ic c), Value.slice (Cd.hA c) (Cd.hn c) (Cd.hc c), Value.slice (Cd.mA c) (Cd.mn c) (Cd.mc c), Value.slice (Cd.lA c) (Cd.ln c) (Cd.lc c)])] w (MarksRet w c.n (reL c)) := by
  have hB : Below w.heap.size w w := Below.refl _ _
  have OK := Lib.hid hok
  have hcn := hf.n
  clear hok
  obtain ⟨D, hD⟩ : ∃ D, distL c = D := ⟨_, rfl⟩
  have HD := Lib.hid hD
  have hdl := distL_len c
  rw [hD] at hdl
  have HDL := Lib.hid hdl
  have HRE := Lib.hid (show reL c = D.map fun x => decide (0 ≤ x) by unfold reL; rw [hD])
  clear hD hdl
  go_enter Tryd.func49, Tryd.ntmps49
  go_upto_region 1 with fail
  have R := World.alloc_heap_new w (.cells #[.int .i64 c.st, .int .i64 c.lo, .slice c.iA c.n c.ic, .slice c.hA c.hn c.hc, .slice c.mA c.mn c.mc, .slice c.lA c.ln c.lc] 27)
  replace hB := below_al hB (.cells #[.int .i64 c.st, .int .i64 c.lo, .slice c.iA c.n c.ic, .slice c.hA c.hn c.hc, .slice c.mA c.mn c.mc, .slice c.lA c.ln c.lc] 27)
  generalize w.alloc (.cells #[.int .i64 c.st, .int .i64 c.lo, .slice c.iA c.n c.ic, .slice c.hA c.hn c.hc, .slice c.mA c.mn c.mc, .slice c.lA c.ln c.lc] 27) = W1 at R hB ⊢
  obtain ⟨r0, r1, r2, r3, r4, r5⟩ := six_cells R
  have y1 := lt_heap R
  replace R := Lib.hid R
  have OK1 := Lib.hid (OK.out.up hB)
  have HB := Lib.hid hB
  clear hB
  go_upto_region 2 with (go_at_call 74; (with_reducible refine (rds_any c _ OK1.out hf).mono ?_); rintro e w2 ⟨v, rfl, ho2, hb2⟩; rw [HD.out, HDL.out] at ho2; obtain ⟨A, cap, rfl, hcc, hcm, _⟩ := own_form ho2)
  have HO2 := Lib.hid ho2
  have HB2 := Lib.hid (below_on HB.out hb2)
  have hz2 := hb2.size
  clear r0 r1 r2 r3 r4 r5 ho2 hb2
  obtain ⟨i0, hi, hz0, hz1, hz2'⟩ := info_parts infoB
  obtain ⟨Wm, hmk, hown, hgr⟩ := run_makeSlice_full (P := Tryd.prog) w2 w2.heap.size 30 4 i0 (.bool false) 1 Tryd.underlying30 hi hz0 hz1 .i64 .i64 c.n (by omega) (by rw [hz2']; omega) (by unfold maxLen; omega) (Nat.le_refl _)
  rw [made_rb] at hown
  have hbm := grown_below hgr (fun k hk => by cases hk) (Nat.le_refl w2.heap.size)
  have HM0 := Lib.hid (show Mk w2 Wm c.n (List.replicate c.n false) from ⟨hown, hbm⟩)
  have HOM := Lib.hid (own_below HO2.out hbm)
  have HOF := Lib.hid (show (Value.slice A c.n cap).ownBlock ≠ some w2.heap.size from fun e => by have := (HO2.out.lt _ e).2; omega)
  clear hown hgr hi hz0 hz1 hz2' hbm
  go_upto_region 3 with fail
  clear hmk
  go_wp2
  go_loopw [5] (fun z wr => ∃ (k : Nat) (M : List Bool), k ≤ c.n ∧ z = .int .i64 k ∧ Mk w2 wr c.n M ∧ (∀ i, i < k → M[i]? = some (decide (0 ≤ D.getD i 0))) ∧ wr.ownsRow W1.heap.size 3 1 (.slice A c.n cap) c.n (Ri D)) (fun z _ => c.n - (intOf z).toNat)
  case atStart => exact ⟨0, _, Nat.zero_le _, rfl, HM0.out, fun i hi => absurd hi (Nat.not_lt_zero _), HOM.out⟩
  case round =>
    clear HM0 HOM
    obtain ⟨k, M, hk, rfl, hm, hall, how⟩ := hrel
    have HM := Lib.hid hm
    have HALL := Lib.hid hall
    have HOW := Lib.hid how
    clear hall
    by_cases hlt : k < c.n
    · obtain ⟨x, hx⟩ := get_someF (l := D) (k := k) (by rw [HDL.out]; exact hlt)
      obtain ⟨g, o, rfl, hg, hcx⟩ := row_get (Row.of_own how).1 hx
      have HX := Lib.hid (show D.getD k 0 = x by rw [List.getD_eq_getElem?_getD, hx]; rfl)
      obtain ⟨b0, hb0⟩ := get_someF (l := M) (k := k) (by rw [hm.len]; exact hlt)
      have hcb := hm.cell hb0
      have hfz := hm.own.frozenAt k
      have hsz := hm.sz
      have hk0 : (0 : Int) ≤ (k : Int) := by omega
      have hk1 : (k : Int) < (c.n : Int) := by omega
      clear hx how hm hb0
      go_wp2
      refine ⟨⟨k + 1, M.set k (decide (0 ≤ x)), hlt, by go_num, HM.out.put k _, fun i hi => ?_, HOW.out.kept grown_set (Or.inr HOF.out)⟩, by simp [intOf]; omega⟩
      have hl := HM.out.len
      rw [List.getElem?_set]
      by_cases hki : k = i
      · subst hki
        rw [if_pos rfl, if_pos (by omega), HX.out]
      · rw [if_neg hki]; exact HALL.out i (by omega)
    · obtain ⟨hkn⟩ : c.n = k := by omega
      go_wp2
      go_ret
      have hM : M = reL c := by
        rw [HRE.out]
        apply List.ext_getElem?
        intro i
        have hl := HM.out.len
        rcases Nat.lt_or_ge i c.n with h | h
        · rw [HALL.out i (by omega), List.getElem?_map, List.getD_eq_getElem?_getD, List.getElem?_eq_getElem (by rw [HDL.out]; exact h)]; rfl
        · rw [List.getElem?_eq_none (by omega), List.getElem?_eq_none (by rw [List.length_map, HDL.out]; exact h)]
      exact ⟨w2, rfl, by rw [← hM]; exact HM.out, HB2.out⟩

end Go.Proofs.YtdppooflbjlbcaaDoor.I

/- Fge -/
/- Layer 19: the closure of Reachable. -/
namespace Go.Proofs.YtdppooflbjlbcaaDoor.I
open Go.ChangeShapes Go.WideShapes Go.ChangeAt Go.RowKit Go.PlainAid
set_option linter.unusedSimpArgs false
set_option linter.unusedVariables false

theorem frozF {W : World} {B : Nat} {cs : Array Value} {t : TypeId} (h : W.heap[B]? = some (.cells cs t)) (j : Nat) : W.frozen? ⟨B, j, none⟩ = false := by simp [World.frozen?, h]

/-- marks that are not set -/
def cntF (M : List Bool) : Nat := (M.filter fun b => !b).length
theorem cntF_mono : ∀ (M N : List Bool), M.length = N.length → (∀ i : Nat, M[i]? = some true → N[i]? = some true) → cntF N ≤ cntF M
  | [], [], _, _ => Nat.le_refl _
  | a :: M, b :: N, hl, h => by
    have ih := cntF_mono M N (by simpa using hl) (fun i hi => by have := h (i + 1) (by simpa using hi); simpa using this)
    have h0 := h 0
    unfold cntF at *
    cases a with
    | true =>
      have hb : b = true := by simpa using h0 rfl
      subst hb
      simpa using ih
    | false => cases b with
      | true => simp; omega
      | false => simp; omega
theorem cntF_set : ∀ (M : List Bool) (k : Nat), M[k]? = some false → cntF (M.set k true) + 1 = cntF M
  | [], k, h => by simp at h
  | a :: M, 0, h => by
    obtain rfl : a = false := by simpa using h
    simp [cntF]
  | a :: M, k + 1, h => by
    have ih := cntF_set M k (by simpa using h)
    unfold cntF at *
    rw [List.set_cons_succ]
    cases a with
    | true => simpa using ih
    | false => simp at ih ⊢; omega
/-- what a visit of a does to the marks -/
structure Vis (c : Cd) (M : List Bool) (a : Nat) (M' : List Bool) : Prop where
  mono : ∀ i : Nat, M[i]? = some true → M'[i]? = some true
  hit : M'[a]? = some true
  clos : ∀ x : Nat, M'[x]? = some true → M[x]? = some true ∨ ∀ t : Nat, (t : Int) ∈ edL c x → M'[t]? = some true
  least : ∀ S : Nat → Prop, S a → (∀ x t : Nat, S x → (t : Int) ∈ edL c x → S t) → ∀ x : Nat, M'[x]? = some true → M[x]? = some true ∨ S x
/-- the visit when the edges T are done; M has a's mark already -/
structure Vst (c : Cd) (M : List Bool) (a : Nat) (T : List Int) (M' : List Bool) : Prop where
  mono : ∀ i : Nat, M[i]? = some true → M'[i]? = some true
  done : ∀ t : Nat, (t : Int) ∈ T → M'[t]? = some true
  clos : ∀ x : Nat, M'[x]? = some true → M[x]? = some true ∨ ∀ t : Nat, (t : Int) ∈ edL c x → M'[t]? = some true
  least : ∀ S : Nat → Prop, S a → (∀ x t : Nat, S x → (t : Int) ∈ edL c x → S t) → ∀ x : Nat, M'[x]? = some true → M[x]? = some true ∨ S x
theorem Vst.start (c : Cd) (M : List Bool) (a : Nat) : Vst c M a [] M := ⟨fun _ h => h, fun t h => absurd h List.not_mem_nil, fun x h => Or.inl h, fun _ _ _ x h => Or.inl h⟩
theorem mem_snoc {T : List Int} {s t : Nat} (h : (s : Int) ∈ T ++ [(t : Int)]) : (s : Int) ∈ T ∨ s = t := by
  rcases List.mem_append.1 h with h | h
  · exact Or.inl h
  · have := List.mem_singleton.1 h
    exact Or.inr (by omega)
theorem Vst.old {c : Cd} {M M' : List Bool} {a t : Nat} {T : List Int} (h : Vst c M a T M') (ht : M'[t]? = some true) : Vst c M a (T ++ [(t : Int)]) M' := by
  refine ⟨h.mono, fun s hs => ?_, h.clos, h.least⟩
  rcases mem_snoc hs with hs | hs
  · exact h.done s hs
  · rw [hs]; exact ht
theorem Vst.new {c : Cd} {M M' N : List Bool} {a t : Nat} {T : List Int} (h : Vst c M a T M') (ht : (t : Int) ∈ edL c a) (hv : Vis c M' t N) : Vst c M a (T ++ [(t : Int)]) N := by
  refine ⟨fun i hi => hv.mono i (h.mono i hi), fun s hs => ?_, fun x hx => ?_, fun S ha hS x hx => ?_⟩
  · rcases mem_snoc hs with hs | hs
    · exact hv.mono s (h.done s hs)
    · rw [hs]; exact hv.hit
  · rcases hv.clos x hx with h1 | h1
    · rcases h.clos x h1 with h2 | h2
      · exact Or.inl h2
      · exact Or.inr fun s hs => hv.mono s (h2 s hs)
    · exact Or.inr h1
  · rcases hv.least S (hS a t ha ht) hS x hx with h1 | h1
    · exact h.least S ha hS x h1
    · exact Or.inr h1
theorem set_true {M : List Bool} {a x : Nat} (hx : (M.set a true)[x]? = some true) : M[x]? = some true ∨ x = a := by
  rw [List.getElem?_set] at hx
  by_cases e : a = x
  · exact Or.inr e.symm
  · rw [if_neg e] at hx; exact Or.inl hx
theorem true_set {M : List Bool} {a x : Nat} (hx : M[x]? = some true) : (M.set a true)[x]? = some true := by
  rw [List.getElem?_set]
  by_cases e : a = x
  · have := get_ltF hx
    rw [if_pos e, if_pos (by omega)]
  · rw [if_neg e]; exact hx
theorem Vst.fin {c : Cd} {M M' : List Bool} {a : Nat} (ha : a < M.length) (h : Vst c (M.set a true) a (edL c a) M') : Vis c M a M' := by
  have hin : (M.set a true)[a]? = some true := by rw [List.getElem?_set, if_pos rfl, if_pos ha]
  refine ⟨fun i hi => h.mono i (true_set hi), h.mono a hin, fun x hx => ?_, fun S hS1 hS2 x hx => ?_⟩
  · rcases h.clos x hx with h1 | h1
    · rcases set_true h1 with h2 | h2
      · exact Or.inl h2
      · exact Or.inr fun t ht => h.done t (by rw [h2] at ht; exact ht)
    · exact Or.inr h1
  · rcases h.least S hS1 hS2 x hx with h1 | h1
    · rcases set_true h1 with h2 | h2
      · exact Or.inl h2
      · exact Or.inr (by rw [h2]; exact hS1)
    · exact Or.inr h1
/-- the boxes that the closure holds -/
structure Env (w : World) (c : Cd) (g mB cB vB : Nat) : Prop where
  km : w.heap[mB]? = some (.cells #[.slice (some ⟨g, 0, none⟩) c.n c.n] 30)
  cb : w.heap[cB]? = some (.cells #[.int .i64 c.st, .int .i64 c.lo, .slice c.iA c.n c.ic, .slice c.hA c.hn c.hc, .slice c.mA c.mn c.mc, .slice c.lA c.ln c.lc] 27)
  vb : w.heap[vB]? = some (.cells #[.func (Fn.func 72) #[] #[.pointer (some ⟨mB, 0, none⟩), .pointer (some ⟨cB, 0, none⟩), .pointer (some ⟨vB, 0, none⟩)]] 114)
  nm : mB ≠ g
  nc : cB ≠ g
  nv : vB ≠ g
theorem Env.grow {w w' : World} {c : Cd} {g mB cB vB : Nat} (h : Env w c g mB cB vB) (hg : w.grownBy w' (some g)) : Env w' c g mB cB vB :=
  ⟨(hg.block _ (lt_heap h.km) (fun e => h.nm (Option.some.inj e))).trans h.km, (hg.block _ (lt_heap h.cb) (fun e => h.nc (Option.some.inj e))).trans h.cb, (hg.block _ (lt_heap h.vb) (fun e => h.nv (Option.some.inj e))).trans h.vb, h.nm, h.nc, h.nv⟩
theorem below_grow {w w' : World} {r : Option Nat} (h : Below w.heap.size w w') : w.grownBy w' r := ⟨h.os, h.tape, h.output, h.size, fun b hb _ => h.block b hb⟩
def VisRet (c : Cd) (W1 : World) (M : List Bool) (a : Nat) (w : World) (e : Ending) (w' : World) : Prop :=
  ∃ M', e = .returned (.tuple #[]) ∧ Mk W1 w' c.n M' ∧ w.grownBy w' (some W1.heap.size) ∧ Vis c M a M'
set_option maxRecDepth 100000 in
set_option maxHeartbeats 4000000 in
theorem vis_step (c : Cd) (hf : c.few) (W1 : World) (hok : c.ok W1) (mB cB vB k : Nat)
    (ih : ∀ (M : List Bool) (a : Nat) (w : World), cntF M ≤ k → M[a]? = some false → Mk W1 w c.n M → Env w c W1.heap.size mB cB vB → Calls Tryd.prog 72 #[.int .i64 a, .pointer (some ⟨mB, 0, none⟩), .pointer (some ⟨cB, 0, none⟩), .pointer (some ⟨vB, 0, none⟩)] w (VisRet c W1 M a w))
    (M : List Bool) (a : Nat) (w : World) (hk : cntF M ≤ k + 1) (ha : M[a]? = some false) (hm : Mk W1 w c.n M) (he : Env w c W1.heap.size mB cB vB) :
    Calls Tryd.prog 72 #[.int .i64 a, .pointer (some ⟨mB, 0, none⟩), .pointer (some ⟨cB, 0, none⟩), .pointer (some ⟨vB, 0, none⟩)] w (VisRet c W1 M a w) := by
  have IH := Lib.hid ih
  have OK := Lib.hid hok
  have hcn := hf.n
  have hal : a < c.n := by have := get_ltF ha; have := hm.len; omega
  have ha0 : (0 : Int) ≤ (a : Int) := by omega
  have ha1 : (a : Int) < (c.n : Int) := by omega
  have hcm := ten_cell0 he.km
  have hca := hm.cell ha
  have hfz := hm.own.frozenAt a
  have hgw := hm.sz
  have HE := Lib.hid he
  have HM := Lib.hid hm
  have HA := Lib.hid ha
  have HK := Lib.hid (show cntF (M.set a true) ≤ k by have := cntF_set M a ha; omega)
  clear ih hok he hm ha hk
  go_enter Tryd.func72, Tryd.ntmps72
  go_upto_region 1 with fail
  have hg2 := grown_set (w := w) (g := W1.heap.size) (j := a) (u := .bool true)
  have HG2 := Lib.hid hg2
  have HM2 := Lib.hid (HM.out.put a true)
  have HE2 := Lib.hid (HE.out.grow hg2)
  clear hca hfz hgw hcm hg2
  generalize w.setCell ⟨W1.heap.size, a, none⟩ (.bool true) = W2 at HG2 HM2 HE2 ⊢
  have hgw := HM2.out.sz
  obtain ⟨r0, r1, r2, r3, r4, r5⟩ := six_cells HE2.out.cb
  have OK2 := Lib.hid (OK.out.up HM2.out.bel)
  obtain ⟨T, hT⟩ : ∃ T, edL c a = T := ⟨_, rfl⟩
  have HT := Lib.hid hT
  have HTB := Lib.hid (show ∀ t ∈ T, 0 ≤ t ∧ t < c.n by rw [← hT]; exact edL_bd OK.out a)
  have htl : T.length ≤ 162 := by rw [← hT]; exact edL_few OK.out hf a
  obtain ⟨m, hm⟩ : ∃ m, T.length = m := ⟨_, rfl⟩
  have HTL := Lib.hid hm
  rw [hm] at htl
  clear hT hm
  go_upto_region 2 with (go_at_call 73; (with_reducible refine (eds_any c _ _ OK2.out).mono ?_); rintro e w3 ⟨v3, rfl, ho3, hb3⟩; rw [HT.out, HTL.out] at ho3; obtain ⟨A3, c3, rfl, hc3, hm3, _⟩ := own_form ho3)
  have HO3 := Lib.hid ho3
  have HG3 := Lib.hid (show W2.grownBy w3 (some W1.heap.size) from below_grow hb3)
  have HM3 := Lib.hid (HM2.out.up hb3)
  have HOF := Lib.hid (show (Value.slice A3 m c3).ownBlock ≠ some W1.heap.size from fun e => by have := (ho3.lt _ e).1; omega)
  obtain ⟨Bo, hBo⟩ : ∃ Bo, W2.heap.size = Bo := ⟨_, rfl⟩
  rw [hBo] at HO3
  clear ho3 hb3 r0 r1 r2 r3 r4 r5 hBo
  go_loopw [14] (fun z wr => ∃ (j : Nat) (M' : List Bool), j ≤ m ∧ z = .int .i64 j ∧ Mk W1 wr c.n M' ∧ W2.grownBy wr (some W1.heap.size) ∧ Vst c (M.set a true) a (T.take j) M' ∧ wr.ownsRow Bo 3 1 (.slice A3 m c3) m (Ri T)) (fun z _ => m - (intOf z).toNat)
  case atStart => exact ⟨0, _, Nat.zero_le _, rfl, HM3.out, HG3.out, Vst.start _ _ _, HO3.out⟩
  case round =>
    clear HO3 HG3 HM3
    obtain ⟨j, M', hj, rfl, hm, hg, hv, how⟩ := hrel
    have HM' := Lib.hid hm
    have HG' := Lib.hid hg
    have HV := Lib.hid hv
    have HOW := Lib.hid how
    have HE' := Lib.hid (HE2.out.grow hg)
    clear hg hv
    by_cases hjt : j < m
    · obtain ⟨t, ht⟩ := get_someF (l := T) (k := j) (by rw [HTL.out]; exact hjt)
      have HTM := Lib.hid (List.mem_of_getElem? ht)
      obtain ⟨ht0, ht1⟩ := HTB.out t HTM.out
      obtain ⟨kt, rfl⟩ : ∃ kt : Nat, t = (kt : Int) := ⟨t.toNat, by omega⟩
      obtain ⟨gs, os, rfl, hgs, hcs⟩ := row_get (Row.of_own how).1 ht
      have HTK := Lib.hid (take_snocF ht)
      obtain ⟨b, hb⟩ := get_someF (l := M') (k := kt) (by rw [hm.len]; omega)
      have hcb := hm.cell hb
      have hcm := ten_cell0 HE'.out.km
      have hcv := ten_cell0 HE'.out.vb
      have hj0 : (0 : Int) ≤ (j : Int) := by omega
      have hj1 : (j : Int) < (m : Int) := by omega
      clear ht how hm
      cases b with
      | true =>
        have HBT := Lib.hid hb
        clear hb
        go_wp2
        exact ⟨⟨j + 1, M', hjt, by go_num, HM'.out, HG'.out, by rw [HTK.out]; exact HV.out.old HBT.out, HOW.out⟩, by simp [intOf]; omega⟩
      | false =>
        have HBT := Lib.hid hb
        have hlen : M'.length = (M.set a true).length := by have h1 := HM'.out.len; have h2 := HM2.out.len; omega
        have HCN := Lib.hid (show cntF M' ≤ k from Nat.le_trans (cntF_mono _ _ hlen.symm HV.out.mono) HK.out)
        clear hb hlen
        go_wp2_with (go_at_call 72; (with_reducible refine (IH.out M' kt _ HCN.out HBT.out HM'.out HE'.out).mono ?_); rintro e w6 ⟨N, rfl, hm6, hg6, hv6⟩)
        have hk6 := HOW.out.kept hg6 (Or.inr HOF.out)
        exact ⟨⟨j + 1, N, hjt, by go_num, hm6, HG'.out.trans hg6, by rw [HTK.out]; exact HV.out.new (by rw [HT.out]; exact HTM.out) hv6, hk6⟩, by simp [intOf]; omega⟩
    · obtain ⟨rfl⟩ : m = j := by omega
      have hfin : Vis c M a M' := by
        have := HV.out
        rw [List.take_of_length_le (by rw [HTL.out]; exact Nat.le_refl _), ← HT.out] at this
        exact this.fin (get_ltF HA.out)
      go_wp2
      go_end0
      exact ⟨M', rfl, HM'.out, HG2.out.trans HG'.out, hfin⟩
theorem vis_any (c : Cd) (hf : c.few) (W1 : World) (hok : c.ok W1) (mB cB vB : Nat) : ∀ (k : Nat) (M : List Bool) (a : Nat) (w : World), cntF M ≤ k → M[a]? = some false → Mk W1 w c.n M → Env w c W1.heap.size mB cB vB →
    Calls Tryd.prog 72 #[.int .i64 a, .pointer (some ⟨mB, 0, none⟩), .pointer (some ⟨cB, 0, none⟩), .pointer (some ⟨vB, 0, none⟩)] w (VisRet c W1 M a w)
  | 0, M, a, w, hk, ha, _, _ => by have := cntF_set M a ha; omega
  | k + 1, M, a, w, hk, ha, hm, he => vis_step c hf W1 hok mB cB vB k (fun M a w h1 h2 h3 h4 => vis_any c hf W1 hok mB cB vB k M a w h1 h2 h3 h4) M a w hk ha hm he

end Go.Proofs.YtdppooflbjlbcaaDoor.I

/- Fgf -/
/- Layer 19: Reachable. -/
namespace Go.Proofs.YtdppooflbjlbcaaDoor.I
open Go.ChangeShapes Go.WideShapes Go.ChangeAt Go.RowKit Go.PlainAid
set_option linter.unusedSimpArgs false
set_option linter.unusedVariables false

/-- x has a distance -/
def Has (f : List Int) (x : Nat) : Prop := ∃ y, f[x]? = some y ∧ 0 ≤ y
theorem has_dec {f : List Int} {x : Nat} (h : x < f.length) : Has f x ∨ f.getD x 0 < 0 := by
  rw [List.getD_eq_getElem?_getD, List.getElem?_eq_getElem h]
  rcases Int.lt_or_le f[x] 0 with h1 | h1
  · exact Or.inr h1
  · exact Or.inl ⟨f[x], List.getElem?_eq_getElem h, h1⟩
theorem Has.get {f : List Int} {x : Nat} (h : Has f x) : 0 ≤ f.getD x 0 := by
  obtain ⟨y, hy, h0⟩ := h
  rw [List.getD_eq_getElem?_getD, hy]; exact h0
theorem Has.set {f : List Int} {x t : Nat} {v : Int} (h : Has f x) (hv : 0 ≤ v) : Has (f.set t v) x := by
  obtain ⟨y, hy, h0⟩ := h
  have hl := get_ltF hy
  unfold Has
  rw [List.getElem?_set]
  by_cases e : t = x
  · rw [if_pos e, if_pos (by omega)]; exact ⟨v, rfl, hv⟩
  · rw [if_neg e]; exact ⟨y, hy, h0⟩
theorem has_set {f : List Int} {t : Nat} {v : Int} (ht : t < f.length) (hv : 0 ≤ v) : Has (f.set t v) t := ⟨v, by rw [List.getElem?_set, if_pos rfl, if_pos ht], hv⟩
theorem has_of_set {f : List Int} {x t : Nat} {v : Int} (h : Has (f.set t v) x) : Has f x ∨ x = t := by
  obtain ⟨y, hy, h0⟩ := h
  rw [List.getElem?_set] at hy
  by_cases e : t = x
  · exact Or.inr e.symm
  · rw [if_neg e] at hy; exact Or.inl ⟨y, hy, h0⟩
theorem dsIn_has (a : Int) : ∀ (S f q : List Int), Has f a.toNat → (∀ t ∈ S, 0 ≤ t ∧ t.toNat < f.length) →
    (∀ x, Has f x → Has (dsIn a f q S).1 x) ∧ (∀ t ∈ S, Has (dsIn a f q S).1 t.toNat) ∧ (∀ x, Has (dsIn a f q S).1 x → Has f x ∨ ((x : Int) ∈ (dsIn a f q S).2 ∧ (x : Int) ∈ S)) ∧ (∀ x ∈ q, x ∈ (dsIn a f q S).2) ∧ (∀ x ∈ (dsIn a f q S).2, x ∈ q ∨ x ∈ S)
  | [], f, q, _, _ => ⟨fun _ h => h, fun t h => absurd h List.not_mem_nil, fun _ h => Or.inl h, fun _ h => h, fun _ h => Or.inl h⟩
  | t :: r, f, q, ha, hS => by
    have ht := hS t List.mem_cons_self
    have hr := fun s hs => hS s (List.mem_cons_of_mem t hs)
    have hn := ha.get
    unfold dsIn
    by_cases hlt : f.getD t.toNat 0 < 0
    · rw [if_pos hlt]
      obtain ⟨i1, i2, i3, i4, i5⟩ := dsIn_has a r (f.set t.toNat (f.getD a.toNat 0 + 1)) (q ++ [t]) (ha.set (by omega)) (fun s hs => by rw [List.length_set]; exact hr s hs)
      have ht1 : Has (f.set t.toNat (f.getD a.toNat 0 + 1)) t.toNat := has_set ht.2 (by omega)
      refine ⟨fun x hx => i1 x (hx.set (by omega)), fun s hs => ?_, fun x hx => ?_, fun x hx => i4 x (List.mem_append_left _ hx), fun x hx => ?_⟩
      · rcases List.mem_cons.1 hs with rfl | hs
        · exact i1 _ ht1
        · exact i2 s hs
      · rcases i3 x hx with h | ⟨h1, h2⟩
        · rcases has_of_set h with h | h
          · exact Or.inl h
          · have hxt : (x : Int) = t := by omega
            exact Or.inr ⟨i4 _ (List.mem_append_right _ (by rw [hxt]; exact List.mem_cons_self)), by rw [hxt]; exact List.mem_cons_self⟩
        · exact Or.inr ⟨h1, List.mem_cons_of_mem _ h2⟩
      · rcases i5 x hx with h | h
        · rcases List.mem_append.1 h with h | h
          · exact Or.inl h
          · rw [List.mem_singleton.1 h]; exact Or.inr List.mem_cons_self
        · exact Or.inr (List.mem_cons_of_mem _ h)
    · rw [if_neg hlt]
      obtain ⟨i1, i2, i3, i4, i5⟩ := dsIn_has a r f q ha hr
      have ht1 : Has f t.toNat := (has_dec ht.2).resolve_right hlt
      refine ⟨i1, fun s hs => ?_, fun x hx => ?_, i4, fun x hx => ?_⟩
      · rcases List.mem_cons.1 hs with rfl | hs
        · exact i1 _ ht1
        · exact i2 s hs
      · rcases i3 x hx with h | ⟨h1, h2⟩
        · exact Or.inl h
        · exact Or.inr ⟨h1, List.mem_cons_of_mem _ h2⟩
      · rcases i5 x hx with h | h
        · exact Or.inl h
        · exact Or.inr (List.mem_cons_of_mem _ h)
theorem dsOut_has (c : Cd) (m : Nat) (hed : ∀ x : Int, ∀ t ∈ edL c x, 0 ≤ t ∧ t.toNat < m) : ∀ (k : Nat) (f q : List Int), mu f q < k → f.length = m → (∀ x ∈ q, 0 ≤ x ∧ Has f x.toNat) → (∀ x : Nat, Has f x → (x : Int) ∈ q ∨ ∀ t ∈ edL c x, Has f t.toNat) →
    (∀ x, Has f x → Has (dsOut c k f q) x) ∧ (∀ x : Nat, Has (dsOut c k f q) x → ∀ t ∈ edL c x, Has (dsOut c k f q) t.toNat) ∧ (∀ S : Nat → Prop, (∀ x t : Nat, S x → (t : Int) ∈ edL c x → S t) → (∀ x, Has f x → S x) → ∀ x, Has (dsOut c k f q) x → S x)
  | 0, f, q, hm, _, _, _ => absurd hm (Nat.not_lt_zero _)
  | k + 1, f, [], hm, hl, hq, hc => ⟨fun _ h => h, fun x hx => (hc x hx).resolve_left List.not_mem_nil, fun _ _ hS x hx => hS x hx⟩
  | k + 1, f, a :: q, hm, hl, hq, hc => by
    obtain ⟨ha0, ha⟩ := hq a List.mem_cons_self
    have haa : ((a.toNat : Nat) : Int) = a := Int.toNat_of_nonneg ha0
    obtain ⟨i1, i2, i3, i4, i5⟩ := dsIn_has a (edL c a) f q ha (fun t ht => by rw [hl]; exact hed a t ht)
    obtain ⟨m1, m2⟩ := dsIn_mu a (edL c a) f q ha.get
    have hmu : mu (dsIn a f q (edL c a)).1 (dsIn a f q (edL c a)).2 < k := by
      rw [m1]
      unfold mu at hm ⊢
      rw [List.length_cons] at hm
      omega
    obtain ⟨j1, j2, j3⟩ := dsOut_has c m hed k _ _ hmu (by rw [m2, hl]) (fun x hx => by
      rcases i5 x hx with h | h
      · have := hq x (List.mem_cons_of_mem _ h)
        exact ⟨this.1, i1 _ this.2⟩
      · exact ⟨(hed a x h).1, i2 x h⟩) (fun x hx => by
      rcases i3 x hx with h | h
      · rcases hc x h with h | h
        · rcases List.mem_cons.1 h with h | h
          · exact Or.inr fun t ht => i2 t (by rw [← h]; exact ht)
          · exact Or.inl (i4 _ h)
        · exact Or.inr fun t ht => i1 _ (h t ht)
      · exact Or.inl h.1)
    refine ⟨fun x hx => j1 x (i1 x hx), j2, fun S hS h0 x hx => j3 S hS (fun y hy => ?_) x hx⟩
    rcases i3 y hy with h | h
    · exact h0 y h
    · exact hS a.toNat y (h0 _ ha) (by rw [haa]; exact h.2)
theorem reL_get {c : Cd} {i : Nat} : (reL c)[i]? = some true ↔ Has (distL c) i := by
  unfold reL Has
  rw [List.getElem?_map]
  cases h : (distL c)[i]? with
  | none => simp
  | some y => simp
theorem bool_iff {b b' : Bool} (h : some b = some true ↔ some b' = some true) : some b = some b' := by
  cases b with
  | true => exact (h.1 rfl).symm
  | false => cases b' with
    | true => exact h.2 rfl
    | false => rfl
/-- a visit of the first instruction marks what has a distance -/
theorem vis_re {c : Cd} {w : World} (h : c.ok w) (hn : 0 < c.n) {M' : List Bool} (hl : M'.length = c.n) (hv : Vis c (List.replicate c.n false) 0 M') : M' = reL c := by
  have hno : ∀ x : Nat, ¬ (List.replicate c.n false)[x]? = some true := fun x hx => by
    rw [List.getElem?_replicate] at hx
    split at hx <;> cases hx
  have hD : distL c = dsOut c (c.n + 1) ((List.replicate c.n (-1)).set 0 0) [0] := if_neg (by omega)
  have hst : ∀ x : Nat, Has ((List.replicate c.n (-1)).set 0 0) x → x = 0 := fun x hx => by
    rcases has_of_set hx with ⟨y, hy, h0⟩ | h
    · rw [List.getElem?_replicate] at hy
      split at hy
      · obtain rfl := Option.some.inj hy; omega
      · cases hy
    · exact h
  have h00 : Has ((List.replicate c.n (-1)).set 0 0) 0 := has_set (by simpa using hn) (Int.le_refl _)
  obtain ⟨d1, d2, d3⟩ := dsOut_has c c.n (fun x t ht => by have := edL_bd h x t ht; omega) (c.n + 1) ((List.replicate c.n (-1)).set 0 0) [0] (by rw [mu_start hn]; omega) (by simp) (fun x hx => by rw [List.mem_singleton.1 hx]; exact ⟨Int.le_refl _, h00⟩) (fun x hx => Or.inl (by rw [hst x hx]; exact List.mem_cons_self))
  rw [← hD] at d1 d2 d3
  have key : ∀ i : Nat, M'[i]? = some true ↔ (reL c)[i]? = some true := fun i => by
    rw [reL_get]
    constructor
    · intro hi
      rcases hv.least (fun x => Has (distL c) x) (d1 0 h00) (fun x t hx ht => by have := d2 x hx t ht; rwa [Int.toNat_natCast] at this) i hi with h1 | h1
      · exact absurd h1 (hno i)
      · exact h1
    · intro hi
      exact d3 (fun x => M'[x]? = some true) (fun x t hx ht => by
        rcases hv.clos x hx with h1 | h1
        · exact absurd h1 (hno x)
        · exact h1 t ht) (fun x hx => by rw [hst x hx]; exact hv.hit) i hi
  apply List.ext_getElem?
  intro i
  have hrl : (reL c).length = c.n := by unfold reL; rw [List.length_map, distL_len]
  rcases Nat.lt_or_ge i c.n with hi | hi
  · obtain ⟨b, hb⟩ := get_someF (l := M') (k := i) (by omega)
    obtain ⟨b', hb'⟩ := get_someF (l := reL c) (k := i) (by omega)
    have := key i
    rw [hb, hb'] at this ⊢
    exact bool_iff this
  · rw [List.getElem?_eq_none (by omega), List.getElem?_eq_none (by omega)]
set_option maxRecDepth 100000 in
set_option maxHeartbeats 4000000 in
theorem re_any (c : Cd) (w : World) (hok : c.ok w) (hf : c.few) : Calls Tryd.prog 48 #[(Value.agg #[Value.int IntKind.i64 (Cd.st c), Value.int IntKind.i64 (Cd.lo c), Value.slice (Cd.iA c) (Cd.n c) (Cd.ic c), Value.slice (Cd.hA c) (Cd.hn c) (Cd.hc c), Value.slice (Cd.mA c) (Cd.mn c) (Cd.mc c), Value.slice (Cd.lA c) (Cd.ln c) (Cd.lc c)])] w (MarksRet w c.n (reL c)) := by
  have hB : Below w.heap.size w w := Below.refl _ _
  have OK := Lib.hid hok
  have hcn := hf.n
  clear hok
  go_enter Tryd.func48, Tryd.ntmps48
  go_upto_region 1 with fail
  have R := World.alloc_heap_new w (.cells #[.int .i64 c.st, .int .i64 c.lo, .slice c.iA c.n c.ic, .slice c.hA c.hn c.hc, .slice c.mA c.mn c.mc, .slice c.lA c.ln c.lc] 27)
  replace hB := below_al hB (.cells #[.int .i64 c.st, .int .i64 c.lo, .slice c.iA c.n c.ic, .slice c.hA c.hn c.hc, .slice c.mA c.mn c.mc, .slice c.lA c.ln c.lc] 27)
  generalize w.alloc (.cells #[.int .i64 c.st, .int .i64 c.lo, .slice c.iA c.n c.ic, .slice c.hA c.hn c.hc, .slice c.mA c.mn c.mc, .slice c.lA c.ln c.lc] 27) = W1 at R hB ⊢
  obtain ⟨r0, r1, r2, r3, r4, r5⟩ := six_cells R
  have y1 := lt_heap R
  replace R := Lib.hid R
  have OK1 := Lib.hid (OK.out.up hB)
  have HB := Lib.hid hB
  obtain ⟨i0, hi, hz0, hz1, hz2⟩ := info_parts infoB
  obtain ⟨Wm, hmk, hown, hgr⟩ := run_makeSlice_full (P := Tryd.prog) W1 W1.heap.size 30 4 i0 (.bool false) 1 Tryd.underlying30 hi hz0 hz1 .i64 .i64 c.n (by omega) (by rw [hz2]; omega) (by unfold maxLen; omega) (Nat.le_refl _)
  rw [made_rb] at hown
  have hbm := grown_below hgr (fun k hk => by cases hk) (Nat.le_refl W1.heap.size)
  have HM0 := Lib.hid (show Mk W1 Wm c.n (List.replicate c.n false) from ⟨hown, hbm⟩)
  have RBm := Lib.hid ((hbm.block _ y1).trans R.out)
  clear hown hgr hi hz0 hz1 hz2 hB hbm
  go_upto_region 2 with fail
  clear hmk
  clear r0 r1 r2 r3 r4 r5
  have yrm := lt_heap RBm.out
  have hsm := HM0.out.sz
  go_upto_region 3 with fail
  have hb4 : Below Wm.heap.size Wm ((Wm.alloc (.cells #[.slice (some ⟨W1.heap.size, 0, none⟩) c.n c.n] 30)).alloc (.cells #[.nilFunc] 114)) := below_al (below_al (Below.refl _ _) _) _
  have hx0 : ((Wm.alloc (.cells #[.slice (some ⟨W1.heap.size, 0, none⟩) c.n c.n] 30)).alloc (.cells #[.nilFunc] 114)).heap[Wm.heap.size + 1]? = some (.cells #[.nilFunc] 114) := new_at (by simp)
  have hk0 : ((Wm.alloc (.cells #[.slice (some ⟨W1.heap.size, 0, none⟩) c.n c.n] 30)).alloc (.cells #[.nilFunc] 114)).heap[Wm.heap.size]? = some (.cells #[.slice (some ⟨W1.heap.size, 0, none⟩) c.n c.n] 30) := laid_old (World.alloc_heap_new Wm _)
  generalize (Wm.alloc (.cells #[.slice (some ⟨W1.heap.size, 0, none⟩) c.n c.n] 30)).alloc (.cells #[.nilFunc] 114) = W4 at hx0 hb4 hk0 ⊢
  have hc0 := ten_cell0 hx0
  have hf0 := frozF hx0 0
  have hl0 := lt_heap hx0
  go_upto_region 4 with fail
  have hR5 := heap_setCell_other W4 ⟨Wm.heap.size + 1, 0, none⟩ w.heap.size (.func (Fn.func 72) #[] #[.pointer (some ⟨Wm.heap.size, 0, none⟩), .pointer (some ⟨w.heap.size, 0, none⟩), .pointer (some ⟨Wm.heap.size + 1, 0, none⟩)]) (by show w.heap.size ≠ Wm.heap.size + 1; omega)
  rw [(hb4.block _ yrm).trans RBm.out] at hR5
  have hk5 := heap_setCell_other W4 ⟨Wm.heap.size + 1, 0, none⟩ Wm.heap.size (.func (Fn.func 72) #[] #[.pointer (some ⟨Wm.heap.size, 0, none⟩), .pointer (some ⟨w.heap.size, 0, none⟩), .pointer (some ⟨Wm.heap.size + 1, 0, none⟩)]) (by show Wm.heap.size ≠ Wm.heap.size + 1; omega)
  rw [hk0] at hk5
  have hv5 := heap_setCell_same W4 (Wm.heap.size + 1) 0 _ _ (.func (Fn.func 72) #[] #[.pointer (some ⟨Wm.heap.size, 0, none⟩), .pointer (some ⟨w.heap.size, 0, none⟩), .pointer (some ⟨Wm.heap.size + 1, 0, none⟩)]) hx0
  have hb5 : Below Wm.heap.size Wm (W4.setCell ⟨Wm.heap.size + 1, 0, none⟩ (.func (Fn.func 72) #[] #[.pointer (some ⟨Wm.heap.size, 0, none⟩), .pointer (some ⟨w.heap.size, 0, none⟩), .pointer (some ⟨Wm.heap.size + 1, 0, none⟩)])) := below_st hb4 (Nat.le_succ _) _
  generalize W4.setCell ⟨Wm.heap.size + 1, 0, none⟩ (.func (Fn.func 72) #[] #[.pointer (some ⟨Wm.heap.size, 0, none⟩), .pointer (some ⟨w.heap.size, 0, none⟩), .pointer (some ⟨Wm.heap.size + 1, 0, none⟩)]) = W5 at hR5 hk5 hv5 hb5 ⊢
  have HE := Lib.hid (show Env W5 c W1.heap.size Wm.heap.size w.heap.size (Wm.heap.size + 1) from ⟨hk5, hR5, hv5, by omega, by omega, by omega⟩)
  have HM5 := Lib.hid (HM0.out.up hb5)
  clear hx0 hb4 hk0 hc0 hf0 hl0 hb5
  obtain ⟨r0, r1, r2, r3, r4, r5⟩ := six_cells hR5
  have hc5 := ten_cell0 hv5
  have hm5 := ten_cell0 hk5
  clear hR5 hk5 hv5
  by_cases hn0 : c.n = 0
  · have hn1 : ¬ (0 : Int) < (c.n : Int) := by omega
    have HN0 := Lib.hid hn0
    clear hn0
    go_wp2
    go_ret
    have hn0 := HN0.out
    have hre : reL c = List.replicate c.n false := by
      have h1 := distL_len c
      rw [hn0] at h1 ⊢
      unfold reL
      rw [List.eq_nil_of_length_eq_zero h1]; rfl
    exact ⟨W1, rfl, by rw [hre]; exact HM5.out, HB.out⟩
  · have hpos : 0 < c.n := by omega
    have hn1 : (0 : Int) < (c.n : Int) := by omega
    have hM0 : (List.replicate c.n false)[0]? = some false := by rw [List.getElem?_replicate, if_pos hpos]
    have HV := Lib.hid (show Calls Tryd.prog 72 #[.int .i64 0, .pointer (some ⟨Wm.heap.size, 0, none⟩), .pointer (some ⟨w.heap.size, 0, none⟩), .pointer (some ⟨Wm.heap.size + 1, 0, none⟩)] W5 (VisRet c W1 (List.replicate c.n false) 0 W5) from vis_any c hf W1 OK1.out _ _ _ _ (List.replicate c.n false) 0 W5 (Nat.le_refl _) hM0 HM5.out HE.out)
    go_wp2_with (go_at_call 72; (with_reducible refine HV.out.mono ?_); rintro e w6 ⟨N, rfl, hm6, hg6, hv6⟩; have hm7 := ten_cell0 (HE.out.grow hg6).km)
    go_ret
    have hre := vis_re OK1.out hpos hm6.len hv6
    exact ⟨W1, rfl, by rw [← hre]; exact hm6, HB.out⟩

end Go.Proofs.YtdppooflbjlbcaaDoor.I
