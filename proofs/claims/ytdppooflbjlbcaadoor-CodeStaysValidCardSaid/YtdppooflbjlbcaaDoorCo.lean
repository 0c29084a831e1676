/- Layer 9: few; CodeBlocksReference. (Written by gen/co.py.) -/
import Derived.Test.YtdppooflbjlbcaaDoorCn
namespace Go.Proofs.YtdppooflbjlbcaaDoor.I
open Go.ChangeShapes Go.WideShapes Go.ChangeAt Go.RowKit Go.PlainAid
set_option linter.unusedSimpArgs false
set_option linter.unusedVariables false

/-- code as a parameter hands it over -/
structure Cd.raw9 (w : World) (c : Cd) : Prop where
  il : c.is.length = c.n
  iw : Ins w w.heap.size c.iA c.is
  ib : c.n ≤ 9223372036854775807
  hl : c.hs.length = c.hn
  hw : Hds w w.heap.size c.hA c.hs
  hb : c.hn ≤ 9223372036854775807
  nz : ∀ i ∈ c.is, i.nz
  tn : ∀ i ∈ c.is, i.tn ≤ 17592186043904
theorem Cd.raw9.up {w w' : World} {c : Cd} (h : c.raw9 w) (hb : Below w.heap.size w w') : c.raw9 w' := ⟨h.il, h.iw.up hb, h.ib, h.hl, h.hw.up hb, h.hb, h.nz, h.tn⟩
def fwP (n : Nat) (c : Cd) : Prop := n ≤ 1100 ∧ c.n ≤ 1100 ∧ c.hn ≤ 100 ∧ c.mn ≤ 200 ∧ c.ln ≤ 200
instance (n : Nat) (c : Cd) : Decidable (fwP n c) := by unfold fwP; infer_instance
theorem Cd.raw9.ok {w : World} {c : Cd} {n : Nat} (h : c.raw9 w) (hf : fwP n c) : c.c9 w := ⟨h.il, h.iw, by have := hf.2.1; omega, h.hl, h.hw, hf.2.2.1, h.nz, h.tn⟩
set_option maxRecDepth 100000 in
set_option maxHeartbeats 8000000 in
theorem few9_any (A : Option Addr) (n cap : Nat) (c : Cd) (w : World) : Calls Tryd.prog 11 #[.slice A n cap, (Value.agg #[Value.int IntKind.i64 (Cd.st c), Value.int IntKind.i64 (Cd.lo c), Value.slice (Cd.iA c) (Cd.n c) (Cd.ic c), Value.slice (Cd.hA c) (Cd.hn c) (Cd.hc c), Value.slice (Cd.mA c) (Cd.mn c) (Cd.mc c), Value.slice (Cd.lA c) (Cd.ln c) (Cd.lc c)])] w fun e w' => e = .returned (.bool (decide (fwP n c))) ∧ Below w.heap.size w w' := by
  have hB : Below w.heap.size w w := Below.refl _ _
  obtain ⟨r, hr⟩ : ∃ r, decide (fwP n c) = r := ⟨_, rfl⟩
  have HR := Lib.hid hr
  rw [hr]
  clear hr
  by_cases h : fwP n c
  · have H := Lib.hid (decide_eq_true h)
    obtain ⟨h1, h2, h3, h4, h5⟩ := h
    go_enter Tryd.func11, Tryd.ntmps11
    go_upto_region 1 with fail
    have R := World.alloc_heap_new w (.cells #[.int .i64 c.st, .int .i64 c.lo, .slice c.iA c.n c.ic, .slice c.hA c.hn c.hc, .slice c.mA c.mn c.mc, .slice c.lA c.ln c.lc] 27)
    replace hB := below_al hB (.cells #[.int .i64 c.st, .int .i64 c.lo, .slice c.iA c.n c.ic, .slice c.hA c.hn c.hc, .slice c.mA c.mn c.mc, .slice c.lA c.ln c.lc] 27)
    generalize w.alloc (.cells #[.int .i64 c.st, .int .i64 c.lo, .slice c.iA c.n c.ic, .slice c.hA c.hn c.hc, .slice c.mA c.mn c.mc, .slice c.lA c.ln c.lc] 27) = W1 at R hB ⊢
    obtain ⟨r0, r1, r2, r3, r4, r5⟩ := six_cells R
    have y1 := lt_heap R
    replace R := Lib.hid R
    go_wp2
    go_ret
    exact ⟨by rw [← HR.out, H.out]; exact congrArg (fun b => Ending.returned (Value.bool b)) (decide_eq_true (by omega)), hB⟩
  · have H := Lib.hid (decide_eq_false h)
    unfold fwP at h
    go_enter Tryd.func11, Tryd.ntmps11
    go_upto_region 1 with fail
    have R := World.alloc_heap_new w (.cells #[.int .i64 c.st, .int .i64 c.lo, .slice c.iA c.n c.ic, .slice c.hA c.hn c.hc, .slice c.mA c.mn c.mc, .slice c.lA c.ln c.lc] 27)
    replace hB := below_al hB (.cells #[.int .i64 c.st, .int .i64 c.lo, .slice c.iA c.n c.ic, .slice c.hA c.hn c.hc, .slice c.mA c.mn c.mc, .slice c.lA c.ln c.lc] 27)
    generalize w.alloc (.cells #[.int .i64 c.st, .int .i64 c.lo, .slice c.iA c.n c.ic, .slice c.hA c.hn c.hc, .slice c.mA c.mn c.mc, .slice c.lA c.ln c.lc] 27) = W1 at R hB ⊢
    obtain ⟨r0, r1, r2, r3, r4, r5⟩ := six_cells R
    have y1 := lt_heap R
    replace R := Lib.hid R
    by_cases h1 : n ≤ 1100
    · by_cases h2 : c.n ≤ 1100
      · by_cases h3 : c.hn ≤ 100
        · by_cases h4 : c.mn ≤ 200
          · have h5 : ¬ c.ln ≤ 200 := fun h5 => h ⟨h1, h2, h3, h4, h5⟩
            go_wp2
            go_ret
            exact ⟨by rw [← HR.out, H.out]; exact congrArg (fun b => Ending.returned (Value.bool b)) (decide_eq_false (by omega)), hB⟩
          · go_wp2
            go_ret
            exact ⟨by rw [← HR.out, H.out]; rfl, hB⟩
        · go_wp2
          go_ret
          exact ⟨by rw [← HR.out, H.out]; rfl, hB⟩
      · go_wp2
        go_ret
        exact ⟨by rw [← HR.out, H.out]; rfl, hB⟩
    · go_wp2
      go_ret
      exact ⟨by rw [← HR.out, H.out]; rfl, hB⟩
theorem few9_yes {A : Option Addr} {n cap : Nat} {c : Cd} (w : World) (h : fwP n c) : Calls Tryd.prog 11 #[.slice A n cap, (Value.agg #[Value.int IntKind.i64 (Cd.st c), Value.int IntKind.i64 (Cd.lo c), Value.slice (Cd.iA c) (Cd.n c) (Cd.ic c), Value.slice (Cd.hA c) (Cd.hn c) (Cd.hc c), Value.slice (Cd.mA c) (Cd.mn c) (Cd.mc c), Value.slice (Cd.lA c) (Cd.ln c) (Cd.lc c)])] w fun e w' => e = .returned (.bool true) ∧ Below w.heap.size w w' := by
  have := few9_any A n cap c w; rwa [decide_eq_true h] at this
theorem few9_no {A : Option Addr} {n cap : Nat} {c : Cd} (w : World) (h : ¬ fwP n c) : Calls Tryd.prog 11 #[.slice A n cap, (Value.agg #[Value.int IntKind.i64 (Cd.st c), Value.int IntKind.i64 (Cd.lo c), Value.slice (Cd.iA c) (Cd.n c) (Cd.ic c), Value.slice (Cd.hA c) (Cd.hn c) (Cd.hc c), Value.slice (Cd.mA c) (Cd.mn c) (Cd.mc c), Value.slice (Cd.lA c) (Cd.ln c) (Cd.lc c)])] w fun e w' => e = .returned (.bool false) ∧ Below w.heap.size w w' := by
  have := few9_any A n cap c w; rwa [decide_eq_false h] at this
set_option maxRecDepth 100000 in
set_option maxHeartbeats 16000000 in
theorem blocksref_law (c : Cd) (w : World) (hok : c.raw9 w) : Calls Tryd.prog 3 #[(Value.agg #[Value.int IntKind.i64 (Cd.st c), Value.int IntKind.i64 (Cd.lo c), Value.slice (Cd.iA c) (Cd.n c) (Cd.ic c), Value.slice (Cd.hA c) (Cd.hn c) (Cd.hc c), Value.slice (Cd.mA c) (Cd.mn c) (Cd.mc c), Value.slice (Cd.lA c) (Cd.ln c) (Cd.lc c)])] w fun e w' => e = .returned (.bool true) ∧ Below w.heap.size w w' := by
  have hB : Below w.heap.size w w := Below.refl _ _
  have OK := Lib.hid hok
  clear hok
  by_cases hf : fwP 0 c
  · have HF := Lib.hid hf
    have OK9 := Lib.hid (OK.out.ok hf)
    have hcn := hf.2.1
    have hbl := btL_len c
    have hsl := rowsI_len (bsP c) c.n
    clear hf
    go_enter Tryd.func3, Tryd.ntmps3
    go_upto_region 1 with fail
    have R := World.alloc_heap_new w (.cells #[.int .i64 c.st, .int .i64 c.lo, .slice c.iA c.n c.ic, .slice c.hA c.hn c.hc, .slice c.mA c.mn c.mc, .slice c.lA c.ln c.lc] 27)
    replace hB := below_al hB (.cells #[.int .i64 c.st, .int .i64 c.lo, .slice c.iA c.n c.ic, .slice c.hA c.hn c.hc, .slice c.mA c.mn c.mc, .slice c.lA c.ln c.lc] 27)
    generalize w.alloc (.cells #[.int .i64 c.st, .int .i64 c.lo, .slice c.iA c.n c.ic, .slice c.hA c.hn c.hc, .slice c.mA c.mn c.mc, .slice c.lA c.ln c.lc] 27) = W1 at R hB ⊢
    obtain ⟨r0, r1, r2, r3, r4, r5⟩ := six_cells R
    have y1 := lt_heap R
    replace R := Lib.hid R
    go_upto_region 3 with (go_at_call 11; refine (few9_yes _ HF.out).mono ?_; rintro e w1 ⟨rfl, hb1⟩)
    have HB := Lib.hid (below_on hB hb1)
    have OKA := Lib.hid (OK9.out.up HB.out)
    have RB := Lib.hid ((hb1.block _ y1).trans R.out)
    clear r0 r1 r2 r3 r4 r5 y1 R hb1 hB
    clear W1
    obtain ⟨r0, r1, r2, r3, r4, r5⟩ := six_cells RB.out
    have yr := lt_heap RB.out
    generalize hw1 : w1 = wA at HB OKA RB r0 r1 r2 r3 r4 r5 yr ⊢
    clear hw1 w1
    go_region_held3 (fun w' => w'.cell? ⟨w.heap.size, 0, none⟩ = some (.int .i64 c.st) ∧ w'.cell? ⟨w.heap.size, 1, none⟩ = some (.int .i64 c.lo) ∧ w'.cell? ⟨w.heap.size, 2, none⟩ = some (.slice c.iA c.n c.ic) ∧ w'.cell? ⟨w.heap.size, 3, none⟩ = some (.slice c.hA c.hn c.hc) ∧ w'.cell? ⟨w.heap.size, 4, none⟩ = some (.slice c.mA c.mn c.mc) ∧ w'.cell? ⟨w.heap.size, 5, none⟩ = some (.slice c.lA c.ln c.lc) ∧ w.heap.size < w'.heap.size ∧ Below wA.heap.size wA w') (((try go_split_ands); (repeat' apply And.intro) <;> (first | assumption | exact (Below.refl _ _).drew | (first | exact below_on (w := wA) (by assumption) hq | exact Below.drew (by assumption) | assumption) | exact (Below.cell hq (by first | omega | (simp; omega))).trans (by assumption) | (have := hq.size; omega) | (simp; omega) | go_keep)))
      (first | (go_at_call 13; (with_reducible refine (bt_any c _ (OKA.out.up (by first | assumption | (go_split_ands; assumption)))).mono ?_); rintro e w2 ⟨WA, rfl, hm, hq1⟩; have hq := below_on hq1 hm.bel; have HA := Lib.hid hm; clear hm hq1) | (go_at_call 14; (with_reducible refine (rbt_any c _ (OKA.out.up (by first | assumption | (go_split_ands; assumption)))).mono ?_); rintro e w2 ⟨WB, rfl, hm, hq1⟩; have hq := below_on hq1 hm.bel; replace HA := Lib.hid (HA.out.up hq); have HBb := Lib.hid hm; clear hm hq1))
    go_split_ands
    have hend : Below wA.heap.size wA w2 := by assumption
    have RB2 := Lib.hid ((hend.block _ yr).trans RB.out)
    have HB2 := Lib.hid (below_on HB.out hend)
    have OKB := Lib.hid (OKA.out.up hend)
    go_upto_region 4 with fail
    clear hend r0 r1 r2 r3 r4 r5 yr RB OKA HB
    try clear hq
    generalize hw2 : w2 = wB at RB2 HB2 OKB HA HBb ⊢
    clear hw2
    obtain ⟨r0, r1, r2, r3, r4, r5⟩ := six_cells RB2.out
    have yr := lt_heap RB2.out
    go_region_held3 (fun w' => w'.cell? ⟨w.heap.size, 0, none⟩ = some (.int .i64 c.st) ∧ w'.cell? ⟨w.heap.size, 1, none⟩ = some (.int .i64 c.lo) ∧ w'.cell? ⟨w.heap.size, 2, none⟩ = some (.slice c.iA c.n c.ic) ∧ w'.cell? ⟨w.heap.size, 3, none⟩ = some (.slice c.hA c.hn c.hc) ∧ w'.cell? ⟨w.heap.size, 4, none⟩ = some (.slice c.mA c.mn c.mc) ∧ w'.cell? ⟨w.heap.size, 5, none⟩ = some (.slice c.lA c.ln c.lc) ∧ w.heap.size < w'.heap.size ∧ Below wB.heap.size wB w') (((try go_split_ands); (repeat' apply And.intro) <;> (first | assumption | exact (Below.refl _ _).drew | (first | exact below_on (w := wB) (by assumption) hq | exact Below.drew (by assumption) | assumption) | exact (Below.cell hq (by first | omega | (simp; omega))).trans (by assumption) | (have := hq.size; omega) | (simp; omega) | go_keep)))
      (first | (go_at_call 15; (with_reducible refine (bs_any c _ (OKB.out.up (by first | assumption | (go_split_ands; assumption)))).mono ?_); rintro e w2 ⟨vx, rfl, ho, hq⟩; have HX := Lib.hid ho; clear ho) | (go_at_call 16; (with_reducible refine (rbs_any c _ (OKB.out.up (by first | assumption | (go_split_ands; assumption)))).mono ?_); rintro e w2 ⟨vy, rfl, ho, hq⟩; replace HX := Lib.hid (own_below HX.out hq); have HY := Lib.hid ho; clear ho))
    go_split_ands
    have hend : Below wB.heap.size wB w2 := by assumption
    have HB3 := Lib.hid (below_on HB2.out hend)
    replace HA := Lib.hid (HA.out.up hend)
    replace HBb := Lib.hid (HBb.out.up hend)
    obtain ⟨L, hL⟩ : ∃ L, bsL c = L := ⟨_, rfl⟩
    rw [show rowsI (bsP c) c.n = L from hL] at hsl
    obtain ⟨m, hm⟩ : ∃ m, L.length = m := ⟨_, rfl⟩
    have HL := Lib.hid hm
    rw [hL, hm] at HX HY
    rw [hm] at hsl
    obtain ⟨AX, cx, rfl, _, _, _⟩ := own_form HX.out
    obtain ⟨AY, cy, rfl, _, _, _⟩ := own_form HY.out
    have HRX := Lib.hid (Row.of_own HX.out).1
    have HRY := Lib.hid (Row.of_own HY.out).1
    go_upto_region 8 with fail
    clear hend r0 r1 r2 r3 r4 r5 yr RB2 OKB HB2 hL hm
    try clear hq
    generalize hw2 : w2 = wC at HB3 HA HBb HRX HRY ⊢
    clear hw2 HX HY
    go_loopw [7] (fun z wr => ∃ k : Nat, k ≤ c.n ∧ z = .int .i64 k ∧ Below wC.heap.size wC wr) (fun z _ => c.n - (intOf z).toNat)
    case atStart => exact ⟨0, Nat.zero_le _, rfl, Below.refl _ _⟩
    case round =>
      obtain ⟨k, hk, rfl, hbr⟩ := hrel
      have HBR := Lib.hid hbr
      have hA := HA.out.up hbr
      have hBb := HBb.out.up hbr
      clear hbr
      by_cases hlt : k < c.n
      · obtain ⟨b, hb⟩ := get_someF (l := btL c) (k := k) (by rw [hbl]; exact hlt)
        have ca := hA.cell hb
        have cb := hBb.cell hb
        have za := hA.sz
        have zb := hBb.sz
        have hk0 : (0 : Int) ≤ (k : Int) := by omega
        have hk1 : (k : Int) < (c.n : Int) := by omega
        clear hb hA hBb
        go_upto_region 10 with fail
        cases b with
        | false =>
          go_region_held3 (fun w' => w'.cell? ⟨WA.heap.size, k, none⟩ = some (.bool false) ∧ w'.cell? ⟨WB.heap.size, k, none⟩ = some (.bool false) ∧ WA.heap.size < w'.heap.size ∧ WB.heap.size < w'.heap.size ∧ Below wr.heap.size wr w') (((try go_split_ands); (repeat' apply And.intro) <;> (first | assumption | exact (Below.refl _ _).drew | (first | exact below_on (w := wr) (by assumption) hq | exact Below.drew (by assumption) | assumption) | exact (Below.cell hq (by first | omega | (simp; omega))).trans (by assumption) | (have := hq.size; omega) | (simp; omega) | go_keep))) (fail)
          go_split_ands
          have hend : Below wr.heap.size wr wr.drew := (Below.refl _ _).drew
          go_wp2
          exact ⟨⟨k + 1, hlt, by go_num, below_on HBR.out hend⟩, by simp [intOf]; omega⟩
        | true =>
          go_region_held3 (fun w' => w'.cell? ⟨WA.heap.size, k, none⟩ = some (.bool true) ∧ w'.cell? ⟨WB.heap.size, k, none⟩ = some (.bool true) ∧ WA.heap.size < w'.heap.size ∧ WB.heap.size < w'.heap.size ∧ Below wr.heap.size wr w') (((try go_split_ands); (repeat' apply And.intro) <;> (first | assumption | exact (Below.refl _ _).drew | (first | exact below_on (w := wr) (by assumption) hq | exact Below.drew (by assumption) | assumption) | exact (Below.cell hq (by first | omega | (simp; omega))).trans (by assumption) | (have := hq.size; omega) | (simp; omega) | go_keep))) (fail)
          go_split_ands
          have hend : Below wr.heap.size wr wr.drew := (Below.refl _ _).drew
          go_wp2
          exact ⟨⟨k + 1, hlt, by go_num, below_on HBR.out hend⟩, by simp [intOf]; omega⟩
      · obtain ⟨hkn⟩ : c.n = k := by omega
        have HPX := Lib.hid (HRX.out.up HBR.out)
        have HPY := Lib.hid (HRY.out.up HBR.out)
        have HB4 := Lib.hid (below_on HB3.out HBR.out)
        clear hA hBb HA HBb HRX HRY HBR HB3
        go_upto_region 13 with fail
        obtain ⟨wF, hwF⟩ : ∃ wF, wF = wr := ⟨_, rfl⟩
        subst hwF
        go_loopw [8] (fun z wr => ∃ k : Nat, k ≤ m ∧ z = .int .i64 k ∧ Below wF.heap.size wF wr) (fun z _ => m - (intOf z).toNat)
        case atStart => exact ⟨0, Nat.zero_le _, rfl, Below.refl _ _⟩
        case round =>
          obtain ⟨j, hj, rfl, hbr⟩ := hrel
          have HBX := Lib.hid hbr
          have hP := HPX.out.up hbr
          have hQ := HPY.out.up hbr
          clear hbr
          by_cases hjt : j < m
          · obtain ⟨x, hx⟩ := get_someF (l := L) (k := j) (by rw [HL.out]; exact hjt)
            obtain ⟨gp, op, rfl, hgp, hcp⟩ := row_get hP hx
            obtain ⟨gq, oq, rfl, hgq, hcq⟩ := row_get hQ hx
            have hj0 : (0 : Int) ≤ (j : Int) := by omega
            have hj1 : (j : Int) < (m : Int) := by omega
            clear hP hQ hx
            go_upto_region 15 with fail
            go_region_held3 (fun w' => w'.cell? ⟨gp, op + j, none⟩ = some (.int .i64 x) ∧ w'.cell? ⟨gq, oq + j, none⟩ = some (.int .i64 x) ∧ gp < w'.heap.size ∧ gq < w'.heap.size ∧ Below wr.heap.size wr w') (((try go_split_ands); (repeat' apply And.intro) <;> (first | assumption | exact (Below.refl _ _).drew | (first | exact below_on (w := wr) (by assumption) hq | exact Below.drew (by assumption) | assumption) | exact (Below.cell hq (by first | omega | (simp; omega))).trans (by assumption) | (have := hq.size; omega) | (simp; omega) | go_keep))) (fail)
            go_split_ands
            have hend : Below wr.heap.size wr wr.drew := (Below.refl _ _).drew
            go_wp2
            exact ⟨⟨j + 1, hjt, by go_num, below_on HBX.out hend⟩, by simp [intOf]; omega⟩
          · obtain ⟨hjm⟩ : m = j := by omega
            clear hP hQ
            go_wp2_with (go_at_call 12; (with_reducible refine (awake9_any _).mono ?_); rintro e w8 ⟨rfl, hb8⟩)
            go_ret
            exact ⟨rfl, below_on HB4.out (below_on HBX.out hb8)⟩
  · have HF := Lib.hid hf
    clear hf
    go_enter Tryd.func3, Tryd.ntmps3
    go_upto_region 1 with fail
    have R := World.alloc_heap_new w (.cells #[.int .i64 c.st, .int .i64 c.lo, .slice c.iA c.n c.ic, .slice c.hA c.hn c.hc, .slice c.mA c.mn c.mc, .slice c.lA c.ln c.lc] 27)
    replace hB := below_al hB (.cells #[.int .i64 c.st, .int .i64 c.lo, .slice c.iA c.n c.ic, .slice c.hA c.hn c.hc, .slice c.mA c.mn c.mc, .slice c.lA c.ln c.lc] 27)
    generalize w.alloc (.cells #[.int .i64 c.st, .int .i64 c.lo, .slice c.iA c.n c.ic, .slice c.hA c.hn c.hc, .slice c.mA c.mn c.mc, .slice c.lA c.ln c.lc] 27) = W1 at R hB ⊢
    obtain ⟨r0, r1, r2, r3, r4, r5⟩ := six_cells R
    have y1 := lt_heap R
    replace R := Lib.hid R
    go_wp2_with (first | (go_at_call 11; refine (few9_no _ HF.out).mono ?_; rintro e w1 ⟨rfl, hb1⟩) | (go_at_call 12; refine (awake9_any _).mono ?_; rintro e w2 ⟨rfl, hb2⟩))
    go_ret
    exact ⟨rfl, below_on (below_on hB hb1) hb2⟩

end Go.Proofs.YtdppooflbjlbcaaDoor.I
