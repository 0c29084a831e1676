/- Layer 9: CodeBlocksPartition. (Written by gen/cq.py.) -/
import Derived.Test.YtdppooflbjlbcaaDoorCo
namespace Go.Proofs.YtdppooflbjlbcaaDoor.I
open Go.ChangeShapes Go.WideShapes Go.ChangeAt Go.RowKit Go.PlainAid
set_option linter.unusedSimpArgs false
set_option linter.unusedVariables false

theorem rI_pre (P : Nat → Bool) (j : Nat) : ∀ d, ∃ r, rowsI P (j + d) = rowsI P j ++ r
  | 0 => ⟨[], by simp⟩
  | d + 1 => by
    obtain ⟨r, hr⟩ := rI_pre P j d
    refine ⟨r ++ (if P (j + d) = true then [((j + d : Nat) : Int)] else []), ?_⟩
    rw [show j + (d + 1) = (j + d) + 1 by omega, rowsI_succ, hr, List.append_assoc]
theorem rI_at {P : Nat → Bool} {j n : Nat} (hj : j < n) (hp : P j = true) : (rowsI P n)[(rowsI P j).length]? = some (j : Int) := by
  obtain ⟨r, hr⟩ := rI_pre P (j + 1) (n - (j + 1))
  rw [show j + 1 + (n - (j + 1)) = n by omega] at hr
  rw [hr, rowsI_succ, hp, if_pos rfl, List.append_assoc, List.getElem?_append_right (Nat.le_refl _)]
  simp
theorem rI_le {P : Nat → Bool} {j n : Nat} (hj : j ≤ n) : (rowsI P j).length ≤ (rowsI P n).length := by
  obtain ⟨r, hr⟩ := rI_pre P j (n - j)
  rw [show j + (n - j) = n by omega] at hr
  rw [hr, List.length_append]; omega
theorem rI_ne {P : Nat → Bool} {j n k : Nat} {x : Int} (hp : P j = false) (hx : (rowsI P n)[k]? = some x) : ¬ x = (j : Int) := by
  intro e
  obtain ⟨i, _, hi, rfl⟩ := rowsI_mem.1 (List.mem_of_getElem? hx)
  have : i = j := by omega
  subst this
  rw [hp] at hi; cases hi
theorem rI_yes {P : Nat → Bool} {j : Nat} (hp : P j = true) : (rowsI P (j + 1)).length = (rowsI P j).length + 1 := by rw [rowsI_succ, hp, if_pos rfl]; simp
theorem rI_no {P : Nat → Bool} {j : Nat} (hp : P j = false) : (rowsI P (j + 1)).length = (rowsI P j).length := by rw [rowsI_succ, hp]; simp
theorem bsP_no {c : Cd} {q : Nat} {b : Bool} {i : In} (hb : (btL c)[q + 1]? = some b) (hi : c.is[q]? = some i) (h : bsP c (q + 1) = false) : b = false ∧ brB i.op = false ∧ termB i.op = false := by
  rw [bsP_at hb hi] at h
  cases b <;> cases h1 : brB i.op <;> cases h2 : termB i.op <;> simp_all
set_option maxRecDepth 100000 in
set_option maxHeartbeats 16000000 in
theorem partition_law (c : Cd) (w : World) (hok : c.raw9 w) : Calls Tryd.prog 6 #[(Value.agg #[Value.int IntKind.i64 (Cd.st c), Value.int IntKind.i64 (Cd.lo c), Value.slice (Cd.iA c) (Cd.n c) (Cd.ic c), Value.slice (Cd.hA c) (Cd.hn c) (Cd.hc c), Value.slice (Cd.mA c) (Cd.mn c) (Cd.mc c), Value.slice (Cd.lA c) (Cd.ln c) (Cd.lc c)])] w fun e w' => e = .returned (.bool true) ∧ Below w.heap.size w w' := by
  have hB : Below w.heap.size w w := Below.refl _ _
  have OK := Lib.hid hok
  clear hok
  by_cases hf : fwP 0 c
  · have HF := Lib.hid hf
    have OK9 := Lib.hid (OK.out.ok hf)
    have hcn := hf.2.1
    have hbl := btL_len c
    clear hf
    obtain ⟨A9, hA⟩ : ∃ A, c.iA = A := ⟨_, rfl⟩
    have HA9 := Lib.hid hA
    clear hA
    go_enter Tryd.func6, Tryd.ntmps6
    go_upto_region 1 with fail
    have R := World.alloc_heap_new w (.cells #[.int .i64 c.st, .int .i64 c.lo, .slice c.iA c.n c.ic, .slice c.hA c.hn c.hc, .slice c.mA c.mn c.mc, .slice c.lA c.ln c.lc] 27)
    replace hB := below_al hB (.cells #[.int .i64 c.st, .int .i64 c.lo, .slice c.iA c.n c.ic, .slice c.hA c.hn c.hc, .slice c.mA c.mn c.mc, .slice c.lA c.ln c.lc] 27)
    generalize w.alloc (.cells #[.int .i64 c.st, .int .i64 c.lo, .slice c.iA c.n c.ic, .slice c.hA c.hn c.hc, .slice c.mA c.mn c.mc, .slice c.lA c.ln c.lc] 27) = W1 at R hB ⊢
    obtain ⟨r0, r1, r2, r3, r4, r5⟩ := six_cells R
    have y1 := lt_heap R
    replace R := Lib.hid R
    go_upto_region 3 with (go_at_call 11; refine (few9_yes _ HF.out).mono ?_; rintro e w1 ⟨rfl, hb1⟩)
    have HB := Lib.hid (below_on hB hb1)
    have OKA := Lib.hid (OK9.out.up HB.out)
    have RB := Lib.hid ((hb1.block _ y1).trans R.out)
    clear r0 r1 r2 r3 r4 r5 y1 R hb1 hB
    clear W1
    obtain ⟨r0, r1, r2, r3, r4, r5⟩ := six_cells RB.out
    have yr := lt_heap RB.out
    generalize hw1 : w1 = wA at HB OKA RB r0 r1 r2 r3 r4 r5 yr ⊢
    clear hw1 w1
    go_region_held3 (fun w' => w'.cell? ⟨w.heap.size, 0, none⟩ = some (.int .i64 c.st) ∧ w'.cell? ⟨w.heap.size, 1, none⟩ = some (.int .i64 c.lo) ∧ w'.cell? ⟨w.heap.size, 2, none⟩ = some (.slice c.iA c.n c.ic) ∧ w'.cell? ⟨w.heap.size, 3, none⟩ = some (.slice c.hA c.hn c.hc) ∧ w'.cell? ⟨w.heap.size, 4, none⟩ = some (.slice c.mA c.mn c.mc) ∧ w'.cell? ⟨w.heap.size, 5, none⟩ = some (.slice c.lA c.ln c.lc) ∧ w.heap.size < w'.heap.size ∧ Below wA.heap.size wA w') (((try go_split_ands); (repeat' apply And.intro) <;> (first | assumption | exact (Below.refl _ _).drew | (first | exact below_on (w := wA) (by assumption) hq | exact Below.drew (by assumption) | assumption) | exact (Below.cell hq (by first | omega | (simp; omega))).trans (by assumption) | (have := hq.size; omega) | (simp; omega) | go_keep)))
      (first | (go_at_call 13; (with_reducible refine (bt_any c _ (OKA.out.up (by first | assumption | (go_split_ands; assumption)))).mono ?_); rintro e w2 ⟨WA, rfl, hm, hq1⟩; have hq := below_on hq1 hm.bel; have HA := Lib.hid hm; clear hm hq1) | (go_at_call 15; (with_reducible refine (bs_any c _ (OKA.out.up (by first | assumption | (go_split_ands; assumption)))).mono ?_); rintro e w2 ⟨vx, rfl, ho, hq⟩; replace HA := Lib.hid (HA.out.up hq); have HX := Lib.hid ho; clear ho))
    go_split_ands
    have hend : Below wA.heap.size wA w2 := by assumption
    have RB2 := Lib.hid ((hend.block _ yr).trans RB.out)
    have HB2 := Lib.hid (below_on HB.out hend)
    have OKB := Lib.hid (OKA.out.up hend)
    obtain ⟨L, hL⟩ : ∃ L, bsL c = L := ⟨_, rfl⟩
    have HLL := Lib.hid (show rowsI (bsP c) c.n = L from hL)
    obtain ⟨m, hm⟩ : ∃ m, L.length = m := ⟨_, rfl⟩
    have HLM := Lib.hid hm
    rw [hL, hm] at HX
    have hsl := rowsI_len (bsP c) c.n
    rw [HLL.out, hm] at hsl
    obtain ⟨AX, cx, rfl, _, _, _⟩ := own_form HX.out
    have HRX := Lib.hid (Row.of_own HX.out).1
    clear hend r0 r1 r2 r3 r4 r5 yr RB OKA HB hL hm HX
    try clear hq
    generalize hw2 : w2 = wB at RB2 HB2 OKB HA HRX ⊢
    clear hw2
    obtain ⟨r0, r1, r2, r3, r4, r5⟩ := six_cells RB2.out
    have yr := lt_heap RB2.out
    rcases Nat.eq_zero_or_pos c.n with hn0 | hn0
    · have hm0 : m = 0 := by omega
      have e1 : ((m : Int) == 0) = true := by simp; omega
      have e2 : ((c.n : Int) == 0) = true := by simp; omega
      have e3 : ¬ (0 : Int) < (m : Int) := by omega
      go_upto_region 8 with fail
      clear r0 r1 r2 r3 r4 r5 yr e1 e2 e3
      go_loopw [5, 6] (fun kv z wr => ∃ j : Nat, j ≤ c.n ∧ z = .int .i64 j ∧ kv = .int .i64 ((rowsI (bsP c) j).length : Nat) ∧ Below wB.heap.size wB wr) (fun _ z _ => c.n - (intOf z).toNat)
      case atStart => exact ⟨0, Nat.zero_le _, rfl, rfl, Below.refl _ _⟩
      case round =>
        obtain ⟨j, hj, rfl, rfl, hbr⟩ := hrel
        have HBR := Lib.hid hbr
        have hA := HA.out.up hbr
        have hX := HRX.out.up hbr
        have OKr := Lib.hid (OKB.out.up hbr)
        have RBr := Lib.hid ((hbr.block _ (lt_heap RB2.out)).trans RB2.out)
        clear hbr
        obtain ⟨kk, hkk⟩ : ∃ kk, (rowsI (bsP c) j).length = kk := ⟨_, rfl⟩
        have HKK := Lib.hid hkk
        have hkm := rI_le (P := bsP c) hj
        rw [HLL.out, HLM.out, hkk] at hkm
        rw [hkk]
        clear hkk
        by_cases hlt : j < c.n
        · exact absurd hlt (by omega)
        · obtain ⟨hkn⟩ : c.n = j := by omega
          have hkm2 : kk = m := by rw [← HKK.out, HLL.out, HLM.out]
          subst hkm2
          clear hA hX
          go_wp2_with (go_at_call 12; (with_reducible refine (awake9_any _).mono ?_); rintro e w8 ⟨rfl, hb8⟩)
          go_ret
          exact ⟨rfl, below_on HB2.out (below_on HBR.out hb8)⟩
    · have hz := rI_at (P := bsP c) hn0 rfl
      rw [HLL.out] at hz
      have hz0 : L[0]? = some 0 := hz
      have hmp := get_ltF hz0
      rw [HLM.out] at hmp
      obtain ⟨gx, ox, rfl, hgx, hcx⟩ := row_get HRX.out hz0
      have hcx0 : wB.cell? ⟨gx, ox, none⟩ = some (.int .i64 0) := hcx
      have e1 : ((m : Int) == 0) = false := by simp; omega
      have e2 : ((c.n : Int) == 0) = false := by simp; omega
      have e3 : (0 : Int) < (m : Int) := by omega
      clear hz hz0 hcx
      go_upto_region 8 with fail
      clear r0 r1 r2 r3 r4 r5 yr e1 e2 e3 hcx0
      go_loopw [5, 6] (fun kv z wr => ∃ j : Nat, j ≤ c.n ∧ z = .int .i64 j ∧ kv = .int .i64 ((rowsI (bsP c) j).length : Nat) ∧ Below wB.heap.size wB wr) (fun _ z _ => c.n - (intOf z).toNat)
      case atStart => exact ⟨0, Nat.zero_le _, rfl, rfl, Below.refl _ _⟩
      case round =>
        obtain ⟨j, hj, rfl, rfl, hbr⟩ := hrel
        have HBR := Lib.hid hbr
        have hA := HA.out.up hbr
        have hX := HRX.out.up hbr
        have OKr := Lib.hid (OKB.out.up hbr)
        have RBr := Lib.hid ((hbr.block _ (lt_heap RB2.out)).trans RB2.out)
        clear hbr
        obtain ⟨kk, hkk⟩ : ∃ kk, (rowsI (bsP c) j).length = kk := ⟨_, rfl⟩
        have HKK := Lib.hid hkk
        have hkm := rI_le (P := bsP c) hj
        rw [HLL.out, HLM.out, hkk] at hkm
        rw [hkk]
        clear hkk
        by_cases hlt : j < c.n
        · obtain ⟨b, hb⟩ := get_someF (l := btL c) (k := j) (by rw [hbl]; exact hlt)
          have ca := hA.cell hb
          have za := hA.sz
          have hj0 : (0 : Int) ≤ (j : Int) := by omega
          have hj1 : (j : Int) < (c.n : Int) := by omega
          have hk0 : (0 : Int) ≤ (kk : Int) := by omega
          cases hp : bsP c j with
          | true =>
            have hat := rI_at (P := bsP c) hlt hp
            rw [HLL.out, HKK.out] at hat
            have hkl := get_ltF hat
            rw [HLM.out] at hkl
            obtain ⟨gp, op, hAX, hgp, hcp⟩ := row_get hX hat
            obtain ⟨rfl, rfl⟩ : gx = gp ∧ ox = op := by injection hAX with h; injection h with h1 h2; exact ⟨h1, h2⟩
            have hk1 : (kk : Int) < (m : Int) := by omega
            have HY := Lib.hid (rI_yes hp)
            clear hA hX hb hat hAX hp ca za
            go_wp2
            exact ⟨⟨j + 1, hlt, by go_num, by rw [HY.out, HKK.out]; go_num, HBR.out⟩, by simp [intOf]; omega⟩
          | false =>
            have HY := Lib.hid (rI_no hp)
            cases j with
            | zero => cases hp
            | succ q =>
              obtain ⟨i, hi⟩ := get_someF (l := c.is) (k := q) (by rw [OKr.out.il]; omega)
              obtain ⟨rfl, hbr9, htm9⟩ := bsP_no hb hi hp
              have HBR9 := Lib.hid hbr9
              have HTM9 := Lib.hid htm9
              have hiw := OKr.out.iw
              rw [HA9.out] at hiw
              obtain ⟨r0, r1, r2, r3, r4, r5⟩ := six_cells RBr.out
              have yr := lt_heap RBr.out
              rw [HA9.out] at r2
              rcases hiw with h0 | ⟨g, o, rfl, hg, hcell⟩
              · rw [h0] at hi; simp at hi
              · obtain ⟨_, a0, _⟩ := hcell q _ hi
                have hw1 : IntKind.i64.wrap ((q : Int) + 1 - 1) = (q : Int) := by simp [IntKind.wrap, IntKind.bits, IntKind.signed]; omega
                have hq0 : (0 : Int) ≤ (q : Int) := by omega
                have hq1 : (q : Int) < (c.n : Int) := by omega
                rw [Int.natCast_add, Int.natCast_one] at hj0 hj1 ⊢
                clear hcell hi hb hbr9 htm9
                by_cases hkl : kk < m
                · obtain ⟨x, hx⟩ := get_someF (l := L) (k := kk) (by rw [HLM.out]; exact hkl)
                  have hne := rI_ne (n := c.n) hp (by rw [HLL.out]; exact hx)
                  obtain ⟨gp, op, hAX, hgp, hcp⟩ := row_get hX hx
                  obtain ⟨rfl, rfl⟩ : gx = gp ∧ ox = op := by injection hAX with h; injection h with h1 h2; exact ⟨h1, h2⟩
                  have hk1 : (kk : Int) < (m : Int) := by omega
                  have e4 : (x == (q : Int) + 1) = false := by simp; omega
                  clear hA hX hx hAX hp hne
                  go_wp2_with (first | (go_at_call 21; refine (br_any _ _).mono ?_; rintro e w' ⟨rfl, rfl⟩; rw [HBR9.out]) | (go_at_call 20; refine (term_any _ _).mono ?_; rintro e w' ⟨rfl, rfl⟩; rw [HTM9.out]))
                  exact ⟨⟨q + 1 + 1, hlt, by go_num, by rw [HY.out, HKK.out], HBR.out⟩, by simp [intOf]; omega⟩
                · have hk1 : ¬ (kk : Int) < (m : Int) := by omega
                  clear hA hX hp
                  go_wp2_with (first | (go_at_call 21; refine (br_any _ _).mono ?_; rintro e w' ⟨rfl, rfl⟩; rw [HBR9.out]) | (go_at_call 20; refine (term_any _ _).mono ?_; rintro e w' ⟨rfl, rfl⟩; rw [HTM9.out]))
                  exact ⟨⟨q + 1 + 1, hlt, by go_num, by rw [HY.out, HKK.out], HBR.out⟩, by simp [intOf]; omega⟩
        · obtain ⟨hkn⟩ : c.n = j := by omega
          have hkm2 : kk = m := by rw [← HKK.out, HLL.out, HLM.out]
          subst hkm2
          clear hA hX
          go_wp2_with (go_at_call 12; (with_reducible refine (awake9_any _).mono ?_); rintro e w8 ⟨rfl, hb8⟩)
          go_ret
          exact ⟨rfl, below_on HB2.out (below_on HBR.out hb8)⟩
  · have HF := Lib.hid hf
    clear hf
    go_enter Tryd.func6, Tryd.ntmps6
    go_upto_region 1 with fail
    have R := World.alloc_heap_new w (.cells #[.int .i64 c.st, .int .i64 c.lo, .slice c.iA c.n c.ic, .slice c.hA c.hn c.hc, .slice c.mA c.mn c.mc, .slice c.lA c.ln c.lc] 27)
    replace hB := below_al hB (.cells #[.int .i64 c.st, .int .i64 c.lo, .slice c.iA c.n c.ic, .slice c.hA c.hn c.hc, .slice c.mA c.mn c.mc, .slice c.lA c.ln c.lc] 27)
    generalize w.alloc (.cells #[.int .i64 c.st, .int .i64 c.lo, .slice c.iA c.n c.ic, .slice c.hA c.hn c.hc, .slice c.mA c.mn c.mc, .slice c.lA c.ln c.lc] 27) = W1 at R hB ⊢
    obtain ⟨r0, r1, r2, r3, r4, r5⟩ := six_cells R
    have y1 := lt_heap R
    replace R := Lib.hid R
    go_wp2_with (first | (go_at_call 11; refine (few9_no _ HF.out).mono ?_; rintro e w1 ⟨rfl, hb1⟩) | (go_at_call 12; refine (awake9_any _).mono ?_; rintro e w2 ⟨rfl, hb2⟩))
    go_ret
    exact ⟨rfl, below_on (below_on hB hb1) hb2⟩

end Go.Proofs.YtdppooflbjlbcaaDoor.I
