import Derived.Test.YtdppooflbjlbcaaDoorWdM
import Derived.Test.YtdppooflbjlbcaaDoorCb

/- Wm -/
/- Layer 22: the reference's Required, in, Select, FrameAt. (Written by gen/wm.py.) -/
namespace Go.Proofs.YtdppooflbjlbcaaDoor.I
open Go.ChangeShapes Go.WideShapes Go.ChangeAt Go.RowKit Go.PlainAid
set_option linter.unusedSimpArgs false
set_option linter.unusedVariables false

set_option maxRecDepth 100000 in
set_option maxHeartbeats 8000000 in
theorem rrq_any (c : Cd) (w : World) (hok : c.k22 w) : Calls Tryd.prog 28 #[(Value.agg #[Value.int IntKind.i64 (Cd.st c), Value.int IntKind.i64 (Cd.lo c), Value.slice (Cd.iA c) (Cd.n c) (Cd.ic c), Value.slice (Cd.hA c) (Cd.hn c) (Cd.hc c), Value.slice (Cd.mA c) (Cd.mn c) (Cd.mc c), Value.slice (Cd.lA c) (Cd.ln c) (Cd.lc c)])] w (IntsOwn w (rqL c)) := by
  have hB : Below w.heap.size w w := Below.refl _ _
  have OK := Lib.hid hok
  have hcn : c.n ≤ 300 := hok.fw.n
  clear hok
  go_enter Tryd.func28, Tryd.ntmps28
  go_upto_region 1 with fail
  have R := World.alloc_heap_new w (.cells #[.int .i64 c.st, .int .i64 c.lo, .slice c.iA c.n c.ic, .slice c.hA c.hn c.hc, .slice c.mA c.mn c.mc, .slice c.lA c.ln c.lc] 27)
  replace hB := below_al hB (.cells #[.int .i64 c.st, .int .i64 c.lo, .slice c.iA c.n c.ic, .slice c.hA c.hn c.hc, .slice c.mA c.mn c.mc, .slice c.lA c.ln c.lc] 27)
  generalize w.alloc (.cells #[.int .i64 c.st, .int .i64 c.lo, .slice c.iA c.n c.ic, .slice c.hA c.hn c.hc, .slice c.mA c.mn c.mc, .slice c.lA c.ln c.lc] 27) = W1 at R hB ⊢
  obtain ⟨r0, r1, r2, r3, r4, r5⟩ := six_cells R
  have y1 := lt_heap R
  replace R := Lib.hid R
  have OK1 := Lib.hid (OK.out.up hB)
  have HB := Lib.hid hB
  clear hB
  go_region_held3 (fun w' => w'.cell? ⟨w.heap.size, 0, none⟩ = some (.int .i64 c.st) ∧ w'.cell? ⟨w.heap.size, 1, none⟩ = some (.int .i64 c.lo) ∧ w'.cell? ⟨w.heap.size, 2, none⟩ = some (.slice c.iA c.n c.ic) ∧ w'.cell? ⟨w.heap.size, 3, none⟩ = some (.slice c.hA c.hn c.hc) ∧ w'.cell? ⟨w.heap.size, 4, none⟩ = some (.slice c.mA c.mn c.mc) ∧ w'.cell? ⟨w.heap.size, 5, none⟩ = some (.slice c.lA c.ln c.lc) ∧ w.heap.size < w'.heap.size ∧ Below W1.heap.size W1 w') (((try go_split_ands); (repeat' apply And.intro) <;> (first | assumption | exact (Below.refl _ _).drew | (first | exact below_on (w := W1) (by assumption) hq | exact Below.drew (by assumption) | assumption) | exact (Below.cell hq (by first | omega | (simp; omega))).trans (by assumption) | (have := hq.size; omega) | (simp; omega) | go_keep)))
    (first | (go_at_call 14; (with_reducible refine (rbt_any c _ (OK1.out.up (by first | assumption | (go_split_ands; assumption))).c9).mono ?_); rintro e w2 ⟨WA, rfl, hm, hq1⟩; have hq := below_on hq1 hm.bel; have HBT := Lib.hid hm; clear hm hq1) | (go_at_call 49; (with_reducible refine (rre_any c _ (OK1.out.up (by first | assumption | (go_split_ands; assumption))).ok OK1.out.fw).mono ?_); rintro e w2 ⟨WB, rfl, hm, hq1⟩; have hq := below_on hq1 hm.bel; replace HBT := Lib.hid (HBT.out.up hq); have HRE := Lib.hid hm; clear hm hq1))
  go_split_ands
  have hend : Below W1.heap.size W1 w2 := by assumption
  have RB := Lib.hid ((hend.block _ y1).trans R.out)
  have HB2 := Lib.hid (below_on HB.out hend)
  have OK2 := Lib.hid (OK1.out.up hend)
  obtain ⟨A, hA⟩ : ∃ A, c.iA = A := ⟨_, rfl⟩
  have HA := Lib.hid hA
  clear hend r0 r1 r2 r3 r4 r5 y1 R OK1 HB hA
  try clear hq
  generalize hw2 : w2 = W2 at RB HB2 OK2 HBT HRE ⊢
  clear hw2
  obtain ⟨r0, r1, r2, r3, r4, r5⟩ := six_cells RB.out
  have yr := lt_heap RB.out
  go_upto_region 4 with fail
  clear r0 r1 r2 r3 r4 r5 yr
  have HN0 := Lib.hid (show Nxt W2 (W2.alloc (.cells #[] 3)) (rowsI (rqP c) 0) (.slice (some ⟨W2.heap.size, 0, none⟩) 0 0) from ⟨own_lit0I (Nat.le_refl _), below_al (Below.refl _ _) _⟩)
  go_loopw [5, 6] (fun v z wr => ∃ k : Nat, k ≤ c.n ∧ z = .int .i64 k ∧ Nxt W2 wr (rowsI (rqP c) k) v) (fun _ z _ => c.n - (intOf z).toNat)
  case atStart => exact ⟨0, Nat.zero_le _, rfl, HN0.out⟩
  case round =>
    clear HN0
    obtain ⟨k, hk, rfl, N⟩ := hrel
    have HNX := Lib.hid N
    have HMr := Lib.hid (HBT.out.up N.bel)
    have HEr := Lib.hid (HRE.out.up N.bel)
    have OKr := Lib.hid (OK2.out.up N.bel)
    have RBr := Lib.hid ((N.bel.block _ (lt_heap RB.out)).trans RB.out)
    have hln := rowsI_len (rqP c) k
    have hzr := N.bel.size
    obtain ⟨q, hq⟩ : ∃ q, (rowsI (rqP c) k).length = q := ⟨_, rfl⟩
    rw [hq] at hln
    have HQ := Lib.hid hq
    have hown := N.own
    rw [hq] at hown
    have HOWN := Lib.hid hown
    clear N hq hown
    by_cases hlt : k < c.n
    · obtain ⟨b2, hb2⟩ := get_someF (l := btL c) (k := k) (by rw [btL_len]; exact hlt)
      obtain ⟨b1, hb1⟩ := get_someF (l := reL c) (k := k) (by rw [HEr.out.len]; exact hlt)
      have hcb := HMr.out.cell hb2
      have hsz := HMr.out.sz
      have hce := HEr.out.cell hb1
      have hsy := HEr.out.sz
      have hk0 : (0 : Int) ≤ (k : Int) := by omega
      have hk1 : (k : Int) < (c.n : Int) := by omega
      obtain ⟨r0, r1, r2, r3, r4, r5⟩ := six_cells RBr.out
      have yr := lt_heap RBr.out
      rw [HA.out] at r2
      cases k with
      | zero =>
        have HP := Lib.hid (rqP_at hb1 hb2 rfl)
        clear hb1 hb2
        rw [Int.natCast_zero] at hk0 hk1
        cases b1 <;> cases b2
        all_goals
          first
          | (go_wp2_with (fail)
             exact ⟨⟨0 + 1, hlt, by go_num, HNX.out.no HP.out⟩, by simp [intOf]; omega⟩)
          | (go_wp2_with (at_builtin; refine wpList_append_ints (by rfl) _ _ (by rfl) W2.heap.size q 1 1 (wr.heap.size + 1) _ [((0 : Nat) : Int)] _ _ (by rfl) (HOWN.out.alloc _) (by rfl) (Row.one (ten_cell0 (new_at rfl)) (by omega)) rfl (fun h => by cases h) (by omega) (by simp; omega) ?_; intro v4 w4 ho4 hg4)
             exact ⟨⟨0 + 1, hlt, by go_num, HNX.out.yes HP.out (by rw [HQ.out]; exact ho4) hg4⟩, by simp [intOf]; omega⟩)
      | succ m =>
        obtain ⟨i, hi⟩ := get_someF (l := c.is) (k := m) (by rw [OKr.out.c9.il]; omega)
        have hiw := OKr.out.c9.iw
        rw [HA.out] at hiw
        have HP := Lib.hid (rqP_at hb1 hb2 (tmP_s hi))
        rcases hiw with h0 | ⟨g, o, rfl, hg, hcell⟩
        · rw [h0] at hi; simp at hi
        · obtain ⟨_, a0, _⟩ := hcell m _ hi
          have hw1 : IntKind.i64.wrap ((m : Int) + 1 - 1) = (m : Int) := by simp [IntKind.wrap, IntKind.bits, IntKind.signed]; omega
          have hm0 : (0 : Int) ≤ (m : Int) := by omega
          have hm1 : (m : Int) < (c.n : Int) := by omega
          have hgt : (0 : Int) < (m : Int) + 1 := by omega
          rw [Int.natCast_add, Int.natCast_one] at hk0 hk1 ⊢
          clear hcell hi hb1 hb2
          obtain ⟨t, ht⟩ : ∃ t, termB i.op = t := ⟨_, rfl⟩
          have HTM := Lib.hid ht
          rw [ht] at HP
          clear ht
          cases b1 <;> cases b2 <;> cases t
          all_goals
            first
            | (go_wp2_with (go_at_call 41; refine (rterm_any _ _).mono ?_; rintro e w' ⟨rfl, rfl⟩; rw [HTM.out])
               exact ⟨⟨m + 1 + 1, hlt, by go_num, HNX.out.no HP.out⟩, by simp [intOf]; omega⟩)
            | (go_wp2_with (first | (go_at_call 41; refine (rterm_any _ _).mono ?_; rintro e w' ⟨rfl, rfl⟩; rw [HTM.out]) | (at_builtin; refine wpList_append_ints (by rfl) _ _ (by rfl) W2.heap.size q 1 1 (wr.heap.size + 1) _ [((m : Nat) : Int) + 1] _ _ (by rfl) (HOWN.out.alloc _) (by rfl) (Row.one (ten_cell0 (new_at rfl)) (by omega)) rfl (fun h => by cases h) (by omega) (by simp; omega) ?_; intro v4 w4 ho4 hg4))
               exact ⟨⟨m + 1 + 1, hlt, by go_num, HNX.out.yes HP.out (by rw [HQ.out]; exact ho4) hg4⟩, by simp [intOf]; omega⟩)
    · obtain ⟨hnk⟩ : c.n = k := by omega
      obtain ⟨r0, r1, r2, r3, r4, r5⟩ := six_cells RBr.out
      have yr := lt_heap RBr.out
      go_wp2
      go_ret
      exact HNX.out.ret HB2.out
def isX (x y : Int) : Bool := y == x
set_option maxRecDepth 100000 in
set_option maxHeartbeats 8000000 in
theorem in_any {A : Option Addr} {n c : Nat} {L : List Int} (x : Int) (w : World) (hn : L.length = n) (hN : n ≤ 9223372036854775807) (hA : Row w w.heap.size A L) :
    Calls Tryd.prog 51 #[.slice A n c, .int .i64 x] w fun e w' => e = .returned (.bool (L.any (isX x))) ∧ Below w.heap.size w w' := by
  have HA := Lib.hid hA
  have HN := Lib.hid hn
  obtain ⟨r, hr⟩ : ∃ r, L.any (isX x) = r := ⟨_, rfl⟩
  have HR := Lib.hid hr
  rw [hr]
  clear hA hn hr
  go_enter Tryd.func51, Tryd.ntmps51
  go_wp2
  go_loopw [5] (fun z wr => ∃ k : Nat, k ≤ n ∧ z = .int .i64 k ∧ (L.take k).any (isX x) = false ∧ Below w.heap.size w wr) (fun z _ => n - (intOf z).toNat)
  case atStart => exact ⟨0, Nat.zero_le _, rfl, rfl, Below.refl _ _⟩
  case round =>
    obtain ⟨k, hk, rfl, hall, hbr⟩ := hrel
    have HBR := Lib.hid hbr
    have HALL := Lib.hid hall
    have hP := HA.out.up hbr
    clear hbr hall
    by_cases hlt : k < n
    · obtain ⟨y, hy⟩ := get_someF (l := L) (k := k) (by rw [HN.out]; exact hlt)
      obtain ⟨gp, op, rfl, hgp, hcp⟩ := row_get hP hy
      have HAT := Lib.hid (any_take (p := isX x) hy)
      have HOF := Lib.hid (any_of (p := isX x) hy)
      have hj0 : (0 : Int) ≤ (k : Int) := by omega
      have hj1 : (k : Int) < (n : Int) := by omega
      clear hP hy
      cases hx : (y == x) with
      | true =>
        have HX := Lib.hid (HOF.out hx)
        go_wp2
        go_ret
        exact ⟨by rw [← HR.out, HX.out]; rfl, HBR.out⟩
      | false =>
        have HX := Lib.hid (show isX x y = false from hx)
        go_wp2
        exact ⟨⟨k + 1, hlt, by go_num, by rw [HAT.out, HALL.out, HX.out]; rfl, HBR.out⟩, by simp [intOf]; omega⟩
    · obtain rfl : n = k := by omega
      have HF := Lib.hid (show L.any (isX x) = false by have := HALL.out; rwa [List.take_of_length_le (by rw [HN.out]; exact Nat.le_refl _)] at this)
      clear hP
      go_wp2
      go_ret
      exact ⟨by rw [← HR.out, HF.out]; rfl, HBR.out⟩
theorem in_eq (L : List Int) (m : SM) : L.any (isX m.x) = inX L m := by
  unfold inX
  rw [Bool.eq_iff_iff, List.any_eq_true, List.contains_iff_mem]
  constructor
  · rintro ⟨y, hy, h⟩
    have : y = m.x := by unfold isX at h; simpa using h
    rw [← this]; exact hy
  · intro h
    exact ⟨m.x, h, by unfold isX; simp⟩
theorem own_lit0S {w : World} {B : Nat} (hB : B ≤ w.heap.size) : (w.alloc (.cells #[] 51)).ownsRow B 51 4 (.slice (some ⟨w.heap.size, 0, none⟩) 0 0) 0 (smrow []) :=
  ⟨rfl, Or.inr ⟨w.heap.size, 0, #[], rfl, hB, World.alloc_heap_new _ _, Nat.zero_le _, Nat.zero_le _, rfl, rfl⟩⟩
set_option maxRecDepth 100000 in
set_option maxHeartbeats 16000000 in
theorem rsl_any {A : Option Addr} {n cap : Nat} {ms : List SM} (c : Cd) (w : World) (hok : c.k22 w) (hn : ms.length = n) (hN : n ≤ 10000) (hp : SMs w A ms) :
    Calls Tryd.prog 31 #[(Value.agg #[Value.int IntKind.i64 (Cd.st c), Value.int IntKind.i64 (Cd.lo c), Value.slice (Cd.iA c) (Cd.n c) (Cd.ic c), Value.slice (Cd.hA c) (Cd.hn c) (Cd.hc c), Value.slice (Cd.mA c) (Cd.mn c) (Cd.mc c), Value.slice (Cd.lA c) (Cd.ln c) (Cd.lc c)]), .slice A n cap] w (SmOwn w (slL (rqL c) ms)) := by
  have hB : Below w.heap.size w w := Below.refl _ _
  have OK := Lib.hid hok
  have HP := Lib.hid hp
  have HN := Lib.hid hn
  clear hok hp hn
  obtain ⟨L, hL⟩ : ∃ L, rqL c = L := ⟨_, rfl⟩
  have HLL := Lib.hid (show L.length ≤ 300 by rw [← hL]; exact Nat.le_trans (rowsI_len _ _) OK.out.fw.n)
  have KR := Lib.hid (fun (W : World) (hW : Below w.heap.size w W) => by
    have := rrq_any c W (OK.out.up hW)
    rw [hL] at this
    exact this)
  rw [hL]
  clear hL
  go_enter Tryd.func31, Tryd.ntmps31
  go_upto_region 1 with fail
  have R := World.alloc_heap_new w (.cells #[.int .i64 c.st, .int .i64 c.lo, .slice c.iA c.n c.ic, .slice c.hA c.hn c.hc, .slice c.mA c.mn c.mc, .slice c.lA c.ln c.lc] 27)
  replace hB := below_al hB (.cells #[.int .i64 c.st, .int .i64 c.lo, .slice c.iA c.n c.ic, .slice c.hA c.hn c.hc, .slice c.mA c.mn c.mc, .slice c.lA c.ln c.lc] 27)
  generalize w.alloc (.cells #[.int .i64 c.st, .int .i64 c.lo, .slice c.iA c.n c.ic, .slice c.hA c.hn c.hc, .slice c.mA c.mn c.mc, .slice c.lA c.ln c.lc] 27) = W1 at R hB ⊢
  obtain ⟨r0, r1, r2, r3, r4, r5⟩ := six_cells R
  have y1 := lt_heap R
  replace R := Lib.hid R
  go_upto_region 2 with (go_at_call 28; (with_reducible refine (KR.out _ hB).mono ?_); rintro e w2 ⟨vr, rfl, ho, hb2⟩)
  have HB := Lib.hid (below_on hB hb2)
  have HP2 := Lib.hid (HP.out.up HB.out)
  obtain ⟨AR, cr, rfl, _, _, _⟩ := own_form ho
  have HR := Lib.hid (Row.of_own ho).1
  obtain ⟨ln, hln⟩ : ∃ ln, L.length = ln := ⟨_, rfl⟩
  have HLN := Lib.hid hln
  rw [hln]
  have hl3 : ln ≤ 300 := by rw [← hln]; exact HLL.out
  clear r0 r1 r2 r3 r4 r5 y1 R ho hb2 hB hln HP KR
  clear W1
  go_upto_region 4 with fail
  have HN0 := Lib.hid (show NxtM w2 (w2.alloc (.cells #[] 51)) (slL L (ms.take 0)) (.slice (some ⟨w2.heap.size, 0, none⟩) 0 0) from ⟨own_lit0S (Nat.le_refl _), below_al (Below.refl _ _) _⟩)
  go_loopw [6, 7] (fun v z wr => ∃ k : Nat, k ≤ n ∧ z = .int .i64 k ∧ NxtM w2 wr (slL L (ms.take k)) v) (fun _ z _ => n - (intOf z).toNat)
  case atStart => exact ⟨0, Nat.zero_le _, rfl, HN0.out⟩
  case round =>
    clear HN0
    obtain ⟨k, hk, rfl, N⟩ := hrel
    have HNX := Lib.hid N
    have hPr := HP2.out.up N.bel
    have HRr := Lib.hid (HR.out.up N.bel)
    have hzr := N.bel.size
    have hsl := sl_len L ms k
    clear N
    by_cases hlt : k < n
    · obtain ⟨m, hm⟩ := get_someF (l := ms) (k := k) (by rw [HN.out]; exact hlt)
      rcases hPr with h0 | ⟨g, o, rfl, hg, hcell⟩
      · rw [h0] at hm; simp at hm
      · obtain ⟨_, a0, a1, a2, a3⟩ := hcell k m hm
        have HSL := Lib.hid (sl_take (L := L) hm)
        have hk0 : (0 : Int) ≤ (k : Int) := by omega
        have hk1 : (k : Int) < (n : Int) := by omega
        clear hcell hm
        obtain ⟨b, hb⟩ : ∃ b, inX L m = b := ⟨_, rfl⟩
        have KS0 := in_any (c := cr) m.x wr HLN.out (by omega) HRr.out
        rw [in_eq, hb] at KS0
        have KS := Lib.hid KS0
        have HIN := Lib.hid hb
        clear hb KS0
        cases b with
        | true =>
          have HS2 := Lib.hid (show slL L (ms.take (k + 1)) = slL L (ms.take k) ++ [m] by rw [HSL.out, HIN.out, if_pos rfl])
          go_upto_region 7 with (go_at_call 51; (with_reducible refine KS.out.mono ?_); rintro e w3 ⟨rfl, hb3⟩)
          have HNZ := Lib.hid (HNX.out.up hb3)
          have hz3 := HNZ.out.bel.size
          obtain ⟨sl, hsl2⟩ : ∃ sl, (slL L (ms.take k)).length = sl := ⟨_, rfl⟩
          rw [hsl2] at hsl
          have HOW := HNZ.out.own
          rw [hsl2] at HOW
          have HOWN := Lib.hid HOW
          have HSN := Lib.hid hsl2
          have b0 := (hb3.cell (p := ⟨g, o + k * 4, none⟩) hg).trans a0
          have b1 := (hb3.cell (p := ⟨g, o + k * 4 + 1, none⟩) hg).trans a1
          have b2 := (hb3.cell (p := ⟨g, o + k * 4 + 2, none⟩) hg).trans a2
          have b3 := (hb3.cell (p := ⟨g, o + k * 4 + 3, none⟩) hg).trans a3
          have hg3 := Nat.lt_of_lt_of_le hg hb3.size
          clear HOW hsl2 a0 a1 a2 a3 hb3 hg
          go_wp2_with (at_builtin; refine wpList_append_sm (by rfl) _ _ (by rfl) w2.heap.size sl w3.heap.size (slL L (ms.take k)) m _ (by rfl) (HOWN.out.alloc _) (by rfl) (smcells_at (World.alloc_heap_new _ _)) (by omega) (by simp; omega) ?_; intro v4 w4 ho4 hg4)
          exact ⟨⟨k + 1, hlt, by go_num, by rw [HS2.out]; exact HNZ.out.yes (by rw [HSN.out]; exact ho4) hg4⟩, by simp [intOf]; omega⟩
        | false =>
          have HS2 := Lib.hid (show slL L (ms.take (k + 1)) = slL L (ms.take k) by rw [HSL.out, HIN.out]; simp)
          go_wp2_with (go_at_call 51; (with_reducible refine KS.out.mono ?_); rintro e w3 ⟨rfl, hb3⟩)
          exact ⟨⟨k + 1, hlt, by go_num, by rw [HS2.out]; exact HNX.out.up hb3⟩, by simp [intOf]; omega⟩
    · obtain rfl : n = k := by omega
      have HFI := Lib.hid (show slL L (ms.take n) = slL L ms by rw [List.take_of_length_le (by rw [HN.out]; exact Nat.le_refl _)])
      clear hPr
      go_wp2
      go_ret
      rw [← HFI.out]
      exact HNX.out.ret HB.out
set_option maxRecDepth 100000 in
set_option maxHeartbeats 8000000 in
theorem rfa_any {A : Option Addr} {n cap : Nat} {ms : List SM} (x : Int) (w : World) (hn : ms.length = n) (hN : n ≤ 9223372036854775807) (hp : SMs w A ms) :
    Calls Tryd.prog 25 #[.slice A n cap, .int .i64 x] w fun e w' => e = .returned (.tuple #[(Value.agg #[Value.slice (FM.A1 (faF ms x)) (FM.n1 (faF ms x)) (FM.c1 (faF ms x)), Value.slice (FM.A2 (faF ms x)) (FM.n2 (faF ms x)) (FM.c2 (faF ms x)), Value.bool (FM.u (faF ms x))]), .bool (faB ms x)]) ∧ Below w.heap.size w w' := by
  have HP := Lib.hid hp
  have HN := Lib.hid hn
  clear hp hn
  obtain ⟨F, hF⟩ : ∃ F, faF ms x = F := ⟨_, rfl⟩
  obtain ⟨b, hb⟩ : ∃ b, faB ms x = b := ⟨_, rfl⟩
  have HF := Lib.hid hF
  have HBB := Lib.hid hb
  rw [hF, hb]
  clear hF hb
  go_enter Tryd.func25, Tryd.ntmps25
  go_upto_region 2 with fail
  have H0 := World.alloc_heap_new w (.cells #[.slice none 0 0, .slice none 0 0, .bool false] 49)
  have hB := below_al (Below.refl _ w) (.cells #[.slice none 0 0, .slice none 0 0, .bool false] 49)
  generalize w.alloc (.cells #[.slice none 0 0, .slice none 0 0, .bool false] 49) = W1 at H0 hB ⊢
  have HP1 := Lib.hid (HP.out.up hB)
  have HB := Lib.hid hB
  have HR := Lib.hid H0
  clear H0 hB HP
  go_loopw [6] (fun z wr => ∃ k : Nat, k ≤ n ∧ z = .int .i64 k ∧ (ms.take k).any (atX x) = false ∧ Below W1.heap.size W1 wr) (fun z _ => n - (intOf z).toNat)
  case atStart => exact ⟨0, Nat.zero_le _, rfl, rfl, Below.refl _ _⟩
  case round =>
    obtain ⟨k, hk, rfl, hall, hbr⟩ := hrel
    have HALL := Lib.hid hall
    have HBR := Lib.hid hbr
    have hRr := (hbr.block _ (lt_heap HR.out)).trans HR.out
    have hPr := HP1.out.up hbr
    clear hall hbr
    by_cases hlt : k < n
    · obtain ⟨m, hm⟩ := get_someF (l := ms) (k := k) (by rw [HN.out]; exact hlt)
      rcases hPr with h0 | ⟨g, o, rfl, hg, hcell⟩
      · rw [h0] at hm; simp at hm
      · obtain ⟨_, a0, a1, a2, a3⟩ := hcell k m hm
        have hk0 : (0 : Int) ≤ (k : Int) := by omega
        have hk1 : (k : Int) < (n : Int) := by omega
        have HAT := Lib.hid (any_take (p := atX x) hm)
        have HM := Lib.hid hm
        have yr := lt_heap hRr
        have HRr := Lib.hid hRr
        obtain ⟨f0, f1, f2, _⟩ := three_cells hRr
        clear hcell hm hRr
        by_cases hx : m.x = x
        · have hh := fa_here HALL.out HM.out hx
          have HF2 := Lib.hid (show F = m.f by rw [← HF.out]; exact hh.1)
          have HB2 := Lib.hid (show b = true by rw [← HBB.out]; exact hh.2)
          clear hh
          subst hx
          go_upto_region 5 with fail
          have hR2 := HRr
          clear f0 f1 f2
          obtain ⟨f0, f1, f2, fz0, fz1, fz2⟩ := three_cells hR2.out
          have yw := lt_heap hR2.out
          go_wp2
          refine bodyPost_ret (fr_ret rfl rfl (set_three hR2.out)) rfl ⟨?_, ?_⟩
          · rw [HF2.out, HB2.out]; rfl
          · exact below_st (below_st (below_st (below_on HB.out HBR.out) (Nat.le_refl _) _) (Nat.le_refl _) _) (Nat.le_refl _) _
        · have e1 : (m.x == x) = false := by simpa using hx
          go_wp2
          refine ⟨⟨k + 1, hlt, by go_num, ?_, HBR.out⟩, by simp [intOf]; omega⟩
          rw [HAT.out, HALL.out]
          exact e1
    · obtain rfl : n = k := by omega
      have hh := fa_none (x := x) (ms := ms) (by have := HALL.out; rwa [List.take_of_length_le (by rw [HN.out]; exact Nat.le_refl _)] at this)
      have HF2 := Lib.hid (show F = fmZ by rw [← HF.out]; exact hh.1)
      have HB2 := Lib.hid (show b = false by rw [← HBB.out]; exact hh.2)
      have HRr := Lib.hid hRr
      obtain ⟨f0, f1, f2, fz0, fz1, fz2⟩ := three_cells hRr
      have yw := lt_heap hRr
      clear hh hPr hRr
      go_wp2
      refine bodyPost_ret (fr_ret rfl rfl (set_three HRr.out)) rfl ⟨?_, ?_⟩
      · rw [HF2.out, HB2.out]; rfl
      · exact below_st (below_st (below_st (below_on HB.out HBR.out) (Nat.le_refl _) _) (Nat.le_refl _) _) (Nat.le_refl _) _

end Go.Proofs.YtdppooflbjlbcaaDoor.I
