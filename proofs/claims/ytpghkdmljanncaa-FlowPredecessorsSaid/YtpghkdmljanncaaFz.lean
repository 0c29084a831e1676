/- Layer 19: the law's edges. -/
import Derived.Test.YtpghkdmljanncaaFy
import Derived.Test.YtpghkdmljanncaaFxn
import Derived.Deep.QuietTactic
import Derived.BigQuiet
namespace Go.Proofs.Ytpghkdmljanncaa
open Go.ChangeShapes Go.WideShapes Go.ChangeAt Go.RowKit Go.PlainAid
set_option linter.unusedSimpArgs false
set_option linter.unusedVariables false

theorem grown_dw {w w' : World} {r : Option Nat} (h : w.drew.grownBy w' r) : w.grownBy w' r := ⟨h.os, h.tape, h.output, h.size, h.block⟩
/-- the targets of an instruction's edges, as they come -/
def leL (c : Cd) (x : Int) : List Int := scL c x ++ (hdL c x).map (tgtV c)
theorem leL_len {c : Cd} {w : World} (h : c.ok w) (x : Int) : (leL c x).length ≤ 2100000 := by
  have := scL_len h x
  have := hdL_len c x
  have := h.hb
  unfold leL
  rw [List.length_append, List.length_map]
  omega
set_option maxRecDepth 100000 in
set_option maxHeartbeats 4000000 in
theorem les_any (c : Cd) (x : Int) (w : World) (hok : c.ok w) : Calls Try.prog 46 #[(Value.agg #[Value.int IntKind.i64 (Cd.st c), Value.int IntKind.i64 (Cd.lo c), Value.slice (Cd.iA c) (Cd.n c) (Cd.ic c), Value.slice (Cd.hA c) (Cd.hn c) (Cd.hc c), Value.slice (Cd.mA c) (Cd.mn c) (Cd.mc c), Value.slice (Cd.lA c) (Cd.ln c) (Cd.lc c)]), .int .i64 x] w (IntsOwn w (leL c x)) := by
  have hB : Below w.heap.size w w := Below.refl _ _
  have OK := Lib.hid hok
  clear hok
  have hsl := scL_len OK.out x
  have hhl := hdL_len c x
  have hhb := OK.out.hb
  have HED := Lib.hid (show leL c x = scL c x ++ (hdL c x).map (tgtV c) from rfl)
  go_enter Try.func46, Try.ntmps46
  go_upto_region 1 with fail
  have R := World.alloc_heap_new w (.cells #[.int .i64 c.st, .int .i64 c.lo, .slice c.iA c.n c.ic, .slice c.hA c.hn c.hc, .slice c.mA c.mn c.mc, .slice c.lA c.ln c.lc] 50)
  replace hB := below_al hB (.cells #[.int .i64 c.st, .int .i64 c.lo, .slice c.iA c.n c.ic, .slice c.hA c.hn c.hc, .slice c.mA c.mn c.mc, .slice c.lA c.ln c.lc] 50)
  generalize w.alloc (.cells #[.int .i64 c.st, .int .i64 c.lo, .slice c.iA c.n c.ic, .slice c.hA c.hn c.hc, .slice c.mA c.mn c.mc, .slice c.lA c.ln c.lc] 50) = W1 at R hB ⊢
  obtain ⟨r0, r1, r2, r3, r4, r5⟩ := six_cells R
  have y1 := lt_heap R
  replace R := Lib.hid R
  have OK1 := Lib.hid (OK.out.up hB)
  have HO0 := Lib.hid (own_lit0 (w := W1) (B := W1.heap.size) (Nat.le_refl _))
  go_upto_region 2 with (first | (go_at_call 33; (with_reducible refine (scs_any c _ _ (OK1.out.up (below_al (Below.refl _ _) _))).mono ?_); rintro e w1 ⟨v, rfl, ho1, hb1⟩; obtain ⟨A5, c5, rfl, hc5, hm5, hn5⟩ := own_form ho1; have HO1 := Lib.hid ho1; have HB1 := Lib.hid hb1; clear ho1 hb1) | (at_builtin; refine wpList_append_ints (by rfl) _ _ (by rfl) W1.heap.size 0 _ _ w1.heap.size [] (scL c x) _ _ (by rfl) (own_below HO0.out HB1.out) (by rfl) (Row.of_own HO1.out).1 rfl hn5 (by omega) (by have := HB1.out.size; simp at this; omega) ?_; intro v' w9 ho9 hg9))
  rw [Nat.zero_add, List.nil_append] at ho9
  have HB9 := Lib.hid (show Below W1.heap.size W1 w9 from grown_own (below_on (below_al (Below.refl _ _) _) HB1.out) (own_below HO0.out HB1.out) hg9)
  have OK2 := Lib.hid (OK1.out.up HB9.out)
  have RB1 := Lib.hid ((HB9.out.block _ y1).trans R.out)
  have HO9 := Lib.hid ho9
  have HB := Lib.hid hB
  clear r0 r1 r2 r3 r4 r5 ho9 hg9 HO1 HB1 HO0 hB hc5 hm5 hn5
  obtain ⟨r0, r1, r2, r3, r4, r5⟩ := six_cells RB1.out
  have yr := lt_heap RB1.out
  obtain ⟨m, hm⟩ : ∃ m, (hdL c x).length = m := ⟨_, rfl⟩
  have HM := Lib.hid hm
  have hmb : m ≤ 1000000 := by omega
  clear hm
  go_upto_region 3 with (go_at_call 35; (with_reducible refine (hds_any c _ _ OK2.out).mono ?_); rintro e w2 ⟨v2, rfl, ho2, hb2⟩; rw [HM.out] at ho2; obtain ⟨A3, c3, rfl, hc3, hm3, _⟩ := own_form ho2)
  have HAP := Lib.hid (apt_of HO9.out ho2)
  have HO2 := Lib.hid ho2
  have HN := Lib.hid (show Nxt W1 w2 (scL c x) v' from ⟨own_below HO9.out hb2, below_on HB9.out hb2⟩)
  clear ho2 hb2 r0 r1 r2 r3 r4 r5 yr HO9 HB9
  obtain ⟨HH, hHH⟩ : ∃ HH, hdL c x = HH := ⟨_, rfl⟩
  have HHM := Lib.hid (fun r (hr : r ∈ HH) => hdL_mem (c := c) (x := x) (r := r) OK1.out (by rw [hHH]; exact hr))
  rw [hHH] at HM HO2 HED
  clear hHH OK2 RB1
  go_wp2
  go_loopw [5, 7] (fun next z wr => ∃ j : Nat, j ≤ m ∧ z = .int .i64 j ∧ Nxt W1 wr (scL c x ++ (HH.take j).map (tgtV c)) next ∧ wr.ownsRow w9.heap.size 3 1 (.slice A3 m c3) m (Ri HH) ∧ Apt next (.slice A3 m c3)) (fun _ z _ => m - (intOf z).toNat)
  case atStart => exact ⟨0, Nat.zero_le _, rfl, by simp only [List.take_zero, List.map_nil, List.append_nil]; exact HN.out, HO2.out, HAP.out⟩
  case round =>
    clear HN HO2 HAP
    obtain ⟨j, hj, rfl, N, hv2, hap⟩ := hrel
    have HNX := Lib.hid N
    have HV2 := Lib.hid hv2
    have HAP := Lib.hid hap
    have RBr := Lib.hid ((N.bel.block _ y1).trans R.out)
    have OKr := Lib.hid (OK1.out.up N.bel)
    have hln : (scL c x ++ (HH.take j).map (tgtV c)).length ≤ 2100000 := by rw [List.length_append, List.length_map, List.length_take]; omega
    obtain ⟨r0, r1, r2, r3, r4, r5⟩ := six_cells RBr.out
    have yr := lt_heap RBr.out
    clear N hap
    by_cases hlt : j < m
    · obtain ⟨r, hr⟩ := get_someF (l := HH) (k := j) (by rw [HM.out]; exact hlt)
      obtain ⟨jr, y, rfl, hjr, hy, _⟩ := HHM.out r (List.mem_of_getElem? hr)
      obtain ⟨gt, ot, rfl, hgt, hct⟩ := row_get (Row.of_own hv2).1 hr
      have HTG := Lib.hid (show tgtV c jr = y.g by unfold tgtV; rw [Int.toNat_natCast, hy])
      have HTK := Lib.hid (take_snocF hr)
      rcases OKr.out.hw with h0 | ⟨g, o, hA, hg, hcell⟩
      · rw [h0] at hy; simp at hy
      · obtain ⟨a0, a1, a2, a3, a4⟩ := hcell jr y hy
        rw [hA] at r3
        clear hA
        obtain ⟨q, hq⟩ : ∃ q, (scL c x ++ (HH.take j).map (tgtV c)).length = q := ⟨_, rfl⟩
        have hown := HNX.out.own
        rw [hq] at hown hln
        have HOWN := Lib.hid hown
        have HQ := Lib.hid hq
        clear hown hq
        have hj0 : (0 : Int) ≤ (j : Int) := by omega
        have hj1 : (j : Int) < (m : Int) := by omega
        have hk0 : (0 : Int) ≤ (jr : Int) := by omega
        have hk1 : (jr : Int) < (c.hn : Int) := by omega
        clear hcell hy hr hv2 a0 a1 a3 a4
        go_wp2
        go_region_law (refine step_append_lies_ints (by rfl) _ _ (by rfl) W1.heap.size q 1 _ y.g _ _ (by rfl) (HOWN.out.alloc _) (by rfl) (Row.one (ten_cell0 (new_at (by simp; done))) (by simp; done)) (by omega) (by have := HNX.out.bel.size; simp; omega) ?_; intro A7 c7 w4 ho4 hg4 hl4)
        all_goals
          have hg5 : (wr.alloc (.cells #[.int .i64 y.g] 3)).grownBy w4 _ := grown_dw hg4
          have hl5 : Lies (wr.alloc (.cells #[.int .i64 y.g] 3)) _ _ := hl4
          have hkeep := HAP.out.kept (HV2.out.alloc _) hg5
          have hap4 := HAP.out.grow (HV2.out.alloc _) hl5
        all_goals go_wp2
        all_goals go_roundw
        all_goals first | (exact ⟨j + 1, hlt, by go_num, by rw [HTK.out, List.map_append, ← List.append_assoc]; have := HNX.out.add (by rw [HQ.out]; exact ho4) hg5; rw [← HTG.out] at this; exact this, hkeep, hap4⟩) | (simp [intOf]; omega)
    · obtain ⟨rfl⟩ : m = j := by omega
      have HF := Lib.hid (show scL c x ++ (HH.take m).map (tgtV c) = scL c x ++ HH.map (tgtV c) by rw [List.take_of_length_le (by rw [HM.out]; exact Nat.le_refl _)])
      go_wp2
      go_ret
      rw [HED.out, ← HF.out]
      exact ⟨_, rfl, own_leF HNX.out.own HB.out.size, below_on HB.out HNX.out.bel⟩

end Go.Proofs.Ytpghkdmljanncaa
