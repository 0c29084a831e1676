/- Layer 19: edges. -/
import Derived.Test.YtpghkdmljanncaaFh
namespace Go.Proofs.Ytpghkdmljanncaa
open Go.ChangeShapes Go.WideShapes Go.ChangeAt Go.RowKit Go.PlainAid
set_option linter.unusedSimpArgs false
set_option linter.unusedVariables false

def tgtV (c : Cd) (r : Int) : Int := match c.hs[r.toNat]? with | some h => h.g | none => 0
def edL (c : Cd) (x : Int) : List Int := ordL (scL c x ++ (hdL c x).map (tgtV c))
theorem apt_of {w1 w2 : World} {B e k n e2 k2 n2 : Nat} {v v2 : Value} {xs xs2 : List Value} (h : w1.ownsRow B e k v n xs) (h2 : w2.ownsRow w1.heap.size e2 k2 v2 n2 xs2) : Apt v v2 := by
  cases hv : v.ownBlock with
  | none => exact Or.inl hv
  | some b =>
    refine Or.inr (fun e => ?_)
    rw [hv] at e
    have := (h.lt b hv).2
    have := (h2.lt b e.symm).1
    omega
theorem scL_len {c : Cd} {w : World} (h : c.ok w) (x : Int) : (scL c x).length ≤ 1000002 := by
  unfold scL
  cases hi : c.is[x.toNat]? with
  | none => simp
  | some i =>
    show (if _ then _ else _ : List Int).length ≤ _
    split
    · refine Nat.le_trans (ordL_len _) ?_
      have hm := List.mem_of_getElem? hi
      have htl : i.ts.length = i.tn := by
        obtain ⟨j, hj, he⟩ := List.getElem_of_mem hm
        rcases h.iw with h0 | ⟨g, o, hA, hg, hc⟩
        · rw [h0] at hm; cases hm
        · exact (hc j i (by rw [List.getElem?_eq_getElem hj, he])).1.2.2.2.2.1
      have ht := tgL_bd (i := i) (by have := h.tn i hm; omega)
      have h1 := List.length_filter_le (exB c.n) (tgL i)
      unfold nxL
      rw [List.length_append]
      split <;> simp <;> omega
    · simp
theorem hdL_mem {c : Cd} {x r : Int} {w : World} (h : c.ok w) (hr : r ∈ hdL c x) : ∃ (j : Nat) (y : Hd), r = j ∧ j < c.hn ∧ c.hs[j]? = some y ∧ hdB c.n y x = true := by
  unfold hdL at hr
  split at hr
  · obtain ⟨j, hj, hp, rfl⟩ := rowsI_mem.1 hr
    obtain ⟨y, hy⟩ := get_someF (l := c.hs) (k := j) (by rw [h.hl]; exact hj)
    exact ⟨j, y, rfl, hj, hy, by rw [← hdP_at hy]; exact hp⟩
  · cases hr
set_option maxRecDepth 100000 in
set_option maxHeartbeats 4000000 in
theorem eds_any (c : Cd) (x : Int) (w : World) (hok : c.ok w) : Calls Try.prog 76 #[(Value.agg #[Value.int IntKind.i64 (Cd.st c), Value.int IntKind.i64 (Cd.lo c), Value.slice (Cd.iA c) (Cd.n c) (Cd.ic c), Value.slice (Cd.hA c) (Cd.hn c) (Cd.hc c), Value.slice (Cd.mA c) (Cd.mn c) (Cd.mc c), Value.slice (Cd.lA c) (Cd.ln c) (Cd.lc c)]), .int .i64 x] w (IntsOwn w (edL c x)) := by
  have hB : Below w.heap.size w w := Below.refl _ _
  have OK := Lib.hid hok
  clear hok
  have hsl := scL_len OK.out x
  have hhl := hdL_len c x
  have hhb := OK.out.hb
  have HED := Lib.hid (show edL c x = ordL (scL c x ++ (hdL c x).map (tgtV c)) from rfl)
  go_enter Try.func76, Try.ntmps76
  go_upto_region 1 with fail
  have R := World.alloc_heap_new w (.cells #[.int .i64 c.st, .int .i64 c.lo, .slice c.iA c.n c.ic, .slice c.hA c.hn c.hc, .slice c.mA c.mn c.mc, .slice c.lA c.ln c.lc] 50)
  replace hB := below_al hB (.cells #[.int .i64 c.st, .int .i64 c.lo, .slice c.iA c.n c.ic, .slice c.hA c.hn c.hc, .slice c.mA c.mn c.mc, .slice c.lA c.ln c.lc] 50)
  generalize w.alloc (.cells #[.int .i64 c.st, .int .i64 c.lo, .slice c.iA c.n c.ic, .slice c.hA c.hn c.hc, .slice c.mA c.mn c.mc, .slice c.lA c.ln c.lc] 50) = W1 at R hB ⊢
  obtain ⟨r0, r1, r2, r3, r4, r5⟩ := six_cells R
  have y1 := lt_heap R
  replace R := Lib.hid R
  have OK1 := Lib.hid (OK.out.up hB)
  go_upto_region 2 with (go_at_call 33; (with_reducible refine (scs_any c _ _ OK1.out).mono ?_); rintro e w1 ⟨v, rfl, ho1, hb1⟩)
  have OK2 := Lib.hid (OK1.out.up hb1)
  have RB1 := Lib.hid ((hb1.block _ y1).trans R.out)
  have HB := Lib.hid hB
  clear r0 r1 r2 r3 r4 r5
  obtain ⟨r0, r1, r2, r3, r4, r5⟩ := six_cells RB1.out
  have yr := lt_heap RB1.out
  have HO1 := Lib.hid ho1
  have HB1 := Lib.hid hb1
  clear ho1 hb1 hB
  obtain ⟨m, hm⟩ : ∃ m, (hdL c x).length = m := ⟨_, rfl⟩
  have HM := Lib.hid hm
  have hmb : m ≤ 1000000 := by omega
  clear hm
  go_upto_region 3 with (go_at_call 35; (with_reducible refine (hds_any c _ _ OK2.out).mono ?_); rintro e w2 ⟨v2, rfl, ho2, hb2⟩; rw [HM.out] at ho2; obtain ⟨A3, c3, rfl, hc3, hm3, _⟩ := own_form ho2)
  have HAP := Lib.hid (apt_of HO1.out ho2)
  have HO2 := Lib.hid ho2
  have OK3 := Lib.hid (OK2.out.up hb2)
  have RB2 := Lib.hid ((hb2.block _ (lt_heap RB1.out)).trans RB1.out)
  have HN := Lib.hid (show Nxt W1 w2 (scL c x) v from ⟨own_below HO1.out hb2, below_on HB1.out hb2⟩)
  clear ho2 hb2 r0 r1 r2 r3 r4 r5 yr HO1 HB1
  obtain ⟨HH, hHH⟩ : ∃ HH, hdL c x = HH := ⟨_, rfl⟩
  have HHM := Lib.hid (fun r (hr : r ∈ HH) => hdL_mem (c := c) (x := x) (r := r) OK1.out (by rw [hHH]; exact hr))
  rw [hHH] at HM HO2 HED
  clear hHH OK2 OK3 RB1 RB2
  go_loopw [5, 15] (fun next z wr => ∃ j : Nat, j ≤ m ∧ z = .int .i64 j ∧ Nxt W1 wr (scL c x ++ (HH.take j).map (tgtV c)) next ∧ wr.ownsRow w1.heap.size 3 1 (.slice A3 m c3) m (Ri HH) ∧ Apt next (.slice A3 m c3)) (fun _ z _ => m - (intOf z).toNat)
  case atStart => exact ⟨0, Nat.zero_le _, rfl, by simp only [List.take_zero, List.map_nil, List.append_nil]; exact HN.out, HO2.out, HAP.out⟩
  case round =>
    clear HN HO2 HAP
    obtain ⟨j, hj, rfl, N, hv2, hap⟩ := hrel
    have HNX := Lib.hid N
    have HV2 := Lib.hid hv2
    have HAP := Lib.hid hap
    have RBr := Lib.hid ((N.bel.block _ y1).trans R.out)
    have OKr := Lib.hid (OK1.out.up N.bel)
    have hln : (scL c x ++ (HH.take j).map (tgtV c)).length ≤ 2100000 := by rw [List.length_append, List.length_map, List.length_take]; omega
    obtain ⟨r0, r1, r2, r3, r4, r5⟩ := six_cells RBr.out
    have yr := lt_heap RBr.out
    clear N hap
    by_cases hlt : j < m
    · obtain ⟨r, hr⟩ := get_someF (l := HH) (k := j) (by rw [HM.out]; exact hlt)
      obtain ⟨jr, y, rfl, hjr, hy, _⟩ := HHM.out r (List.mem_of_getElem? hr)
      obtain ⟨gt, ot, rfl, hgt, hct⟩ := row_get (Row.of_own hv2).1 hr
      have HTG := Lib.hid (show tgtV c jr = y.g by unfold tgtV; rw [Int.toNat_natCast, hy])
      have HTK := Lib.hid (take_snocF hr)
      rcases OKr.out.hw with h0 | ⟨g, o, hA, hg, hcell⟩
      · rw [h0] at hy; simp at hy
      · obtain ⟨a0, a1, a2, a3, a4⟩ := hcell jr y hy
        rw [hA] at r3
        clear hA
        obtain ⟨q, hq⟩ : ∃ q, (scL c x ++ (HH.take j).map (tgtV c)).length = q := ⟨_, rfl⟩
        have hown := HNX.out.own
        rw [hq] at hown hln
        have HOWN := Lib.hid hown
        have HQ := Lib.hid hq
        clear hown hq
        have hj0 : (0 : Int) ≤ (j : Int) := by omega
        have hj1 : (j : Int) < (m : Int) := by omega
        have hk0 : (0 : Int) ≤ (jr : Int) := by omega
        have hk1 : (jr : Int) < (c.hn : Int) := by omega
        clear hcell hy hr hv2 a0 a1 a3 a4
        go_wp2_with (at_builtin; refine wpList_append_liesF (by rfl) _ _ (by rfl) W1.heap.size q 1 _ y.g _ _ (by rfl) (HOWN.out.alloc _) (by rfl) (Row.one (ten_cell0 (new_at rfl)) (by simp)) (by omega) (by have := HNX.out.bel.size; simp; omega) ?_; intro A7 c7 w4 ho4 hg4 hl4)
        have hkeep := HAP.out.kept (HV2.out.alloc _) hg4
        have hap4 := HAP.out.grow (HV2.out.alloc _) hl4
        exact ⟨⟨j + 1, hlt, by go_num, by rw [HTK.out, List.map_append, ← List.append_assoc]; have := HNX.out.add (by rw [HQ.out]; exact ho4) hg4; rw [← HTG.out] at this; exact this, hkeep, hap4⟩, by simp [intOf]; omega⟩
    · obtain ⟨rfl⟩ : m = j := by omega
      have HF := Lib.hid (show scL c x ++ (HH.take m).map (tgtV c) = scL c x ++ HH.map (tgtV c) by rw [List.take_of_length_le (by rw [HM.out]; exact Nat.le_refl _)])
      go_wp2_with (go_at_call 71; refine (ord_any HNX.out.own (by omega)).mono ?_; rintro e w9 ⟨v9, rfl, ho9, hbk9, hg9⟩)
      go_ret
      rw [HED.out, ← HF.out]
      exact Nxt.done HB.out HNX.out ho9 hg9

end Go.Proofs.Ytpghkdmljanncaa
