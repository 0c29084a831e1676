import Derived.Test.YtdppooflbjlbcaaDoorCc
import Derived.Test.YtdppooflbjlbcaaDoorFwM

/- Wc -/
/- Layer 22: Required. (Written by gen/wc.py.) -/
namespace Go.Proofs.YtdppooflbjlbcaaDoor.I
open Go.ChangeShapes Go.WideShapes Go.ChangeAt Go.RowKit Go.PlainAid
set_option linter.unusedSimpArgs false
set_option linter.unusedVariables false

/-- behind an instruction that ends the flow -/
def tmP (c : Cd) : Nat → Bool
  | 0 => false
  | q + 1 => match c.is[q]? with | some i => termB i.op | none => false
/-- a map is required at k -/
def rqP (c : Cd) (k : Nat) : Bool := (reL c).getD k false && ((btL c).getD k false || tmP c k)
def rqL (c : Cd) : List Int := rowsI (rqP c) c.n
theorem rqP_at {c : Cd} {k : Nat} {b1 b2 t : Bool} (h1 : (reL c)[k]? = some b1) (h2 : (btL c)[k]? = some b2) (h3 : tmP c k = t) : rqP c k = (b1 && (b2 || t)) := by
  unfold rqP
  rw [List.getD_eq_getElem?_getD, List.getD_eq_getElem?_getD, h1, h2, h3]; rfl
theorem tmP_s {c : Cd} {q : Nat} {i : In} (h : c.is[q]? = some i) : tmP c (q + 1) = termB i.op := by
  show (match c.is[q]? with | some i => termB i.op | none => false) = _
  rw [h]
/-- code that the statements of layer 22 walk -/
structure Cd.k22 (w : World) (c : Cd) : Prop where
  c9 : c.c9 w
  ok : c.ok w
  fw : c.few
theorem Cd.k22.up {w w' : World} {c : Cd} (h : c.k22 w) (hb : Below w.heap.size w w') : c.k22 w' := ⟨h.c9.up hb, h.ok.up hb, h.fw⟩
set_option maxRecDepth 100000 in
set_option maxHeartbeats 8000000 in
theorem rq_any (c : Cd) (w : World) (hok : c.k22 w) : Calls Tryd.prog 27 #[(Value.agg #[Value.int IntKind.i64 (Cd.st c), Value.int IntKind.i64 (Cd.lo c), Value.slice (Cd.iA c) (Cd.n c) (Cd.ic c), Value.slice (Cd.hA c) (Cd.hn c) (Cd.hc c), Value.slice (Cd.mA c) (Cd.mn c) (Cd.mc c), Value.slice (Cd.lA c) (Cd.ln c) (Cd.lc c)])] w (IntsOwn w (rqL c)) := by
  have hB : Below w.heap.size w w := Below.refl _ _
  have OK := Lib.hid hok
  have hcn : c.n ≤ 300 := hok.fw.n
  clear hok
  go_enter Tryd.func27, Tryd.ntmps27
  go_upto_region 1 with fail
  have R := World.alloc_heap_new w (.cells #[.int .i64 c.st, .int .i64 c.lo, .slice c.iA c.n c.ic, .slice c.hA c.hn c.hc, .slice c.mA c.mn c.mc, .slice c.lA c.ln c.lc] 27)
  replace hB := below_al hB (.cells #[.int .i64 c.st, .int .i64 c.lo, .slice c.iA c.n c.ic, .slice c.hA c.hn c.hc, .slice c.mA c.mn c.mc, .slice c.lA c.ln c.lc] 27)
  generalize w.alloc (.cells #[.int .i64 c.st, .int .i64 c.lo, .slice c.iA c.n c.ic, .slice c.hA c.hn c.hc, .slice c.mA c.mn c.mc, .slice c.lA c.ln c.lc] 27) = W1 at R hB ⊢
  obtain ⟨r0, r1, r2, r3, r4, r5⟩ := six_cells R
  have y1 := lt_heap R
  replace R := Lib.hid R
  have OK1 := Lib.hid (OK.out.up hB)
  have HB := Lib.hid hB
  clear hB
  go_region_held3 (fun w' => w'.cell? ⟨w.heap.size, 0, none⟩ = some (.int .i64 c.st) ∧ w'.cell? ⟨w.heap.size, 1, none⟩ = some (.int .i64 c.lo) ∧ w'.cell? ⟨w.heap.size, 2, none⟩ = some (.slice c.iA c.n c.ic) ∧ w'.cell? ⟨w.heap.size, 3, none⟩ = some (.slice c.hA c.hn c.hc) ∧ w'.cell? ⟨w.heap.size, 4, none⟩ = some (.slice c.mA c.mn c.mc) ∧ w'.cell? ⟨w.heap.size, 5, none⟩ = some (.slice c.lA c.ln c.lc) ∧ w.heap.size < w'.heap.size ∧ Below W1.heap.size W1 w') (((try go_split_ands); (repeat' apply And.intro) <;> (first | assumption | exact (Below.refl _ _).drew | (first | exact below_on (w := W1) (by assumption) hq | exact Below.drew (by assumption) | assumption) | exact (Below.cell hq (by first | omega | (simp; omega))).trans (by assumption) | (have := hq.size; omega) | (simp; omega) | go_keep)))
    (first | (go_at_call 13; (with_reducible refine (bt_any c _ (OK1.out.up (by first | assumption | (go_split_ands; assumption))).c9).mono ?_); rintro e w2 ⟨WA, rfl, hm, hq1⟩; have hq := below_on hq1 hm.bel; have HBT := Lib.hid hm; clear hm hq1) | (go_at_call 48; (with_reducible refine (re_any c _ (OK1.out.up (by first | assumption | (go_split_ands; assumption))).ok OK1.out.fw).mono ?_); rintro e w2 ⟨WB, rfl, hm, hq1⟩; have hq := below_on hq1 hm.bel; replace HBT := Lib.hid (HBT.out.up hq); have HRE := Lib.hid hm; clear hm hq1))
  go_split_ands
  have hend : Below W1.heap.size W1 w2 := by assumption
  have RB := Lib.hid ((hend.block _ y1).trans R.out)
  have HB2 := Lib.hid (below_on HB.out hend)
  have OK2 := Lib.hid (OK1.out.up hend)
  obtain ⟨A, hA⟩ : ∃ A, c.iA = A := ⟨_, rfl⟩
  have HA := Lib.hid hA
  clear hend r0 r1 r2 r3 r4 r5 y1 R OK1 HB hA
  try clear hq
  generalize hw2 : w2 = W2 at RB HB2 OK2 HBT HRE ⊢
  clear hw2
  obtain ⟨r0, r1, r2, r3, r4, r5⟩ := six_cells RB.out
  have yr := lt_heap RB.out
  go_upto_region 4 with fail
  clear r0 r1 r2 r3 r4 r5 yr
  go_loopw [5, 15] (fun v z wr => ∃ k : Nat, k ≤ c.n ∧ z = .int .i64 k ∧ Nxt W2 wr (rowsI (rqP c) k) v) (fun _ z _ => c.n - (intOf z).toNat)
  case atStart => exact ⟨0, Nat.zero_le _, rfl, Nxt.start⟩
  case round =>
    obtain ⟨k, hk, rfl, N⟩ := hrel
    have HNX := Lib.hid N
    have HMr := Lib.hid (HBT.out.up N.bel)
    have HEr := Lib.hid (HRE.out.up N.bel)
    have OKr := Lib.hid (OK2.out.up N.bel)
    have RBr := Lib.hid ((N.bel.block _ (lt_heap RB.out)).trans RB.out)
    have hln := rowsI_len (rqP c) k
    have hzr := N.bel.size
    obtain ⟨q, hq⟩ : ∃ q, (rowsI (rqP c) k).length = q := ⟨_, rfl⟩
    rw [hq] at hln
    have HQ := Lib.hid hq
    have hown := N.own
    rw [hq] at hown
    have HOWN := Lib.hid hown
    clear N hq hown
    by_cases hlt : k < c.n
    · obtain ⟨b2, hb2⟩ := get_someF (l := btL c) (k := k) (by rw [btL_len]; exact hlt)
      obtain ⟨b1, hb1⟩ := get_someF (l := reL c) (k := k) (by rw [HEr.out.len]; exact hlt)
      have hcb := HMr.out.cell hb2
      have hsz := HMr.out.sz
      have hce := HEr.out.cell hb1
      have hsy := HEr.out.sz
      have hk0 : (0 : Int) ≤ (k : Int) := by omega
      have hk1 : (k : Int) < (c.n : Int) := by omega
      obtain ⟨r0, r1, r2, r3, r4, r5⟩ := six_cells RBr.out
      have yr := lt_heap RBr.out
      rw [HA.out] at r2
      cases k with
      | zero =>
        have HP := Lib.hid (rqP_at hb1 hb2 rfl)
        clear hb1 hb2
        rw [Int.natCast_zero] at hk0 hk1
        cases b1 <;> cases b2
        all_goals
          first
          | (go_wp2_with (fail)
             exact ⟨⟨0 + 1, hlt, by go_num, HNX.out.no HP.out⟩, by simp [intOf]; omega⟩)
          | (go_wp2_with (at_builtin; refine wpList_append_ints (by rfl) _ _ (by rfl) W2.heap.size q 1 1 (wr.heap.size + 1) _ [((0 : Nat) : Int)] _ _ (by rfl) (HOWN.out.alloc _) (by rfl) (Row.one (ten_cell0 (new_at rfl)) (by omega)) rfl (fun h => by cases h) (by omega) (by simp; omega) ?_; intro v4 w4 ho4 hg4)
             exact ⟨⟨0 + 1, hlt, by go_num, HNX.out.yes HP.out (by rw [HQ.out]; exact ho4) hg4⟩, by simp [intOf]; omega⟩)
      | succ m =>
        obtain ⟨i, hi⟩ := get_someF (l := c.is) (k := m) (by rw [OKr.out.c9.il]; omega)
        have hiw := OKr.out.c9.iw
        rw [HA.out] at hiw
        have HP := Lib.hid (rqP_at hb1 hb2 (tmP_s hi))
        rcases hiw with h0 | ⟨g, o, rfl, hg, hcell⟩
        · rw [h0] at hi; simp at hi
        · obtain ⟨_, a0, _⟩ := hcell m _ hi
          have hw1 : IntKind.i64.wrap ((m : Int) + 1 - 1) = (m : Int) := by simp [IntKind.wrap, IntKind.bits, IntKind.signed]; omega
          have hm0 : (0 : Int) ≤ (m : Int) := by omega
          have hm1 : (m : Int) < (c.n : Int) := by omega
          have hgt : (0 : Int) < (m : Int) + 1 := by omega
          rw [Int.natCast_add, Int.natCast_one] at hk0 hk1 ⊢
          clear hcell hi hb1 hb2
          obtain ⟨t, ht⟩ : ∃ t, termB i.op = t := ⟨_, rfl⟩
          have HTM := Lib.hid ht
          rw [ht] at HP
          clear ht
          cases b1 <;> cases b2 <;> cases t
          all_goals
            first
            | (go_wp2_with (go_at_call 20; refine (term_any _ _).mono ?_; rintro e w' ⟨rfl, rfl⟩; rw [HTM.out])
               exact ⟨⟨m + 1 + 1, hlt, by go_num, HNX.out.no HP.out⟩, by simp [intOf]; omega⟩)
            | (go_wp2_with (first | (go_at_call 20; refine (term_any _ _).mono ?_; rintro e w' ⟨rfl, rfl⟩; rw [HTM.out]) | (at_builtin; refine wpList_append_ints (by rfl) _ _ (by rfl) W2.heap.size q 1 1 (wr.heap.size + 1) _ [((m : Nat) : Int) + 1] _ _ (by rfl) (HOWN.out.alloc _) (by rfl) (Row.one (ten_cell0 (new_at rfl)) (by omega)) rfl (fun h => by cases h) (by omega) (by simp; omega) ?_; intro v4 w4 ho4 hg4))
               exact ⟨⟨m + 1 + 1, hlt, by go_num, HNX.out.yes HP.out (by rw [HQ.out]; exact ho4) hg4⟩, by simp [intOf]; omega⟩)
    · obtain ⟨hnk⟩ : c.n = k := by omega
      go_wp2
      go_ret
      exact HNX.out.ret HB2.out

end Go.Proofs.YtdppooflbjlbcaaDoor.I
