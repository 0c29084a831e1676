/- Layer 19: the law on predecessors. -/
import Derived.Test.YtpghkdmljanncaaFad
namespace Go.Proofs.Ytpghkdmljanncaa
open Go.ChangeShapes Go.WideShapes Go.ChangeAt Go.RowKit Go.PlainAid
set_option linter.unusedSimpArgs false
set_option linter.unusedVariables false

theorem hasB_iff {L : List Int} {m : Int} : hasB L m = true ↔ m ∈ L := by
  unfold hasB
  rw [List.any_eq_true]
  constructor
  · rintro ⟨x, hx, he⟩
    rw [← eq_of_beq he]; exact hx
  · intro h; exact ⟨m, h, by simp⟩
theorem pd_has {c : Cd} {i k : Nat} (hi : i < c.n) (hk : k < c.n) : hasB (pdR c k c.n) i = hasB (leL c i) k := by
  have h : hasB (pdR c k c.n) i = true ↔ hasB (leL c i) k = true := by
    rw [hasB_iff, hasB_iff]
    unfold pdR
    rw [rowsI_mem]
    have he : ((k : Int) ∈ edL c i) ↔ (k : Int) ∈ leL c i := by unfold edL leL; rw [(ordL_spec _).2]
    constructor
    · rintro ⟨j, hj, hp, e⟩
      obtain rfl : i = j := by omega
      exact he.1 (of_decide_eq_true hp)
    · intro h
      exact ⟨i, hi, decide_eq_true (he.2 h), rfl⟩
  cases h1 : hasB (pdR c k c.n) i with
  | true => exact (h.1 h1).symm
  | false =>
    cases h2 : hasB (leL c i) k with
    | true => rw [h.2 h2] at h1; cases h1
    | false => rfl
theorem has_is {w : World} {A : Option Addr} {n c : Nat} {L : List Int} {m : Int} {b : Bool} (h1 : Row w w.heap.size A L) (hn : L.length = n) (hb : n ≤ 9223372036854775807) (hm : hasB L m = b) :
    Calls Try.prog 45 #[.slice A n c, .int .i64 m] w fun e w' => e = .returned (.bool b) ∧ Below w.heap.size w w' :=
  (has_any m h1 hn hb).mono fun e w' ⟨he, q, hq⟩ => ⟨by rw [he, hm], by rw [hq]; exact below_dr (Below.refl _ _) q⟩
theorem les_r (c : Cd) (x : Int) (w : World) (hok : c.ok w) : Calls Try.prog 46 #[(Value.agg #[Value.int IntKind.i64 (Cd.st c), Value.int IntKind.i64 (Cd.lo c), Value.slice (Cd.iA c) (Cd.n c) (Cd.ic c), Value.slice (Cd.hA c) (Cd.hn c) (Cd.hc c), Value.slice (Cd.mA c) (Cd.mn c) (Cd.mc c), Value.slice (Cd.lA c) (Cd.ln c) (Cd.lc c)]), .int .i64 x] w (IntsRet w (leL c x)) := (les_any c x w hok).mono fun _ _ h => h.ret

set_option maxRecDepth 100000 in
set_option maxHeartbeats 4000000 in
theorem preds_in (c : Cd) (i k : Nat) (w : World) (hok : c.raw w) (hf : c.few) (hi : i < c.n) (hk : k < c.n) : Calls Try.prog 12 #[(Value.agg #[Value.int IntKind.i64 (Cd.st c), Value.int IntKind.i64 (Cd.lo c), Value.slice (Cd.iA c) (Cd.n c) (Cd.ic c), Value.slice (Cd.hA c) (Cd.hn c) (Cd.hc c), Value.slice (Cd.mA c) (Cd.mn c) (Cd.mc c), Value.slice (Cd.lA c) (Cd.ln c) (Cd.lc c)]), .int .i64 i, .int .i64 k] w fun e w' => e = .returned (.bool true) ∧ Below w.heap.size w w' := by
  have hB : Below w.heap.size w w := Below.refl _ _
  have OK := Lib.hid hok
  have OKK := Lib.hid (hok.ok hf)
  have HF := Lib.hid hf
  have hcn := hf.n
  have hi0 : (0 : Int) ≤ (i : Int) := by omega
  have hk0 : (0 : Int) ≤ (k : Int) := by omega
  have hi1 : (i : Int) < (c.n : Int) := by omega
  have hk1 : (k : Int) < (c.n : Int) := by omega
  have HPH := Lib.hid (pd_has hi hk)
  obtain ⟨b, hb⟩ : ∃ b, hasB (leL c i) k = b := ⟨_, rfl⟩
  have HB1 := Lib.hid (HPH.out.trans hb)
  have HB2 := Lib.hid hb
  have hll := leL_len OKK.out i
  have HLL := Lib.hid (show (leL c i).length ≤ 9223372036854775807 by omega)
  have hpl := pdR_len c k c.n
  clear hok hf hb hll HPH
  go_enter Try.func12, Try.ntmps12
  go_upto_region 1 with fail
  have R := World.alloc_heap_new w (.cells #[.int .i64 c.st, .int .i64 c.lo, .slice c.iA c.n c.ic, .slice c.hA c.hn c.hc, .slice c.mA c.mn c.mc, .slice c.lA c.ln c.lc] 50)
  replace hB := below_al hB (.cells #[.int .i64 c.st, .int .i64 c.lo, .slice c.iA c.n c.ic, .slice c.hA c.hn c.hc, .slice c.mA c.mn c.mc, .slice c.lA c.ln c.lc] 50)
  generalize w.alloc (.cells #[.int .i64 c.st, .int .i64 c.lo, .slice c.iA c.n c.ic, .slice c.hA c.hn c.hc, .slice c.mA c.mn c.mc, .slice c.lA c.ln c.lc] 50) = W1 at R hB ⊢
  obtain ⟨r0, r1, r2, r3, r4, r5⟩ := six_cells R
  have y1 := lt_heap R
  replace R := Lib.hid R
  have OK1 := Lib.hid (OK.out.up hB)
  have HB := Lib.hid hB
  clear hB
  go_upto_region 3 with (go_at_call 30; (with_reducible refine (few_yes c _ OK1.out HF.out).mono ?_); rintro e w2 ⟨rfl, hb2⟩; have RB2 := Lib.hid ((hb2.block _ y1).trans R.out); have HB2w := Lib.hid (below_on HB.out hb2); clear hb2; clear r0 r1 r2 r3 r4 r5; obtain ⟨r0, r1, r2, r3, r4, r5⟩ := six_cells RB2.out; have yr := lt_heap RB2.out)
  have OK2 := Lib.hid (OKK.out.up HB2w.out)
  go_upto_region 4 with (go_at_call 39; (with_reducible refine (pd_any c _ OK2.out HF.out).mono ?_); rintro e w3 ⟨W, vs, rfl, hp, hbW⟩)
  have hb3 : Below w2.heap.size w2 w3 := below_on hbW hp.bel
  obtain ⟨v0, hv0⟩ := get_someF (l := vs) (k := k) (by have := hp.vl; omega)
  have hown0 := hp.own k v0 (pdR c k c.n) hv0 (by rw [pdJ_at hk, if_neg (by simp), List.append_nil])
  obtain ⟨q0, hq0⟩ : ∃ q0, (pdR c k c.n).length = q0 := ⟨_, rfl⟩
  have HQ0 := Lib.hid hq0
  rw [hq0] at hown0 hpl
  obtain ⟨A0, c0, rfl, hc0a, hc0b, _⟩ := own_form hown0
  have HR0 := Lib.hid (Row.of_own hown0).1
  have hcell0 : w3.cell? ⟨W.heap.size, k, none⟩ = some (.slice A0 q0 c0) := by rw [hp.out.cellAt k (by omega), hv0]
  have hg : W.heap.size < w3.heap.size := (hp.out.lt W.heap.size rfl).2
  have RB3 := Lib.hid ((hb3.block _ yr).trans RB2.out)
  have HB3 := Lib.hid (below_on HB2w.out hb3)
  have OK3 := Lib.hid (OKK.out.up HB3.out)
  have hqb : q0 ≤ 9223372036854775807 := by omega
  clear hp hbW hb3 hv0 hown0 r0 r1 r2 r3 r4 r5 yr RB2 OK2 HB2w hq0 OK1 R y1
  generalize W.heap.size = g at hcell0 hg ⊢
  obtain ⟨r0, r1, r2, r3, r4, r5⟩ := six_cells RB3.out
  have yr := lt_heap RB3.out
  have hd1 : ((c.n : Int) == (c.n : Int)) = true := by simp
  have hd2 : decide ((c.n : Int) = (c.n : Int)) = true := by simp
  first | (go_region_held3 (fun w' => w'.cell? ⟨w.heap.size, 0, none⟩ = some (.int .i64 c.st) ∧ w'.cell? ⟨w.heap.size, 1, none⟩ = some (.int .i64 c.lo) ∧ w'.cell? ⟨w.heap.size, 2, none⟩ = some (.slice c.iA c.n c.ic) ∧ w'.cell? ⟨w.heap.size, 3, none⟩ = some (.slice c.hA c.hn c.hc) ∧ w'.cell? ⟨w.heap.size, 4, none⟩ = some (.slice c.mA c.mn c.mc) ∧ w'.cell? ⟨w.heap.size, 5, none⟩ = some (.slice c.lA c.ln c.lc) ∧ w'.cell? ⟨g, k, none⟩ = some (.slice A0 q0 c0) ∧ g < w'.heap.size ∧ w.heap.size < w'.heap.size ∧ Below w3.heap.size w3 w') (((try go_split_ands); (repeat' apply And.intro) <;> (first | assumption | exact (Below.refl _ _).drew | (first | exact below_on (w := w3) (by assumption) hq | exact Below.drew (by assumption) | assumption) | exact (Below.cell hq (by first | omega | (simp; omega))).trans (by assumption) | (have := hq.size; omega) | (simp; omega) | go_keep)))
    (first | (go_at_call 31; (with_reducible refine (awake19_any _).mono ?_); rintro e w5 ⟨rfl, hq⟩) | (go_at_call 46; (with_reducible refine (les_r c i _ (OK3.out.up (by first | assumption | (go_split_ands; assumption)))).mono ?_); rintro e w6 ⟨A1, c1, rfl, _, _, _, hr1, hq⟩; have HR1 := Lib.hid hr1; clear hr1) | (go_at_call 45; (with_reducible refine (has_is (HR0.out.up (by first | assumption | (go_split_ands; assumption))) HQ0.out hqb HB1.out).mono ?_); rintro e w7 ⟨rfl, hq⟩) | (go_at_call 45; (with_reducible refine (has_is HR1.out rfl HLL.out HB2.out).mono ?_); rintro e w8 ⟨rfl, hq⟩))) | fail
  all_goals
    go_split_ands
    have hend : Below w3.heap.size w3 w8 := by assumption
    go_wp2
    go_ret
    exact ⟨rfl, below_on HB3.out hend⟩
set_option maxRecDepth 100000 in
set_option maxHeartbeats 4000000 in
theorem preds_law (c : Cd) (i k : Int) (w : World) (hok : c.raw w) : Calls Try.prog 12 #[(Value.agg #[Value.int IntKind.i64 (Cd.st c), Value.int IntKind.i64 (Cd.lo c), Value.slice (Cd.iA c) (Cd.n c) (Cd.ic c), Value.slice (Cd.hA c) (Cd.hn c) (Cd.hc c), Value.slice (Cd.mA c) (Cd.mn c) (Cd.mc c), Value.slice (Cd.lA c) (Cd.ln c) (Cd.lc c)]), .int .i64 i, .int .i64 k] w fun e w' => e = .returned (.bool true) ∧ Below w.heap.size w w' := by
  by_cases hf : c.few
  · by_cases hin : 0 ≤ i ∧ 0 ≤ k ∧ i < c.n ∧ k < c.n
    · obtain ⟨h1, h2, h3, h4⟩ := hin
      obtain ⟨i, rfl⟩ := Int.eq_ofNat_of_zero_le h1
      obtain ⟨k, rfl⟩ := Int.eq_ofNat_of_zero_le h2
      exact preds_in c i k w hok hf (by omega) (by omega)
    · have hB : Below w.heap.size w w := Below.refl _ _
      have OK := Lib.hid hok
      have HF := Lib.hid hf
      have HIN := Lib.hid hin
      clear hok hf hin
      go_enter Try.func12, Try.ntmps12
      go_upto_region 1 with fail
      have R := World.alloc_heap_new w (.cells #[.int .i64 c.st, .int .i64 c.lo, .slice c.iA c.n c.ic, .slice c.hA c.hn c.hc, .slice c.mA c.mn c.mc, .slice c.lA c.ln c.lc] 50)
      replace hB := below_al hB (.cells #[.int .i64 c.st, .int .i64 c.lo, .slice c.iA c.n c.ic, .slice c.hA c.hn c.hc, .slice c.mA c.mn c.mc, .slice c.lA c.ln c.lc] 50)
      generalize w.alloc (.cells #[.int .i64 c.st, .int .i64 c.lo, .slice c.iA c.n c.ic, .slice c.hA c.hn c.hc, .slice c.mA c.mn c.mc, .slice c.lA c.ln c.lc] 50) = W1 at R hB ⊢
      obtain ⟨r0, r1, r2, r3, r4, r5⟩ := six_cells R
      have y1 := lt_heap R
      replace R := Lib.hid R
      have OK1 := Lib.hid (OK.out.up hB)
      have HB := Lib.hid hB
      clear hB
      go_wp2_with (first | (go_at_call 30; (with_reducible refine (few_yes c _ OK1.out HF.out).mono ?_); rintro e w2 ⟨rfl, hb2⟩; have RB2 := Lib.hid ((hb2.block _ y1).trans R.out); have HB2w := Lib.hid (below_on HB.out hb2); clear hb2; clear r0 r1 r2 r3 r4 r5; obtain ⟨r0, r1, r2, r3, r4, r5⟩ := six_cells RB2.out; have yr := lt_heap RB2.out) | (go_at_call 31; (with_reducible refine (awake19_any _).mono ?_); rintro e w3 ⟨rfl, hb3⟩))
      all_goals first | (exfalso; have hin := HIN.out; omega) | (go_ret; exact ⟨rfl, below_on HB2w.out hb3⟩)
  · have hB : Below w.heap.size w w := Below.refl _ _
    have OK := Lib.hid hok
    have HF := Lib.hid hf
    clear hf hok
    go_enter Try.func12, Try.ntmps12
    go_upto_region 1 with fail
    have R := World.alloc_heap_new w (.cells #[.int .i64 c.st, .int .i64 c.lo, .slice c.iA c.n c.ic, .slice c.hA c.hn c.hc, .slice c.mA c.mn c.mc, .slice c.lA c.ln c.lc] 50)
    replace hB := below_al hB (.cells #[.int .i64 c.st, .int .i64 c.lo, .slice c.iA c.n c.ic, .slice c.hA c.hn c.hc, .slice c.mA c.mn c.mc, .slice c.lA c.ln c.lc] 50)
    generalize w.alloc (.cells #[.int .i64 c.st, .int .i64 c.lo, .slice c.iA c.n c.ic, .slice c.hA c.hn c.hc, .slice c.mA c.mn c.mc, .slice c.lA c.ln c.lc] 50) = W1 at R hB ⊢
    obtain ⟨r0, r1, r2, r3, r4, r5⟩ := six_cells R
    have y1 := lt_heap R
    replace R := Lib.hid R
    have OK1 := Lib.hid (OK.out.up hB)
    have HB := Lib.hid hB
    clear hB
    go_wp2_with (first | (go_at_call 30; (with_reducible refine (few_no c _ OK1.out HF.out).mono ?_); rintro e w2 ⟨rfl, hb2⟩) | (go_at_call 31; (with_reducible refine (awake19_any _).mono ?_); rintro e w3 ⟨rfl, hb3⟩))
    go_ret
    exact ⟨rfl, below_on HB.out (below_on hb2 hb3)⟩

end Go.Proofs.Ytpghkdmljanncaa
