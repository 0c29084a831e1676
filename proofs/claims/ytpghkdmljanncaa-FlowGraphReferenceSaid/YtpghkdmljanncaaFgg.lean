/- Layer 19: the law on the graph (written by gen/fgg.py). -/
import Derived.Test.YtpghkdmljanncaaFgf
import Derived.Test.YtpghkdmljanncaaFgb
import Derived.Test.YtpghkdmljanncaaFae
namespace Go.Proofs.Ytpghkdmljanncaa
open Go.ChangeShapes Go.WideShapes Go.ChangeAt Go.RowKit Go.PlainAid
set_option linter.unusedSimpArgs false
set_option linter.unusedVariables false

set_option maxRecDepth 100000 in
theorem arr_neq (x y : Int) (w : World) : (binOp .neq 61 (.agg #[.int .i64 x, .int .i64 y]) (.agg #[.int .i64 x, .int .i64 y])).run Try.prog w = .ok (.bool false) w := by
  rw [run_neq_struct]
  unfold Op.equalIn
  have hA : ∀ w, Sem.run Try.prog (isAgg 3) w = .ok false w := fun w => by kernel_rfl
  have hE : ∀ (z : Int) w, Sem.run Try.prog (Op.equalIn 9999 3 (.int .i64 z) (.int .i64 z)) w = .ok true w := fun z w => by
    rw [run_equalIn_int w 9998 _ _ _ _ _ Try.underlying3]
    simp
  simp [go_sem, show List.range' 0 2 = [0, 1] from rfl, hA, hE]
def PrRet (w : World) (m : Nat) (L : List (Int × Int)) (e : Ending) (w' : World) : Prop := ∃ A cc, e = .returned (.slice A m cc) ∧ PRow w' w'.heap.size A L ∧ Below w.heap.size w w'
theorem PairsOwn.pr {w w' : World} {L : List (Int × Int)} {e : Ending} (h : PairsOwn w L e w') : PrRet w L.length L e w' := by
  obtain ⟨v, he, ho, hb⟩ := h
  obtain ⟨A, cc, rfl, _, _, _⟩ := own_form ho
  exact ⟨A, cc, he, prs_own ho rfl, hb⟩
theorem be_r (c : Cd) {w : World} (hok : c.ok w) (hf : c.few) {L : List (Int × Int)} {m : Nat} (hL : beK c c.n = L) (hm : L.length = m) : Calls Try.prog 41 #[(Value.agg #[Value.int IntKind.i64 (Cd.st c), Value.int IntKind.i64 (Cd.lo c), Value.slice (Cd.iA c) (Cd.n c) (Cd.ic c), Value.slice (Cd.hA c) (Cd.hn c) (Cd.hc c), Value.slice (Cd.mA c) (Cd.mn c) (Cd.mc c), Value.slice (Cd.lA c) (Cd.ln c) (Cd.lc c)])] w (PrRet w m L) := by
  subst hL hm
  exact (be_any c w hok hf).mono fun _ _ h => h.pr
theorem rbe_r (c : Cd) {w : World} (hok : c.ok w) (hf : c.few) {L : List (Int × Int)} {m : Nat} (hL : beK c c.n = L) (hm : L.length = m) : Calls Try.prog 42 #[(Value.agg #[Value.int IntKind.i64 (Cd.st c), Value.int IntKind.i64 (Cd.lo c), Value.slice (Cd.iA c) (Cd.n c) (Cd.ic c), Value.slice (Cd.hA c) (Cd.hn c) (Cd.hc c), Value.slice (Cd.mA c) (Cd.mn c) (Cd.mc c), Value.slice (Cd.lA c) (Cd.ln c) (Cd.lc c)])] w (PrRet w m L) := by
  subst hL hm
  exact (rbe_any c w hok hf).mono fun _ _ h => h.pr
theorem ds_r (c : Cd) {w : World} (hok : c.ok w) (hf : c.few) {D : List Int} {m : Nat} (hL : distL c = D) (hm : D.length = m) : Calls Try.prog 43 #[(Value.agg #[Value.int IntKind.i64 (Cd.st c), Value.int IntKind.i64 (Cd.lo c), Value.slice (Cd.iA c) (Cd.n c) (Cd.ic c), Value.slice (Cd.hA c) (Cd.hn c) (Cd.hc c), Value.slice (Cd.mA c) (Cd.mn c) (Cd.mc c), Value.slice (Cd.lA c) (Cd.ln c) (Cd.lc c)])] w (IntsRet w D) := by
  subst hL
  exact (ds_any c w hok hf).mono fun _ _ h => h.ret
theorem rds_r (c : Cd) {w : World} (hok : c.ok w) (hf : c.few) {D : List Int} {m : Nat} (hL : distL c = D) (hm : D.length = m) : Calls Try.prog 44 #[(Value.agg #[Value.int IntKind.i64 (Cd.st c), Value.int IntKind.i64 (Cd.lo c), Value.slice (Cd.iA c) (Cd.n c) (Cd.ic c), Value.slice (Cd.hA c) (Cd.hn c) (Cd.hc c), Value.slice (Cd.mA c) (Cd.mn c) (Cd.mc c), Value.slice (Cd.lA c) (Cd.ln c) (Cd.lc c)])] w (IntsRet w D) := by
  subst hL
  exact (rds_any c w hok hf).mono fun _ _ h => h.ret
set_option maxRecDepth 100000 in
set_option maxHeartbeats 4000000 in
theorem graph_in (c : Cd) (w : World) (hok : c.raw w) (hf : c.few) : Calls Try.prog 11 #[(Value.agg #[Value.int IntKind.i64 (Cd.st c), Value.int IntKind.i64 (Cd.lo c), Value.slice (Cd.iA c) (Cd.n c) (Cd.ic c), Value.slice (Cd.hA c) (Cd.hn c) (Cd.hc c), Value.slice (Cd.mA c) (Cd.mn c) (Cd.mc c), Value.slice (Cd.lA c) (Cd.ln c) (Cd.lc c)])] w fun e w' => e = .returned (.bool true) ∧ Below w.heap.size w w' := by
  have hB : Below w.heap.size w w := Below.refl _ _
  have OK := Lib.hid hok
  have OKK := Lib.hid (hok.ok hf)
  have HF := Lib.hid hf
  have hcn := hf.n
  obtain ⟨L, hL⟩ : ∃ L, beK c c.n = L := ⟨_, rfl⟩
  have HL := Lib.hid hL
  obtain ⟨m, hm⟩ : ∃ m, L.length = m := ⟨_, rfl⟩
  have HM := Lib.hid hm
  have hmb : m ≤ 102 * c.n := by have := beK_len OKK.out hf c.n; rw [hL, hm] at this; exact this
  obtain ⟨D, hD⟩ : ∃ D, distL c = D := ⟨_, rfl⟩
  have HD := Lib.hid hD
  have HDL := Lib.hid (show D.length = c.n by rw [← hD]; exact distL_len c)
  have hdb : D.length ≤ 9223372036854775807 := by have := HDL.out; omega
  have HDB := Lib.hid hdb
  have HRL := Lib.hid (show (reL c).length = c.n by unfold reL; rw [List.length_map, distL_len])
  clear hok hf hL hm hD hdb
  go_enter Try.func11, Try.ntmps11
  go_upto_region 1 with fail
  have R := World.alloc_heap_new w (.cells #[.int .i64 c.st, .int .i64 c.lo, .slice c.iA c.n c.ic, .slice c.hA c.hn c.hc, .slice c.mA c.mn c.mc, .slice c.lA c.ln c.lc] 50)
  replace hB := below_al hB (.cells #[.int .i64 c.st, .int .i64 c.lo, .slice c.iA c.n c.ic, .slice c.hA c.hn c.hc, .slice c.mA c.mn c.mc, .slice c.lA c.ln c.lc] 50)
  generalize w.alloc (.cells #[.int .i64 c.st, .int .i64 c.lo, .slice c.iA c.n c.ic, .slice c.hA c.hn c.hc, .slice c.mA c.mn c.mc, .slice c.lA c.ln c.lc] 50) = W1 at R hB ⊢
  obtain ⟨r0, r1, r2, r3, r4, r5⟩ := six_cells R
  have y1 := lt_heap R
  replace R := Lib.hid R
  have OK0 := Lib.hid (OK.out.up hB)
  have HB0 := Lib.hid hB
  have RB0 := Lib.hid R.out
  have yr := y1
  clear hB R y1
  go_upto_region 3 with (go_at_call 30; (with_reducible refine (few_yes c _ OK0.out HF.out).mono ?_); rintro e w2 ⟨rfl, hend⟩)
  have RB1 := Lib.hid ((hend.block _ yr).trans RB0.out)
  have HB1 := Lib.hid (below_on HB0.out hend)
  have OK1 := Lib.hid (OKK.out.up HB1.out)
  clear hend r0 r1 r2 r3 r4 r5 yr RB0 OK0 HB0
  obtain ⟨r0, r1, r2, r3, r4, r5⟩ := six_cells RB1.out
  have yr := lt_heap RB1.out
  generalize hw2 : w2 = wA at RB1 HB1 OK1 r0 r1 r2 r3 r4 r5 yr ⊢
  clear hw2 w2
  go_region_held3 (fun w' => w'.cell? ⟨w.heap.size, 0, none⟩ = some (.int .i64 c.st) ∧ w'.cell? ⟨w.heap.size, 1, none⟩ = some (.int .i64 c.lo) ∧ w'.cell? ⟨w.heap.size, 2, none⟩ = some (.slice c.iA c.n c.ic) ∧ w'.cell? ⟨w.heap.size, 3, none⟩ = some (.slice c.hA c.hn c.hc) ∧ w'.cell? ⟨w.heap.size, 4, none⟩ = some (.slice c.mA c.mn c.mc) ∧ w'.cell? ⟨w.heap.size, 5, none⟩ = some (.slice c.lA c.ln c.lc) ∧ w.heap.size < w'.heap.size ∧ Below wA.heap.size wA w') (((try go_split_ands); (repeat' apply And.intro) <;> (first | assumption | exact (Below.refl _ _).drew | (first | exact below_on (w := wA) (by assumption) hq | exact Below.drew (by assumption) | assumption) | exact (Below.cell hq (by first | omega | (simp; omega))).trans (by assumption) | (have := hq.size; omega) | (simp; omega) | go_keep)))
    (first | (go_at_call 37; (with_reducible refine (re_any c _ (OK1.out.up (by first | assumption | (go_split_ands; assumption))) HF.out).mono ?_); rintro e w2 ⟨WA, rfl, hm, hq1⟩; have hq := below_on hq1 hm.bel; have HA := Lib.hid hm; clear hm hq1) | (go_at_call 38; (with_reducible refine (rre_any c _ (OK1.out.up (by first | assumption | (go_split_ands; assumption))) HF.out).mono ?_); rintro e w2 ⟨WB, rfl, hm, hq1⟩; have hq := below_on hq1 hm.bel; replace HA := Lib.hid (HA.out.up hq); have HBb := Lib.hid hm; clear hm hq1))
  go_split_ands
  have hend : Below wA.heap.size wA w2 := by assumption
  have RB2 := Lib.hid ((hend.block _ yr).trans RB1.out)
  have HB2 := Lib.hid (below_on HB1.out hend)
  have OK2 := Lib.hid (OKK.out.up HB2.out)
  go_upto_region 4 with fail
  clear hend hq r0 r1 r2 r3 r4 r5 yr RB1 OK1 HB1
  generalize hw2 : w2 = wB at RB2 HB2 OK2 HA HBb ⊢
  clear hw2
  obtain ⟨r0, r1, r2, r3, r4, r5⟩ := six_cells RB2.out
  have yr := lt_heap RB2.out
  go_region_held3 (fun w' => w'.cell? ⟨w.heap.size, 0, none⟩ = some (.int .i64 c.st) ∧ w'.cell? ⟨w.heap.size, 1, none⟩ = some (.int .i64 c.lo) ∧ w'.cell? ⟨w.heap.size, 2, none⟩ = some (.slice c.iA c.n c.ic) ∧ w'.cell? ⟨w.heap.size, 3, none⟩ = some (.slice c.hA c.hn c.hc) ∧ w'.cell? ⟨w.heap.size, 4, none⟩ = some (.slice c.mA c.mn c.mc) ∧ w'.cell? ⟨w.heap.size, 5, none⟩ = some (.slice c.lA c.ln c.lc) ∧ w.heap.size < w'.heap.size ∧ Below wB.heap.size wB w') (((try go_split_ands); (repeat' apply And.intro) <;> (first | assumption | exact (Below.refl _ _).drew | (first | exact below_on (w := wB) (by assumption) hq | exact Below.drew (by assumption) | assumption) | exact (Below.cell hq (by first | omega | (simp; omega))).trans (by assumption) | (have := hq.size; omega) | (simp; omega) | go_keep)))
    (first | (go_at_call 39; (with_reducible refine (pd_any c _ (OK2.out.up (by first | assumption | (go_split_ands; assumption))) HF.out).mono ?_); rintro e w2 ⟨WX, vx, rfl, hm, hq1⟩; have hq := below_on hq1 hm.bel; have HX := Lib.hid hm; clear hm hq1) | (go_at_call 40; (with_reducible refine (rpd_any c _ (OK2.out.up (by first | assumption | (go_split_ands; assumption))) HF.out).mono ?_); rintro e w2 ⟨WY, vy, rfl, hm, hq1⟩; have hq := below_on hq1 hm.bel; replace HX := Lib.hid (HX.out.up hq); have HY := Lib.hid hm; clear hm hq1))
  go_split_ands
  have hend : Below wB.heap.size wB w2 := by assumption
  have RB3 := Lib.hid ((hend.block _ yr).trans RB2.out)
  have HB3 := Lib.hid (below_on HB2.out hend)
  have OK3 := Lib.hid (OKK.out.up HB3.out)
  replace HA := Lib.hid (HA.out.up hend)
  replace HBb := Lib.hid (HBb.out.up hend)
  go_upto_region 5 with fail
  clear hend hq r0 r1 r2 r3 r4 r5 yr RB2 OK2 HB2
  generalize hw2 : w2 = wC at RB3 HB3 OK3 HA HBb HX HY ⊢
  clear hw2
  obtain ⟨r0, r1, r2, r3, r4, r5⟩ := six_cells RB3.out
  have yr := lt_heap RB3.out
  go_region_held3 (fun w' => w'.cell? ⟨w.heap.size, 0, none⟩ = some (.int .i64 c.st) ∧ w'.cell? ⟨w.heap.size, 1, none⟩ = some (.int .i64 c.lo) ∧ w'.cell? ⟨w.heap.size, 2, none⟩ = some (.slice c.iA c.n c.ic) ∧ w'.cell? ⟨w.heap.size, 3, none⟩ = some (.slice c.hA c.hn c.hc) ∧ w'.cell? ⟨w.heap.size, 4, none⟩ = some (.slice c.mA c.mn c.mc) ∧ w'.cell? ⟨w.heap.size, 5, none⟩ = some (.slice c.lA c.ln c.lc) ∧ w.heap.size < w'.heap.size ∧ Below wC.heap.size wC w') (((try go_split_ands); (repeat' apply And.intro) <;> (first | assumption | exact (Below.refl _ _).drew | (first | exact below_on (w := wC) (by assumption) hq | exact Below.drew (by assumption) | assumption) | exact (Below.cell hq (by first | omega | (simp; omega))).trans (by assumption) | (have := hq.size; omega) | (simp; omega) | go_keep)))
    (first | (go_at_call 41; (with_reducible refine (be_r c (OK3.out.up (by first | assumption | (go_split_ands; assumption))) HF.out HL.out HM.out).mono ?_); rintro e w2 ⟨Ap, cp, rfl, hm, hq⟩; have HPp := Lib.hid hm; clear hm) | (go_at_call 42; (with_reducible refine (rbe_r c (OK3.out.up (by first | assumption | (go_split_ands; assumption))) HF.out HL.out HM.out).mono ?_); rintro e w2 ⟨Aq, cq, rfl, hm, hq⟩; replace HPp := Lib.hid (HPp.out.up hq); have HQq := Lib.hid hm; clear hm))
  go_split_ands
  have hend : Below wC.heap.size wC w2 := by assumption
  have RB4 := Lib.hid ((hend.block _ yr).trans RB3.out)
  have HB4 := Lib.hid (below_on HB3.out hend)
  have OK4 := Lib.hid (OKK.out.up HB4.out)
  replace HA := Lib.hid (HA.out.up hend)
  replace HBb := Lib.hid (HBb.out.up hend)
  replace HX := Lib.hid (HX.out.up hend)
  replace HY := Lib.hid (HY.out.up hend)
  go_upto_region 6 with fail
  clear hend hq r0 r1 r2 r3 r4 r5 yr RB3 OK3 HB3
  generalize hw2 : w2 = wD at RB4 HB4 OK4 HA HBb HX HY HPp HQq ⊢
  clear hw2
  obtain ⟨r0, r1, r2, r3, r4, r5⟩ := six_cells RB4.out
  have yr := lt_heap RB4.out
  have hd1 : ((c.n : Int) == (c.n : Int)) = true := by simp
  have hd2 : ((m : Int) == (m : Int)) = true := by simp
  go_region_held3 (fun w' => w'.cell? ⟨w.heap.size, 0, none⟩ = some (.int .i64 c.st) ∧ w'.cell? ⟨w.heap.size, 1, none⟩ = some (.int .i64 c.lo) ∧ w'.cell? ⟨w.heap.size, 2, none⟩ = some (.slice c.iA c.n c.ic) ∧ w'.cell? ⟨w.heap.size, 3, none⟩ = some (.slice c.hA c.hn c.hc) ∧ w'.cell? ⟨w.heap.size, 4, none⟩ = some (.slice c.mA c.mn c.mc) ∧ w'.cell? ⟨w.heap.size, 5, none⟩ = some (.slice c.lA c.ln c.lc) ∧ w.heap.size < w'.heap.size ∧ Below wD.heap.size wD w') (((try go_split_ands); (repeat' apply And.intro) <;> (first | assumption | exact (Below.refl _ _).drew | (first | exact below_on (w := wD) (by assumption) hq | exact Below.drew (by assumption) | assumption) | exact (Below.cell hq (by first | omega | (simp; omega))).trans (by assumption) | (have := hq.size; omega) | (simp; omega) | go_keep)))
    (first | (go_at_call 43; (with_reducible refine (ds_r c (OK4.out.up (by first | assumption | (go_split_ands; assumption))) HF.out HD.out HDL.out).mono ?_); rintro e w2 ⟨A1, c1, rfl, _, _, _, hm, hq⟩; have HD1 := Lib.hid hm; clear hm) | (go_at_call 44; (with_reducible refine (rds_r c (OK4.out.up (by first | assumption | (go_split_ands; assumption))) HF.out HD.out HDL.out).mono ?_); rintro e w2 ⟨A2, c2, rfl, _, _, _, hm, hq⟩; replace HD1 := Lib.hid (HD1.out.up hq); have HD2 := Lib.hid hm; clear hm) | (go_at_call 32; (with_reducible refine (ints19_b HD1.out HD2.out rfl HDB.out).mono ?_); rintro e w2 ⟨rfl, hq⟩; skip))
  go_split_ands
  have hend : Below wD.heap.size wD w2 := by assumption
  have HB5 := Lib.hid (below_on HB4.out hend)
  replace HA := Lib.hid (HA.out.up hend)
  replace HBb := Lib.hid (HBb.out.up hend)
  replace HX := Lib.hid (HX.out.up hend)
  replace HY := Lib.hid (HY.out.up hend)
  replace HPp := Lib.hid (HPp.out.up hend)
  replace HQq := Lib.hid (HQq.out.up hend)
  go_upto_region 8 with fail
  clear hend hq r0 r1 r2 r3 r4 r5 yr RB4 OK4 HB4
  generalize hw2 : w2 = wE at HB5 HA HBb HX HY HPp HQq ⊢
  clear hw2
  go_wp2
  go_loopw [9] (fun z wr => ∃ k : Nat, k ≤ c.n ∧ z = .int .i64 k ∧ Below wE.heap.size wE wr) (fun z _ => c.n - (intOf z).toNat)
  case atStart => exact ⟨0, Nat.zero_le _, rfl, Below.refl _ _⟩
  case round =>
    obtain ⟨k, hk, rfl, hbr⟩ := hrel
    have HBR := Lib.hid hbr
    have hA := HA.out.up hbr
    have hBb := HBb.out.up hbr
    have hX := HX.out.up hbr
    have hY := HY.out.up hbr
    clear hbr
    by_cases hlt : k < c.n
    · obtain ⟨b, hb⟩ := get_someF (l := reL c) (k := k) (by rw [HRL.out]; exact hlt)
      have ca := hA.cell hb
      have cb := hBb.cell hb
      have za := hA.sz
      have zb := hBb.sz
      obtain ⟨x0, hx0⟩ := get_someF (l := vx) (k := k) (by have := hX.vl; omega)
      have hxo := hX.own k x0 (pdR c k c.n) hx0 (by rw [pdJ_at hlt, if_neg (by simp), List.append_nil])
      obtain ⟨y0, hy0⟩ := get_someF (l := vy) (k := k) (by have := hY.vl; omega)
      have hyo := hY.own k y0 (pdR c k c.n) hy0 (by rw [pdJ_at hlt, if_neg (by simp), List.append_nil])
      have hpl := pdR_len c k c.n
      obtain ⟨q0, hq0⟩ : ∃ q0, (pdR c k c.n).length = q0 := ⟨_, rfl⟩
      have HQ0 := Lib.hid hq0
      rw [hq0] at hxo hyo hpl
      obtain ⟨X0, cx0, rfl, _, _, _⟩ := own_form hxo
      obtain ⟨Y0, cy0, rfl, _, _, _⟩ := own_form hyo
      have HRX := Lib.hid (Row.of_own hxo).1
      have HRY := Lib.hid (Row.of_own hyo).1
      have cx : wr.cell? ⟨WX.heap.size, k, none⟩ = some (.slice X0 q0 cx0) := by rw [hX.out.cellAt k (by omega), hx0]
      have cy : wr.cell? ⟨WY.heap.size, k, none⟩ = some (.slice Y0 q0 cy0) := by rw [hY.out.cellAt k (by omega), hy0]
      have zx : WX.heap.size < wr.heap.size := (hX.out.lt WX.heap.size rfl).2
      have zy : WY.heap.size < wr.heap.size := (hY.out.lt WY.heap.size rfl).2
      have hqb : q0 ≤ 9223372036854775807 := by omega
      have hk0 : (0 : Int) ≤ (k : Int) := by omega
      have hk1 : (k : Int) < (c.n : Int) := by omega
      clear hb hA hBb hX hY hx0 hy0 hxo hyo hq0
      go_wp2
      cases b with
      | false =>
        go_region_held3 (fun w' => w'.cell? ⟨WA.heap.size, k, none⟩ = some (.bool false) ∧ w'.cell? ⟨WB.heap.size, k, none⟩ = some (.bool false) ∧ w'.cell? ⟨WX.heap.size, k, none⟩ = some (.slice X0 q0 cx0) ∧ w'.cell? ⟨WY.heap.size, k, none⟩ = some (.slice Y0 q0 cy0) ∧ WA.heap.size < w'.heap.size ∧ WB.heap.size < w'.heap.size ∧ WX.heap.size < w'.heap.size ∧ WY.heap.size < w'.heap.size ∧ Below wr.heap.size wr w') (((try go_split_ands); (repeat' apply And.intro) <;> (first | assumption | exact (Below.refl _ _).drew | (first | exact below_on (w := wr) (by assumption) hq | exact Below.drew (by assumption) | assumption) | exact (Below.cell hq (by first | omega | (simp; omega))).trans (by assumption) | (have := hq.size; omega) | (simp; omega) | go_keep)))
          (first | (go_at_call 32; (with_reducible refine (ints19_b (HRX.out.up (by first | assumption | (go_split_ands; assumption))) (HRY.out.up (by first | assumption | (go_split_ands; assumption))) HQ0.out hqb).mono ?_); rintro e w2 ⟨rfl, hq⟩))
        go_split_ands
        have hend : Below wr.heap.size wr w2 := by assumption
        go_wp2
        exact ⟨⟨k + 1, hlt, by go_num, below_on HBR.out hend⟩, by simp [intOf]; omega⟩
      | true =>
        go_region_held3 (fun w' => w'.cell? ⟨WA.heap.size, k, none⟩ = some (.bool true) ∧ w'.cell? ⟨WB.heap.size, k, none⟩ = some (.bool true) ∧ w'.cell? ⟨WX.heap.size, k, none⟩ = some (.slice X0 q0 cx0) ∧ w'.cell? ⟨WY.heap.size, k, none⟩ = some (.slice Y0 q0 cy0) ∧ WA.heap.size < w'.heap.size ∧ WB.heap.size < w'.heap.size ∧ WX.heap.size < w'.heap.size ∧ WY.heap.size < w'.heap.size ∧ Below wr.heap.size wr w') (((try go_split_ands); (repeat' apply And.intro) <;> (first | assumption | exact (Below.refl _ _).drew | (first | exact below_on (w := wr) (by assumption) hq | exact Below.drew (by assumption) | assumption) | exact (Below.cell hq (by first | omega | (simp; omega))).trans (by assumption) | (have := hq.size; omega) | (simp; omega) | go_keep)))
          (first | (go_at_call 32; (with_reducible refine (ints19_b (HRX.out.up (by first | assumption | (go_split_ands; assumption))) (HRY.out.up (by first | assumption | (go_split_ands; assumption))) HQ0.out hqb).mono ?_); rintro e w2 ⟨rfl, hq⟩))
        go_split_ands
        have hend : Below wr.heap.size wr w2 := by assumption
        go_wp2
        exact ⟨⟨k + 1, hlt, by go_num, below_on HBR.out hend⟩, by simp [intOf]; omega⟩
    · obtain ⟨hkn⟩ : c.n = k := by omega
      have hP := HPp.out.up HBR.out
      have hQ := HQq.out.up HBR.out
      have HPq := Lib.hid hP
      have HQr := Lib.hid hQ
      clear hA hBb hX hY hP hQ
      go_wp2
      obtain ⟨wF, hwF⟩ : ∃ wF, wr = wF := ⟨_, rfl⟩
      rw [hwF] at HPq HQr HBR ⊢
      clear hwF
      go_loopw [10] (fun z wr => ∃ k : Nat, k ≤ m ∧ z = .int .i64 k ∧ Below wF.heap.size wF wr) (fun z _ => m - (intOf z).toNat)
      case atStart => exact ⟨0, Nat.zero_le _, rfl, Below.refl _ _⟩
      case round =>
        obtain ⟨j, hj, rfl, hbr⟩ := hrel
        have HBX := Lib.hid hbr
        have hP := HPq.out.up hbr
        have hQ := HQr.out.up hbr
        clear hbr
        by_cases hjt : j < m
        · obtain ⟨p, hp⟩ := get_someF (l := L) (k := j) (by rw [HM.out]; exact hjt)
          rcases hP with h0 | ⟨gp, rfl, hgp, hcp⟩
          · rw [h0] at hp; simp at hp
          · rcases hQ with h0 | ⟨gq, rfl, hgq, hcq⟩
            · rw [h0] at hp; simp at hp
            · obtain ⟨p0, p1⟩ := hcp j p hp
              obtain ⟨q0, q1⟩ := hcq j p hp
              have hj0 : (0 : Int) ≤ (j : Int) := by omega
              have hj1 : (j : Int) < (m : Int) := by omega
              have hne := fun w => arr_neq p.1 p.2 w
              clear hcp hcq hp
              go_wp2
              go_region_held3 (fun w' => w'.cell? ⟨gp, j * 2, none⟩ = some (.int .i64 p.1) ∧ w'.cell? ⟨gp, j * 2 + 1, none⟩ = some (.int .i64 p.2) ∧ w'.cell? ⟨gq, j * 2, none⟩ = some (.int .i64 p.1) ∧ w'.cell? ⟨gq, j * 2 + 1, none⟩ = some (.int .i64 p.2) ∧ Below wr.heap.size wr w') (((try go_split_ands); (repeat' apply And.intro) <;> (first | assumption | exact (Below.refl _ _).drew | exact Below.drew (by assumption) | go_keep))) (fail)
              go_split_ands
              have hend : Below wr.heap.size wr wr.drew := (Below.refl _ _).drew
              go_wp2
              exact ⟨⟨j + 1, hjt, by go_num, below_on HBX.out hend⟩, by simp [intOf]; omega⟩
        · obtain ⟨hjm⟩ : m = j := by omega
          clear hP hQ
          go_wp2_with (go_at_call 31; (with_reducible refine (awake19_any _).mono ?_); rintro e w8 ⟨rfl, hb8⟩)
          go_ret
          exact ⟨rfl, below_on HB5.out (below_on HBR.out (below_on HBX.out hb8))⟩

end Go.Proofs.Ytpghkdmljanncaa
