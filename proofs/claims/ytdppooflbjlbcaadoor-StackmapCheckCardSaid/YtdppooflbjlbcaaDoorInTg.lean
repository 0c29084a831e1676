/- Layer 8: Targets, in the package and in its reference. -/
import Derived.Test.YtdppooflbjlbcaaDoorRow
namespace Go.Proofs.YtdppooflbjlbcaaDoor.I
open Go.ChangeShapes Go.WideShapes Go.ChangeAt Go.RowKit Go.PlainAid
set_option linter.unusedSimpArgs false
set_option linter.unusedVariables false

def tgL (i : In) : List Int := if brB i.op = true then i.t :: i.ts else []

set_option maxRecDepth 100000 in
set_option maxHeartbeats 2000000 in
theorem tg_any (i : In) (w : World) (hok : i.ok w w.heap.size) (hz : i.nz) (hs : i.tn ≤ 17592186043904) : Calls Tryd.prog 18 #[(Value.agg #[Value.int IntKind.i64 (In.op i), Value.int IntKind.i64 (In.a i), Value.int IntKind.i64 (In.b i), Value.int IntKind.i64 (In.t i), Value.slice (In.kA i) (In.kn i) (In.kc i), Value.slice (In.tA i) (In.tn i) (In.tc i), Value.string (In.r1 i), Value.string (In.r2 i), Value.string (In.r3 i), Value.string (In.s i)])] w (IntsRet w (tgL i)) := by
  have hB : Below w.heap.size w w := Below.refl _ _
  have OK := Lib.hid hok
  have HZ := Lib.hid hz
  clear hok hz
  cases hb : brB i.op with
  | false =>
    rw [show tgL i = [] by unfold tgL; rw [hb]; rfl]
    have HBR := Lib.hid hb
    clear hb
    go_enter Tryd.func18, Tryd.ntmps18
    go_upto_region 1 with fail
    have R := World.alloc_heap_new w (.cells #[.int .i64 i.op, .int .i64 i.a, .int .i64 i.b, .int .i64 i.t, .slice i.kA i.kn i.kc, .slice i.tA i.tn i.tc, .string i.r1, .string i.r2, .string i.r3, .string i.s] 43)
    replace hB := below_al hB (.cells #[.int .i64 i.op, .int .i64 i.a, .int .i64 i.b, .int .i64 i.t, .slice i.kA i.kn i.kc, .slice i.tA i.tn i.tc, .string i.r1, .string i.r2, .string i.r3, .string i.s] 43)
    generalize w.alloc (.cells #[.int .i64 i.op, .int .i64 i.a, .int .i64 i.b, .int .i64 i.t, .slice i.kA i.kn i.kc, .slice i.tA i.tn i.tc, .string i.r1, .string i.r2, .string i.r3, .string i.s] 43) = W1 at R hB ⊢
    obtain ⟨r0, r1, r2, r3, r4, r5, r6, r7, r8, r9⟩ := ten_cells R
    have y1 := lt_heap R
    replace R := Lib.hid R
    go_wp2_with (go_at_call 21; refine (br_any _ _).mono ?_; rintro e w' ⟨rfl, rfl⟩; rw [HBR.out])
    go_ret
    exact ints_nil w (by repeat (first | with_reducible exact hB | with_reducible exact Below.refl _ _ | with_reducible refine below_al ?_ _ | with_reducible refine below_st ?_ (by first | exact Nat.le_refl _ | exact Nat.le_add_right _ _ | (simp; omega)) _))
  | true =>
    rw [show tgL i = [i.t] ++ i.ts by unfold tgL; rw [hb]; rfl]
    have HBR := Lib.hid hb
    clear hb
    go_enter Tryd.func18, Tryd.ntmps18
    go_upto_region 1 with fail
    have R := World.alloc_heap_new w (.cells #[.int .i64 i.op, .int .i64 i.a, .int .i64 i.b, .int .i64 i.t, .slice i.kA i.kn i.kc, .slice i.tA i.tn i.tc, .string i.r1, .string i.r2, .string i.r3, .string i.s] 43)
    replace hB := below_al hB (.cells #[.int .i64 i.op, .int .i64 i.a, .int .i64 i.b, .int .i64 i.t, .slice i.kA i.kn i.kc, .slice i.tA i.tn i.tc, .string i.r1, .string i.r2, .string i.r3, .string i.s] 43)
    generalize w.alloc (.cells #[.int .i64 i.op, .int .i64 i.a, .int .i64 i.b, .int .i64 i.t, .slice i.kA i.kn i.kc, .slice i.tA i.tn i.tc, .string i.r1, .string i.r2, .string i.r3, .string i.s] 43) = W1 at R hB ⊢
    obtain ⟨r0, r1, r2, r3, r4, r5, r6, r7, r8, r9⟩ := ten_cells R
    have y1 := lt_heap R
    replace R := Lib.hid R
    have OK1 := Lib.hid (((OK.out.up hB).below (Below.alloc (Below.refl _ W1) (Nat.le_refl _) (.cells #[.int .i64 i.t] 3))))
    have HO := Lib.hid (own_one (w := W1) i.t (base := w.heap.size) hB.size)
    go_wp2_with (first | (go_at_call 21; refine (br_any _ _).mono ?_; rintro e w' ⟨rfl, rfl⟩; rw [HBR.out]) | (at_builtin; refine wpList_append_ints (by rfl) _ _ (by rfl) w.heap.size 1 i.tn i.tc W1.heap.size [i.t] i.ts _ i.tA (by rfl) HO.out (by rfl) OK1.out.2.2.2.2.2.2.2 OK1.out.2.2.2.2.1 HZ.out.2 (by omega) (by simp; omega) ?_; intro v' w2 ho hgr))
    go_ret
    refine ints_own ho (Below.trans (below_al hB _) (grown_below hgr (fun k hk => ?_) (below_al hB _).size))
    have hk : W1.heap.size = k := by injection hk
    rw [← hk]
    exact hB.size

set_option maxRecDepth 100000 in
set_option maxHeartbeats 2000000 in
theorem rtg_any (i : In) (w : World) (hok : i.ok w w.heap.size) (hz : i.nz) (hs : i.tn ≤ 17592186043904) : Calls Tryd.prog 39 #[(Value.agg #[Value.int IntKind.i64 (In.op i), Value.int IntKind.i64 (In.a i), Value.int IntKind.i64 (In.b i), Value.int IntKind.i64 (In.t i), Value.slice (In.kA i) (In.kn i) (In.kc i), Value.slice (In.tA i) (In.tn i) (In.tc i), Value.string (In.r1 i), Value.string (In.r2 i), Value.string (In.r3 i), Value.string (In.s i)])] w (IntsRet w (tgL i)) := by
  have hB : Below w.heap.size w w := Below.refl _ _
  have OK := Lib.hid hok
  have HZ := Lib.hid hz
  clear hok hz
  cases hb : brB i.op with
  | false =>
    rw [show tgL i = [] by unfold tgL; rw [hb]; rfl]
    have HBR := Lib.hid hb
    clear hb
    go_enter Tryd.func39, Tryd.ntmps39
    go_upto_region 1 with fail
    have R := World.alloc_heap_new w (.cells #[.int .i64 i.op, .int .i64 i.a, .int .i64 i.b, .int .i64 i.t, .slice i.kA i.kn i.kc, .slice i.tA i.tn i.tc, .string i.r1, .string i.r2, .string i.r3, .string i.s] 43)
    replace hB := below_al hB (.cells #[.int .i64 i.op, .int .i64 i.a, .int .i64 i.b, .int .i64 i.t, .slice i.kA i.kn i.kc, .slice i.tA i.tn i.tc, .string i.r1, .string i.r2, .string i.r3, .string i.s] 43)
    generalize w.alloc (.cells #[.int .i64 i.op, .int .i64 i.a, .int .i64 i.b, .int .i64 i.t, .slice i.kA i.kn i.kc, .slice i.tA i.tn i.tc, .string i.r1, .string i.r2, .string i.r3, .string i.s] 43) = W1 at R hB ⊢
    obtain ⟨r0, r1, r2, r3, r4, r5, r6, r7, r8, r9⟩ := ten_cells R
    have y1 := lt_heap R
    replace R := Lib.hid R
    go_wp2_with (go_at_call 40; refine (rbr_any _ _).mono ?_; rintro e w' ⟨rfl, rfl⟩; rw [HBR.out])
    go_ret
    exact ints_nil w (by repeat (first | with_reducible exact hB | with_reducible exact Below.refl _ _ | with_reducible refine below_al ?_ _ | with_reducible refine below_st ?_ (by first | exact Nat.le_refl _ | exact Nat.le_add_right _ _ | (simp; omega)) _))
  | true =>
    rw [show tgL i = [i.t] ++ i.ts by unfold tgL; rw [hb]; rfl]
    have HBR := Lib.hid hb
    clear hb
    go_enter Tryd.func39, Tryd.ntmps39
    go_upto_region 1 with fail
    have R := World.alloc_heap_new w (.cells #[.int .i64 i.op, .int .i64 i.a, .int .i64 i.b, .int .i64 i.t, .slice i.kA i.kn i.kc, .slice i.tA i.tn i.tc, .string i.r1, .string i.r2, .string i.r3, .string i.s] 43)
    replace hB := below_al hB (.cells #[.int .i64 i.op, .int .i64 i.a, .int .i64 i.b, .int .i64 i.t, .slice i.kA i.kn i.kc, .slice i.tA i.tn i.tc, .string i.r1, .string i.r2, .string i.r3, .string i.s] 43)
    generalize w.alloc (.cells #[.int .i64 i.op, .int .i64 i.a, .int .i64 i.b, .int .i64 i.t, .slice i.kA i.kn i.kc, .slice i.tA i.tn i.tc, .string i.r1, .string i.r2, .string i.r3, .string i.s] 43) = W1 at R hB ⊢
    obtain ⟨r0, r1, r2, r3, r4, r5, r6, r7, r8, r9⟩ := ten_cells R
    have y1 := lt_heap R
    replace R := Lib.hid R
    have OK1 := Lib.hid (((OK.out.up hB).below (Below.alloc (Below.refl _ W1) (Nat.le_refl _) (.cells #[.int .i64 i.t] 3))))
    have HO := Lib.hid (own_one (w := W1) i.t (base := w.heap.size) hB.size)
    go_wp2_with (first | (go_at_call 40; refine (rbr_any _ _).mono ?_; rintro e w' ⟨rfl, rfl⟩; rw [HBR.out]) | (at_builtin; refine wpList_append_ints (by rfl) _ _ (by rfl) w.heap.size 1 i.tn i.tc W1.heap.size [i.t] i.ts _ i.tA (by rfl) HO.out (by rfl) OK1.out.2.2.2.2.2.2.2 OK1.out.2.2.2.2.1 HZ.out.2 (by omega) (by simp; omega) ?_; intro v' w2 ho hgr))
    go_ret
    refine ints_own ho (Below.trans (below_al hB _) (grown_below hgr (fun k hk => ?_) (below_al hB _).size))
    have hk : W1.heap.size = k := by injection hk
    rw [← hk]
    exact hB.size

end Go.Proofs.YtdppooflbjlbcaaDoor.I
