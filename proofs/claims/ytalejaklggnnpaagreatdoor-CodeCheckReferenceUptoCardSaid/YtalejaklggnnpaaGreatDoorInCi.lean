import Derived.Test.YtalejaklggnnpaaGreatDoorInUfS
import Derived.Test.YtalejaklggnnpaaGreatDoorInRef
/- Layer 8: Check, in the package and in its reference. -/
namespace Go.Proofs.YtalejaklggnnpaaGreatDoor.I
open Go.ChangeShapes Go.WideShapes Go.ChangeAt Go.RowKit Go.PlainAid
set_option linter.unusedSimpArgs false
set_option linter.unusedVariables false
/-- Check's answer for a valid kind and no unused field -/
def ciK (k : Int) (i : In) : Int :=
 if k = 1 then (if i.a < -128 ∨ 127 < i.a then 8 else 0)
 else if k = 2 then (if i.a < 1 ∨ 1000 < i.a then 2 else 0)
 else if k = 4 then (if i.a < 0 ∨ 32 ≤ i.a then 21 else 0)
 else if k = 5 then (if i.b < -128 ∨ 127 < i.b then 8 else if i.a < 0 ∨ 32 ≤ i.a then 21 else 0)
 else if k = 3 then (if tgB i = true then 16 else 0)
 else if k = 6 then (if tgB i = true then 16 else tsE i)
 else if k = 7 then (if tgB i = true then 16 else ksE i)
 else 0
theorem ci_eq (i : In) : ciE i = if kindV i.op < 0 then 15 else if unB (kindV i.op) i = true then 4 else ciK (kindV i.op) i := rfl
set_option maxRecDepth 100000 in
set_option maxHeartbeats 2000000 in
theorem chk_m (i : In) (w : World) (hok : i.ok w w.heap.size) (hk : kindV i.op = -1) : Calls Tryz.prog 59 #[(Value.agg #[Value.int IntKind.i64 (In.op i), Value.int IntKind.i64 (In.a i), Value.int IntKind.i64 (In.b i), Value.int IntKind.i64 (In.t i), Value.slice (In.kA i) (In.kn i) (In.kc i), Value.slice (In.tA i) (In.tn i) (In.tc i), Value.string (In.r1 i), Value.string (In.r2 i), Value.string (In.r3 i), Value.string (In.s i)])] w fun e w' => e = .returned (.int .i64 (ciE i)) ∧ Below w.heap.size w w' := by
 have hB : Below w.heap.size w w := Below.refl _ _
 have OK := Lib.hid hok
 clear hok
 have HS := Lib.hid (ci_eq i)
 have HK := Lib.hid hk
 generalize ciE i = K at HS ⊢
 clear hk
 go_enter Tryz.func59, Tryz.ntmps59
 go_upto_region 1 with fail
 have R := World.alloc_heap_new w (.cells #[.int .i64 i.op, .int .i64 i.a, .int .i64 i.b, .int .i64 i.t, .slice i.kA i.kn i.kc, .slice i.tA i.tn i.tc, .string i.r1, .string i.r2, .string i.r3, .string i.s] 50)
 replace hB := below_al hB (.cells #[.int .i64 i.op, .int .i64 i.a, .int .i64 i.b, .int .i64 i.t, .slice i.kA i.kn i.kc, .slice i.tA i.tn i.tc, .string i.r1, .string i.r2, .string i.r3, .string i.s] 50)
 generalize w.alloc (.cells #[.int .i64 i.op, .int .i64 i.a, .int .i64 i.b, .int .i64 i.t, .slice i.kA i.kn i.kc, .slice i.tA i.tn i.tc, .string i.r1, .string i.r2, .string i.r3, .string i.s] 50) = W1 at R hB ⊢
 obtain ⟨r0, r1, r2, r3, r4, r5, r6, r7, r8, r9⟩ := ten_cells R
 have y1 := lt_heap R
 replace R := Lib.hid R
 have hs : K = 15 := by rw [HS.out, HK.out]; rfl
 replace HS := Lib.hid hs
 clear hs
 go_wp2_with (go_at_call 60; refine (kind_any _ _).mono ?_; rintro e w' ⟨rfl, rfl⟩; rw [HK.out])
 go_ret
 exact ⟨by rw [HS.out]; rfl, (by repeat (first | with_reducible exact hB | with_reducible exact Below.refl _ _ | with_reducible refine below_al ?_ _ | with_reducible refine below_st ?_ (by first | exact Nat.le_refl _ | exact Nat.le_add_right _ _ | (simp; omega)) _))⟩
set_option maxRecDepth 100000 in
set_option maxHeartbeats 2000000 in
theorem chk_0 (i : In) (w : World) (hok : i.ok w w.heap.size) (hk : kindV i.op = 0) : Calls Tryz.prog 59 #[(Value.agg #[Value.int IntKind.i64 (In.op i), Value.int IntKind.i64 (In.a i), Value.int IntKind.i64 (In.b i), Value.int IntKind.i64 (In.t i), Value.slice (In.kA i) (In.kn i) (In.kc i), Value.slice (In.tA i) (In.tn i) (In.tc i), Value.string (In.r1 i), Value.string (In.r2 i), Value.string (In.r3 i), Value.string (In.s i)])] w fun e w' => e = .returned (.int .i64 (ciE i)) ∧ Below w.heap.size w w' := by
 have hB : Below w.heap.size w w := Below.refl _ _
 have OK := Lib.hid hok
 clear hok
 have HS := Lib.hid (ci_eq i)
 have HK := Lib.hid hk
 generalize ciE i = K at HS ⊢
 clear hk
 go_enter Tryz.func59, Tryz.ntmps59
 go_upto_region 1 with fail
 have R := World.alloc_heap_new w (.cells #[.int .i64 i.op, .int .i64 i.a, .int .i64 i.b, .int .i64 i.t, .slice i.kA i.kn i.kc, .slice i.tA i.tn i.tc, .string i.r1, .string i.r2, .string i.r3, .string i.s] 50)
 replace hB := below_al hB (.cells #[.int .i64 i.op, .int .i64 i.a, .int .i64 i.b, .int .i64 i.t, .slice i.kA i.kn i.kc, .slice i.tA i.tn i.tc, .string i.r1, .string i.r2, .string i.r3, .string i.s] 50)
 generalize w.alloc (.cells #[.int .i64 i.op, .int .i64 i.a, .int .i64 i.b, .int .i64 i.t, .slice i.kA i.kn i.kc, .slice i.tA i.tn i.tc, .string i.r1, .string i.r2, .string i.r3, .string i.s] 50) = W1 at R hB ⊢
 obtain ⟨r0, r1, r2, r3, r4, r5, r6, r7, r8, r9⟩ := ten_cells R
 have y1 := lt_heap R
 replace R := Lib.hid R
 cases hu : unB 0 i with
 | true =>
  have hs : K = 4 := by rw [HS.out, HK.out, hu]; rfl
  replace HS := Lib.hid hs
  clear hs
  go_wp2_with (first | (go_at_call 60; refine (kind_any _ _).mono ?_; rintro e w' ⟨rfl, rfl⟩; rw [HK.out]) | (go_at_call 103; refine (uf_any i 0 (by omega) _).mono ?_; rintro e w1 ⟨rfl, hb1⟩; obtain ⟨hc1, hf1⟩ := bcell hb1; have hz1 := hb1.size; (try have hza : w.heap.size < w1.heap.size := by omega); replace hB := below_on (w := w) ((by repeat (first | with_reducible exact hB | with_reducible exact Below.refl _ _ | with_reducible refine below_al ?_ _ | with_reducible refine below_st ?_ (by first | exact Nat.le_refl _ | exact Nat.le_add_right _ _ | (simp; omega)) _))) hb1; clear hb1; rw [hu]))
  go_ret
  exact ⟨by rw [HS.out]; rfl, hB⟩
 | false =>
  have hs : K = ciK 0 i := by rw [HS.out, HK.out, hu]; rfl
  replace HS := Lib.hid hs
  clear hs
  go_wp2_with (first | (go_at_call 60; refine (kind_any _ _).mono ?_; rintro e w' ⟨rfl, rfl⟩; rw [HK.out]) | (go_at_call 103; refine (uf_any i 0 (by omega) _).mono ?_; rintro e w1 ⟨rfl, hb1⟩; obtain ⟨hc1, hf1⟩ := bcell hb1; have hz1 := hb1.size; (try have hza : w.heap.size < w1.heap.size := by omega); replace hB := below_on (w := w) ((by repeat (first | with_reducible exact hB | with_reducible exact Below.refl _ _ | with_reducible refine below_al ?_ _ | with_reducible refine below_st ?_ (by first | exact Nat.le_refl _ | exact Nat.le_add_right _ _ | (simp; omega)) _))) hb1; clear hb1; rw [hu]))
  go_ret
  exact ⟨by rw [HS.out]; rfl, hB⟩
set_option maxRecDepth 100000 in
set_option maxHeartbeats 2000000 in
theorem chk_1 (i : In) (w : World) (hok : i.ok w w.heap.size) (hk : kindV i.op = 1) : Calls Tryz.prog 59 #[(Value.agg #[Value.int IntKind.i64 (In.op i), Value.int IntKind.i64 (In.a i), Value.int IntKind.i64 (In.b i), Value.int IntKind.i64 (In.t i), Value.slice (In.kA i) (In.kn i) (In.kc i), Value.slice (In.tA i) (In.tn i) (In.tc i), Value.string (In.r1 i), Value.string (In.r2 i), Value.string (In.r3 i), Value.string (In.s i)])] w fun e w' => e = .returned (.int .i64 (ciE i)) ∧ Below w.heap.size w w' := by
 have hB : Below w.heap.size w w := Below.refl _ _
 have OK := Lib.hid hok
 clear hok
 have HS := Lib.hid (ci_eq i)
 have HK := Lib.hid hk
 generalize ciE i = K at HS ⊢
 clear hk
 go_enter Tryz.func59, Tryz.ntmps59
 go_upto_region 1 with fail
 have R := World.alloc_heap_new w (.cells #[.int .i64 i.op, .int .i64 i.a, .int .i64 i.b, .int .i64 i.t, .slice i.kA i.kn i.kc, .slice i.tA i.tn i.tc, .string i.r1, .string i.r2, .string i.r3, .string i.s] 50)
 replace hB := below_al hB (.cells #[.int .i64 i.op, .int .i64 i.a, .int .i64 i.b, .int .i64 i.t, .slice i.kA i.kn i.kc, .slice i.tA i.tn i.tc, .string i.r1, .string i.r2, .string i.r3, .string i.s] 50)
 generalize w.alloc (.cells #[.int .i64 i.op, .int .i64 i.a, .int .i64 i.b, .int .i64 i.t, .slice i.kA i.kn i.kc, .slice i.tA i.tn i.tc, .string i.r1, .string i.r2, .string i.r3, .string i.s] 50) = W1 at R hB ⊢
 obtain ⟨r0, r1, r2, r3, r4, r5, r6, r7, r8, r9⟩ := ten_cells R
 have y1 := lt_heap R
 replace R := Lib.hid R
 cases hu : unB 1 i with
 | true =>
  have hs : K = 4 := by rw [HS.out, HK.out, hu]; rfl
  replace HS := Lib.hid hs
  clear hs
  go_wp2_with (first | (go_at_call 60; refine (kind_any _ _).mono ?_; rintro e w' ⟨rfl, rfl⟩; rw [HK.out]) | (go_at_call 103; refine (uf_any i 1 (by omega) _).mono ?_; rintro e w1 ⟨rfl, hb1⟩; obtain ⟨hc1, hf1⟩ := bcell hb1; have hz1 := hb1.size; (try have hza : w.heap.size < w1.heap.size := by omega); replace hB := below_on (w := w) ((by repeat (first | with_reducible exact hB | with_reducible exact Below.refl _ _ | with_reducible refine below_al ?_ _ | with_reducible refine below_st ?_ (by first | exact Nat.le_refl _ | exact Nat.le_add_right _ _ | (simp; omega)) _))) hb1; clear hb1; rw [hu]))
  go_ret
  exact ⟨by rw [HS.out]; rfl, hB⟩
 | false =>
  have hs : K = ciK 1 i := by rw [HS.out, HK.out, hu]; rfl
  replace HS := Lib.hid hs
  clear hs
  have hs : K = (if i.a < -128 ∨ 127 < i.a then 8 else 0) := HS.out
  replace HS := Lib.hid hs
  clear hs
  by_cases h4 : i.a < -128 ∨ 127 < i.a
  ·
   have hs : K = 8 := by rw [HS.out, if_pos h4]
   replace HS := Lib.hid hs
   clear hs
   rcases h4 with h4 | h4
   ·
    go_wp2_with (first | (go_at_call 60; refine (kind_any _ _).mono ?_; rintro e w' ⟨rfl, rfl⟩; rw [HK.out]) | (go_at_call 103; refine (uf_any i 1 (by omega) _).mono ?_; rintro e w1 ⟨rfl, hb1⟩; obtain ⟨hc1, hf1⟩ := bcell hb1; have hz1 := hb1.size; (try have hza : w.heap.size < w1.heap.size := by omega); replace hB := below_on (w := w) ((by repeat (first | with_reducible exact hB | with_reducible exact Below.refl _ _ | with_reducible refine below_al ?_ _ | with_reducible refine below_st ?_ (by first | exact Nat.le_refl _ | exact Nat.le_add_right _ _ | (simp; omega)) _))) hb1; clear hb1; rw [hu]) | (go_at_call 104; refine (tl_any _ _).mono ?_; rintro e w' ⟨rfl, rfl⟩))
    go_ret
    exact ⟨by rw [HS.out]; first | rfl | (simp [tliE]; omega), hB⟩
   ·
    have h4' : ¬ i.a < -128 := by omega
    go_wp2_with (first | (go_at_call 60; refine (kind_any _ _).mono ?_; rintro e w' ⟨rfl, rfl⟩; rw [HK.out]) | (go_at_call 103; refine (uf_any i 1 (by omega) _).mono ?_; rintro e w1 ⟨rfl, hb1⟩; obtain ⟨hc1, hf1⟩ := bcell hb1; have hz1 := hb1.size; (try have hza : w.heap.size < w1.heap.size := by omega); replace hB := below_on (w := w) ((by repeat (first | with_reducible exact hB | with_reducible exact Below.refl _ _ | with_reducible refine below_al ?_ _ | with_reducible refine below_st ?_ (by first | exact Nat.le_refl _ | exact Nat.le_add_right _ _ | (simp; omega)) _))) hb1; clear hb1; rw [hu]) | (go_at_call 104; refine (tl_any _ _).mono ?_; rintro e w' ⟨rfl, rfl⟩))
    go_ret
    exact ⟨by rw [HS.out]; first | rfl | (simp [tliE]; omega), hB⟩
  ·
   have hs := HS.out
   rw [if_neg h4] at hs
   replace HS := Lib.hid hs
   clear hs
   have h4' : ¬ i.a < -128 := by omega
   have h4'' : ¬ 127 < i.a := by omega
   clear h4
   go_wp2_with (first | (go_at_call 60; refine (kind_any _ _).mono ?_; rintro e w' ⟨rfl, rfl⟩; rw [HK.out]) | (go_at_call 103; refine (uf_any i 1 (by omega) _).mono ?_; rintro e w1 ⟨rfl, hb1⟩; obtain ⟨hc1, hf1⟩ := bcell hb1; have hz1 := hb1.size; (try have hza : w.heap.size < w1.heap.size := by omega); replace hB := below_on (w := w) ((by repeat (first | with_reducible exact hB | with_reducible exact Below.refl _ _ | with_reducible refine below_al ?_ _ | with_reducible refine below_st ?_ (by first | exact Nat.le_refl _ | exact Nat.le_add_right _ _ | (simp; omega)) _))) hb1; clear hb1; rw [hu]) | (go_at_call 104; refine (tl_any _ _).mono ?_; rintro e w' ⟨rfl, rfl⟩))
   go_ret
   exact ⟨by rw [HS.out]; first | rfl | (simp [tliE]; omega), hB⟩
set_option maxRecDepth 100000 in
set_option maxHeartbeats 2000000 in
theorem chk_2 (i : In) (w : World) (hok : i.ok w w.heap.size) (hk : kindV i.op = 2) : Calls Tryz.prog 59 #[(Value.agg #[Value.int IntKind.i64 (In.op i), Value.int IntKind.i64 (In.a i), Value.int IntKind.i64 (In.b i), Value.int IntKind.i64 (In.t i), Value.slice (In.kA i) (In.kn i) (In.kc i), Value.slice (In.tA i) (In.tn i) (In.tc i), Value.string (In.r1 i), Value.string (In.r2 i), Value.string (In.r3 i), Value.string (In.s i)])] w fun e w' => e = .returned (.int .i64 (ciE i)) ∧ Below w.heap.size w w' := by
 have hB : Below w.heap.size w w := Below.refl _ _
 have OK := Lib.hid hok
 clear hok
 have HS := Lib.hid (ci_eq i)
 have HK := Lib.hid hk
 generalize ciE i = K at HS ⊢
 clear hk
 go_enter Tryz.func59, Tryz.ntmps59
 go_upto_region 1 with fail
 have R := World.alloc_heap_new w (.cells #[.int .i64 i.op, .int .i64 i.a, .int .i64 i.b, .int .i64 i.t, .slice i.kA i.kn i.kc, .slice i.tA i.tn i.tc, .string i.r1, .string i.r2, .string i.r3, .string i.s] 50)
 replace hB := below_al hB (.cells #[.int .i64 i.op, .int .i64 i.a, .int .i64 i.b, .int .i64 i.t, .slice i.kA i.kn i.kc, .slice i.tA i.tn i.tc, .string i.r1, .string i.r2, .string i.r3, .string i.s] 50)
 generalize w.alloc (.cells #[.int .i64 i.op, .int .i64 i.a, .int .i64 i.b, .int .i64 i.t, .slice i.kA i.kn i.kc, .slice i.tA i.tn i.tc, .string i.r1, .string i.r2, .string i.r3, .string i.s] 50) = W1 at R hB ⊢
 obtain ⟨r0, r1, r2, r3, r4, r5, r6, r7, r8, r9⟩ := ten_cells R
 have y1 := lt_heap R
 replace R := Lib.hid R
 cases hu : unB 2 i with
 | true =>
  have hs : K = 4 := by rw [HS.out, HK.out, hu]; rfl
  replace HS := Lib.hid hs
  clear hs
  go_wp2_with (first | (go_at_call 60; refine (kind_any _ _).mono ?_; rintro e w' ⟨rfl, rfl⟩; rw [HK.out]) | (go_at_call 103; refine (uf_any i 2 (by omega) _).mono ?_; rintro e w1 ⟨rfl, hb1⟩; obtain ⟨hc1, hf1⟩ := bcell hb1; have hz1 := hb1.size; (try have hza : w.heap.size < w1.heap.size := by omega); replace hB := below_on (w := w) ((by repeat (first | with_reducible exact hB | with_reducible exact Below.refl _ _ | with_reducible refine below_al ?_ _ | with_reducible refine below_st ?_ (by first | exact Nat.le_refl _ | exact Nat.le_add_right _ _ | (simp; omega)) _))) hb1; clear hb1; rw [hu]))
  go_ret
  exact ⟨by rw [HS.out]; rfl, hB⟩
 | false =>
  have hs : K = ciK 2 i := by rw [HS.out, HK.out, hu]; rfl
  replace HS := Lib.hid hs
  clear hs
  have hs : K = (if i.a < 1 ∨ 1000 < i.a then 2 else 0) := HS.out
  replace HS := Lib.hid hs
  clear hs
  by_cases h4 : i.a < 1 ∨ 1000 < i.a
  ·
   have hs : K = 2 := by rw [HS.out, if_pos h4]
   replace HS := Lib.hid hs
   clear hs
   rcases h4 with h4 | h4
   ·
    go_wp2_with (first | (go_at_call 60; refine (kind_any _ _).mono ?_; rintro e w' ⟨rfl, rfl⟩; rw [HK.out]) | (go_at_call 103; refine (uf_any i 2 (by omega) _).mono ?_; rintro e w1 ⟨rfl, hb1⟩; obtain ⟨hc1, hf1⟩ := bcell hb1; have hz1 := hb1.size; (try have hza : w.heap.size < w1.heap.size := by omega); replace hB := below_on (w := w) ((by repeat (first | with_reducible exact hB | with_reducible exact Below.refl _ _ | with_reducible refine below_al ?_ _ | with_reducible refine below_st ?_ (by first | exact Nat.le_refl _ | exact Nat.le_add_right _ _ | (simp; omega)) _))) hb1; clear hb1; rw [hu]))
    go_ret
    exact ⟨by rw [HS.out]; first | rfl | (simp [tliE]; omega), hB⟩
   ·
    have h4' : ¬ i.a < 1 := by omega
    go_wp2_with (first | (go_at_call 60; refine (kind_any _ _).mono ?_; rintro e w' ⟨rfl, rfl⟩; rw [HK.out]) | (go_at_call 103; refine (uf_any i 2 (by omega) _).mono ?_; rintro e w1 ⟨rfl, hb1⟩; obtain ⟨hc1, hf1⟩ := bcell hb1; have hz1 := hb1.size; (try have hza : w.heap.size < w1.heap.size := by omega); replace hB := below_on (w := w) ((by repeat (first | with_reducible exact hB | with_reducible exact Below.refl _ _ | with_reducible refine below_al ?_ _ | with_reducible refine below_st ?_ (by first | exact Nat.le_refl _ | exact Nat.le_add_right _ _ | (simp; omega)) _))) hb1; clear hb1; rw [hu]))
    go_ret
    exact ⟨by rw [HS.out]; first | rfl | (simp [tliE]; omega), hB⟩
  ·
   have hs := HS.out
   rw [if_neg h4] at hs
   replace HS := Lib.hid hs
   clear hs
   have h4' : ¬ i.a < 1 := by omega
   have h4'' : ¬ 1000 < i.a := by omega
   clear h4
   go_wp2_with (first | (go_at_call 60; refine (kind_any _ _).mono ?_; rintro e w' ⟨rfl, rfl⟩; rw [HK.out]) | (go_at_call 103; refine (uf_any i 2 (by omega) _).mono ?_; rintro e w1 ⟨rfl, hb1⟩; obtain ⟨hc1, hf1⟩ := bcell hb1; have hz1 := hb1.size; (try have hza : w.heap.size < w1.heap.size := by omega); replace hB := below_on (w := w) ((by repeat (first | with_reducible exact hB | with_reducible exact Below.refl _ _ | with_reducible refine below_al ?_ _ | with_reducible refine below_st ?_ (by first | exact Nat.le_refl _ | exact Nat.le_add_right _ _ | (simp; omega)) _))) hb1; clear hb1; rw [hu]))
   go_ret
   exact ⟨by rw [HS.out]; first | rfl | (simp [tliE]; omega), hB⟩
set_option maxRecDepth 100000 in
set_option maxHeartbeats 2000000 in
theorem chk_3 (i : In) (w : World) (hok : i.ok w w.heap.size) (hk : kindV i.op = 3) : Calls Tryz.prog 59 #[(Value.agg #[Value.int IntKind.i64 (In.op i), Value.int IntKind.i64 (In.a i), Value.int IntKind.i64 (In.b i), Value.int IntKind.i64 (In.t i), Value.slice (In.kA i) (In.kn i) (In.kc i), Value.slice (In.tA i) (In.tn i) (In.tc i), Value.string (In.r1 i), Value.string (In.r2 i), Value.string (In.r3 i), Value.string (In.s i)])] w fun e w' => e = .returned (.int .i64 (ciE i)) ∧ Below w.heap.size w w' := by
 have hB : Below w.heap.size w w := Below.refl _ _
 have OK := Lib.hid hok
 clear hok
 have HS := Lib.hid (ci_eq i)
 have HK := Lib.hid hk
 generalize ciE i = K at HS ⊢
 clear hk
 go_enter Tryz.func59, Tryz.ntmps59
 go_upto_region 1 with fail
 have R := World.alloc_heap_new w (.cells #[.int .i64 i.op, .int .i64 i.a, .int .i64 i.b, .int .i64 i.t, .slice i.kA i.kn i.kc, .slice i.tA i.tn i.tc, .string i.r1, .string i.r2, .string i.r3, .string i.s] 50)
 replace hB := below_al hB (.cells #[.int .i64 i.op, .int .i64 i.a, .int .i64 i.b, .int .i64 i.t, .slice i.kA i.kn i.kc, .slice i.tA i.tn i.tc, .string i.r1, .string i.r2, .string i.r3, .string i.s] 50)
 generalize w.alloc (.cells #[.int .i64 i.op, .int .i64 i.a, .int .i64 i.b, .int .i64 i.t, .slice i.kA i.kn i.kc, .slice i.tA i.tn i.tc, .string i.r1, .string i.r2, .string i.r3, .string i.s] 50) = W1 at R hB ⊢
 obtain ⟨r0, r1, r2, r3, r4, r5, r6, r7, r8, r9⟩ := ten_cells R
 have y1 := lt_heap R
 replace R := Lib.hid R
 cases hu : unB 3 i with
 | true =>
  have hs : K = 4 := by rw [HS.out, HK.out, hu]; rfl
  replace HS := Lib.hid hs
  clear hs
  go_wp2_with (first | (go_at_call 60; refine (kind_any _ _).mono ?_; rintro e w' ⟨rfl, rfl⟩; rw [HK.out]) | (go_at_call 103; refine (uf_any i 3 (by omega) _).mono ?_; rintro e w1 ⟨rfl, hb1⟩; obtain ⟨hc1, hf1⟩ := bcell hb1; have hz1 := hb1.size; (try have hza : w.heap.size < w1.heap.size := by omega); replace hB := below_on (w := w) ((by repeat (first | with_reducible exact hB | with_reducible exact Below.refl _ _ | with_reducible refine below_al ?_ _ | with_reducible refine below_st ?_ (by first | exact Nat.le_refl _ | exact Nat.le_add_right _ _ | (simp; omega)) _))) hb1; clear hb1; rw [hu]))
  go_ret
  exact ⟨by rw [HS.out]; rfl, hB⟩
 | false =>
  have hs : K = ciK 3 i := by rw [HS.out, HK.out, hu]; rfl
  replace HS := Lib.hid hs
  clear hs
  go_wp2_with (first | (go_at_call 60; refine (kind_any _ _).mono ?_; rintro e w' ⟨rfl, rfl⟩; rw [HK.out]) | (go_at_call 103; refine (uf_any i 3 (by omega) _).mono ?_; rintro e w1 ⟨rfl, hb1⟩; obtain ⟨hc1, hf1⟩ := bcell hb1; have hz1 := hb1.size; (try have hza : w.heap.size < w1.heap.size := by omega); replace hB := below_on (w := w) ((by repeat (first | with_reducible exact hB | with_reducible exact Below.refl _ _ | with_reducible refine below_al ?_ _ | with_reducible refine below_st ?_ (by first | exact Nat.le_refl _ | exact Nat.le_add_right _ _ | (simp; omega)) _))) hb1; clear hb1; rw [hu]) | (go_at_call 105; refine (chb_any i 3 (by omega) _ (OK.out.up (by repeat (first | with_reducible exact hB | with_reducible exact Below.refl _ _ | with_reducible refine below_al ?_ _ | with_reducible refine below_st ?_ (by first | exact Nat.le_refl _ | exact Nat.le_add_right _ _ | (simp; omega)) _)))).mono ?_; rintro e w1 ⟨rfl, hb1⟩; obtain ⟨hc1, hf1⟩ := bcell hb1; have hz1 := hb1.size; (try simp only [World.size_alloc, World.size_setCell] at hz1); (try have hza : w.heap.size < w1.heap.size := by omega); (try have hzb : w.heap.size + 1 < w1.heap.size := by omega); (try have hzc : w.heap.size + 1 + 1 < w1.heap.size := by omega); (try have hzd : wa.heap.size < w1.heap.size := by omega); (try replace hR := (hb1.block w.heap.size (by first | exact lt_heap hR | (have := lt_heap hR; simp; omega))).trans (by first | with_reducible exact hR | with_reducible exact laid_old hR)); replace hB := below_on (w := w) ((by repeat (first | with_reducible exact hB | with_reducible exact Below.refl _ _ | with_reducible refine below_al ?_ _ | with_reducible refine below_st ?_ (by first | exact Nat.le_refl _ | exact Nat.le_add_right _ _ | (simp; omega)) _))) hb1; clear hb1))
  go_ret
  exact ⟨by rw [HS.out]; rfl, hB⟩
set_option maxRecDepth 100000 in
set_option maxHeartbeats 2000000 in
theorem chk_4 (i : In) (w : World) (hok : i.ok w w.heap.size) (hk : kindV i.op = 4) : Calls Tryz.prog 59 #[(Value.agg #[Value.int IntKind.i64 (In.op i), Value.int IntKind.i64 (In.a i), Value.int IntKind.i64 (In.b i), Value.int IntKind.i64 (In.t i), Value.slice (In.kA i) (In.kn i) (In.kc i), Value.slice (In.tA i) (In.tn i) (In.tc i), Value.string (In.r1 i), Value.string (In.r2 i), Value.string (In.r3 i), Value.string (In.s i)])] w fun e w' => e = .returned (.int .i64 (ciE i)) ∧ Below w.heap.size w w' := by
 have hB : Below w.heap.size w w := Below.refl _ _
 have OK := Lib.hid hok
 clear hok
 have HS := Lib.hid (ci_eq i)
 have HK := Lib.hid hk
 generalize ciE i = K at HS ⊢
 clear hk
 go_enter Tryz.func59, Tryz.ntmps59
 go_upto_region 1 with fail
 have R := World.alloc_heap_new w (.cells #[.int .i64 i.op, .int .i64 i.a, .int .i64 i.b, .int .i64 i.t, .slice i.kA i.kn i.kc, .slice i.tA i.tn i.tc, .string i.r1, .string i.r2, .string i.r3, .string i.s] 50)
 replace hB := below_al hB (.cells #[.int .i64 i.op, .int .i64 i.a, .int .i64 i.b, .int .i64 i.t, .slice i.kA i.kn i.kc, .slice i.tA i.tn i.tc, .string i.r1, .string i.r2, .string i.r3, .string i.s] 50)
 generalize w.alloc (.cells #[.int .i64 i.op, .int .i64 i.a, .int .i64 i.b, .int .i64 i.t, .slice i.kA i.kn i.kc, .slice i.tA i.tn i.tc, .string i.r1, .string i.r2, .string i.r3, .string i.s] 50) = W1 at R hB ⊢
 obtain ⟨r0, r1, r2, r3, r4, r5, r6, r7, r8, r9⟩ := ten_cells R
 have y1 := lt_heap R
 replace R := Lib.hid R
 cases hu : unB 4 i with
 | true =>
  have hs : K = 4 := by rw [HS.out, HK.out, hu]; rfl
  replace HS := Lib.hid hs
  clear hs
  go_wp2_with (first | (go_at_call 60; refine (kind_any _ _).mono ?_; rintro e w' ⟨rfl, rfl⟩; rw [HK.out]) | (go_at_call 103; refine (uf_any i 4 (by omega) _).mono ?_; rintro e w1 ⟨rfl, hb1⟩; obtain ⟨hc1, hf1⟩ := bcell hb1; have hz1 := hb1.size; (try have hza : w.heap.size < w1.heap.size := by omega); replace hB := below_on (w := w) ((by repeat (first | with_reducible exact hB | with_reducible exact Below.refl _ _ | with_reducible refine below_al ?_ _ | with_reducible refine below_st ?_ (by first | exact Nat.le_refl _ | exact Nat.le_add_right _ _ | (simp; omega)) _))) hb1; clear hb1; rw [hu]))
  go_ret
  exact ⟨by rw [HS.out]; rfl, hB⟩
 | false =>
  have hs : K = ciK 4 i := by rw [HS.out, HK.out, hu]; rfl
  replace HS := Lib.hid hs
  clear hs
  have hs : K = (if i.a < 0 ∨ 32 ≤ i.a then 21 else 0) := HS.out
  replace HS := Lib.hid hs
  clear hs
  by_cases h4 : i.a < 0 ∨ 32 ≤ i.a
  ·
   have hs : K = 21 := by rw [HS.out, if_pos h4]
   replace HS := Lib.hid hs
   clear hs
   rcases h4 with h4 | h4
   ·
    go_wp2_with (first | (go_at_call 60; refine (kind_any _ _).mono ?_; rintro e w' ⟨rfl, rfl⟩; rw [HK.out]) | (go_at_call 103; refine (uf_any i 4 (by omega) _).mono ?_; rintro e w1 ⟨rfl, hb1⟩; obtain ⟨hc1, hf1⟩ := bcell hb1; have hz1 := hb1.size; (try have hza : w.heap.size < w1.heap.size := by omega); replace hB := below_on (w := w) ((by repeat (first | with_reducible exact hB | with_reducible exact Below.refl _ _ | with_reducible refine below_al ?_ _ | with_reducible refine below_st ?_ (by first | exact Nat.le_refl _ | exact Nat.le_add_right _ _ | (simp; omega)) _))) hb1; clear hb1; rw [hu]))
    go_ret
    exact ⟨by rw [HS.out]; first | rfl | (simp [tliE]; omega), hB⟩
   ·
    have h4' : ¬ i.a < 0 := by omega
    go_wp2_with (first | (go_at_call 60; refine (kind_any _ _).mono ?_; rintro e w' ⟨rfl, rfl⟩; rw [HK.out]) | (go_at_call 103; refine (uf_any i 4 (by omega) _).mono ?_; rintro e w1 ⟨rfl, hb1⟩; obtain ⟨hc1, hf1⟩ := bcell hb1; have hz1 := hb1.size; (try have hza : w.heap.size < w1.heap.size := by omega); replace hB := below_on (w := w) ((by repeat (first | with_reducible exact hB | with_reducible exact Below.refl _ _ | with_reducible refine below_al ?_ _ | with_reducible refine below_st ?_ (by first | exact Nat.le_refl _ | exact Nat.le_add_right _ _ | (simp; omega)) _))) hb1; clear hb1; rw [hu]))
    go_ret
    exact ⟨by rw [HS.out]; first | rfl | (simp [tliE]; omega), hB⟩
  ·
   have hs := HS.out
   rw [if_neg h4] at hs
   replace HS := Lib.hid hs
   clear hs
   have h4' : ¬ i.a < 0 := by omega
   have h4'' : ¬ 32 ≤ i.a := by omega
   clear h4
   go_wp2_with (first | (go_at_call 60; refine (kind_any _ _).mono ?_; rintro e w' ⟨rfl, rfl⟩; rw [HK.out]) | (go_at_call 103; refine (uf_any i 4 (by omega) _).mono ?_; rintro e w1 ⟨rfl, hb1⟩; obtain ⟨hc1, hf1⟩ := bcell hb1; have hz1 := hb1.size; (try have hza : w.heap.size < w1.heap.size := by omega); replace hB := below_on (w := w) ((by repeat (first | with_reducible exact hB | with_reducible exact Below.refl _ _ | with_reducible refine below_al ?_ _ | with_reducible refine below_st ?_ (by first | exact Nat.le_refl _ | exact Nat.le_add_right _ _ | (simp; omega)) _))) hb1; clear hb1; rw [hu]))
   go_ret
   exact ⟨by rw [HS.out]; first | rfl | (simp [tliE]; omega), hB⟩
set_option maxRecDepth 100000 in
set_option maxHeartbeats 2000000 in
theorem chk_5 (i : In) (w : World) (hok : i.ok w w.heap.size) (hk : kindV i.op = 5) : Calls Tryz.prog 59 #[(Value.agg #[Value.int IntKind.i64 (In.op i), Value.int IntKind.i64 (In.a i), Value.int IntKind.i64 (In.b i), Value.int IntKind.i64 (In.t i), Value.slice (In.kA i) (In.kn i) (In.kc i), Value.slice (In.tA i) (In.tn i) (In.tc i), Value.string (In.r1 i), Value.string (In.r2 i), Value.string (In.r3 i), Value.string (In.s i)])] w fun e w' => e = .returned (.int .i64 (ciE i)) ∧ Below w.heap.size w w' := by
 have hB : Below w.heap.size w w := Below.refl _ _
 have OK := Lib.hid hok
 clear hok
 have HS := Lib.hid (ci_eq i)
 have HK := Lib.hid hk
 generalize ciE i = K at HS ⊢
 clear hk
 go_enter Tryz.func59, Tryz.ntmps59
 go_upto_region 1 with fail
 have R := World.alloc_heap_new w (.cells #[.int .i64 i.op, .int .i64 i.a, .int .i64 i.b, .int .i64 i.t, .slice i.kA i.kn i.kc, .slice i.tA i.tn i.tc, .string i.r1, .string i.r2, .string i.r3, .string i.s] 50)
 replace hB := below_al hB (.cells #[.int .i64 i.op, .int .i64 i.a, .int .i64 i.b, .int .i64 i.t, .slice i.kA i.kn i.kc, .slice i.tA i.tn i.tc, .string i.r1, .string i.r2, .string i.r3, .string i.s] 50)
 generalize w.alloc (.cells #[.int .i64 i.op, .int .i64 i.a, .int .i64 i.b, .int .i64 i.t, .slice i.kA i.kn i.kc, .slice i.tA i.tn i.tc, .string i.r1, .string i.r2, .string i.r3, .string i.s] 50) = W1 at R hB ⊢
 obtain ⟨r0, r1, r2, r3, r4, r5, r6, r7, r8, r9⟩ := ten_cells R
 have y1 := lt_heap R
 replace R := Lib.hid R
 cases hu : unB 5 i with
 | true =>
  have hs : K = 4 := by rw [HS.out, HK.out, hu]; rfl
  replace HS := Lib.hid hs
  clear hs
  go_wp2_with (first | (go_at_call 60; refine (kind_any _ _).mono ?_; rintro e w' ⟨rfl, rfl⟩; rw [HK.out]) | (go_at_call 103; refine (uf_any i 5 (by omega) _).mono ?_; rintro e w1 ⟨rfl, hb1⟩; obtain ⟨hc1, hf1⟩ := bcell hb1; have hz1 := hb1.size; (try have hza : w.heap.size < w1.heap.size := by omega); replace hB := below_on (w := w) ((by repeat (first | with_reducible exact hB | with_reducible exact Below.refl _ _ | with_reducible refine below_al ?_ _ | with_reducible refine below_st ?_ (by first | exact Nat.le_refl _ | exact Nat.le_add_right _ _ | (simp; omega)) _))) hb1; clear hb1; rw [hu]))
  go_ret
  exact ⟨by rw [HS.out]; rfl, hB⟩
 | false =>
  have hs : K = ciK 5 i := by rw [HS.out, HK.out, hu]; rfl
  replace HS := Lib.hid hs
  clear hs
  have hs : K = (if i.b < -128 ∨ 127 < i.b then 8 else if i.a < 0 ∨ 32 ≤ i.a then 21 else 0) := HS.out
  replace HS := Lib.hid hs
  clear hs
  by_cases h4 : i.b < -128 ∨ 127 < i.b
  ·
   have hs : K = 8 := by rw [HS.out, if_pos h4]
   replace HS := Lib.hid hs
   clear hs
   rcases h4 with h4 | h4
   ·
    go_wp2_with (first | (go_at_call 60; refine (kind_any _ _).mono ?_; rintro e w' ⟨rfl, rfl⟩; rw [HK.out]) | (go_at_call 103; refine (uf_any i 5 (by omega) _).mono ?_; rintro e w1 ⟨rfl, hb1⟩; obtain ⟨hc1, hf1⟩ := bcell hb1; have hz1 := hb1.size; (try have hza : w.heap.size < w1.heap.size := by omega); replace hB := below_on (w := w) ((by repeat (first | with_reducible exact hB | with_reducible exact Below.refl _ _ | with_reducible refine below_al ?_ _ | with_reducible refine below_st ?_ (by first | exact Nat.le_refl _ | exact Nat.le_add_right _ _ | (simp; omega)) _))) hb1; clear hb1; rw [hu]))
    go_ret
    exact ⟨by rw [HS.out]; first | rfl | (simp [tliE]; omega), hB⟩
   ·
    have h4' : ¬ i.b < -128 := by omega
    go_wp2_with (first | (go_at_call 60; refine (kind_any _ _).mono ?_; rintro e w' ⟨rfl, rfl⟩; rw [HK.out]) | (go_at_call 103; refine (uf_any i 5 (by omega) _).mono ?_; rintro e w1 ⟨rfl, hb1⟩; obtain ⟨hc1, hf1⟩ := bcell hb1; have hz1 := hb1.size; (try have hza : w.heap.size < w1.heap.size := by omega); replace hB := below_on (w := w) ((by repeat (first | with_reducible exact hB | with_reducible exact Below.refl _ _ | with_reducible refine below_al ?_ _ | with_reducible refine below_st ?_ (by first | exact Nat.le_refl _ | exact Nat.le_add_right _ _ | (simp; omega)) _))) hb1; clear hb1; rw [hu]))
    go_ret
    exact ⟨by rw [HS.out]; first | rfl | (simp [tliE]; omega), hB⟩
  ·
   have hs := HS.out
   rw [if_neg h4] at hs
   replace HS := Lib.hid hs
   clear hs
   have h4' : ¬ i.b < -128 := by omega
   have h4'' : ¬ 127 < i.b := by omega
   clear h4
   by_cases h6 : i.a < 0 ∨ 32 ≤ i.a
   ·
    have hs : K = 21 := by rw [HS.out, if_pos h6]
    replace HS := Lib.hid hs
    clear hs
    rcases h6 with h6 | h6
    ·
     go_wp2_with (first | (go_at_call 60; refine (kind_any _ _).mono ?_; rintro e w' ⟨rfl, rfl⟩; rw [HK.out]) | (go_at_call 103; refine (uf_any i 5 (by omega) _).mono ?_; rintro e w1 ⟨rfl, hb1⟩; obtain ⟨hc1, hf1⟩ := bcell hb1; have hz1 := hb1.size; (try have hza : w.heap.size < w1.heap.size := by omega); replace hB := below_on (w := w) ((by repeat (first | with_reducible exact hB | with_reducible exact Below.refl _ _ | with_reducible refine below_al ?_ _ | with_reducible refine below_st ?_ (by first | exact Nat.le_refl _ | exact Nat.le_add_right _ _ | (simp; omega)) _))) hb1; clear hb1; rw [hu]))
     go_ret
     exact ⟨by rw [HS.out]; first | rfl | (simp [tliE]; omega), hB⟩
    ·
     have h6' : ¬ i.a < 0 := by omega
     go_wp2_with (first | (go_at_call 60; refine (kind_any _ _).mono ?_; rintro e w' ⟨rfl, rfl⟩; rw [HK.out]) | (go_at_call 103; refine (uf_any i 5 (by omega) _).mono ?_; rintro e w1 ⟨rfl, hb1⟩; obtain ⟨hc1, hf1⟩ := bcell hb1; have hz1 := hb1.size; (try have hza : w.heap.size < w1.heap.size := by omega); replace hB := below_on (w := w) ((by repeat (first | with_reducible exact hB | with_reducible exact Below.refl _ _ | with_reducible refine below_al ?_ _ | with_reducible refine below_st ?_ (by first | exact Nat.le_refl _ | exact Nat.le_add_right _ _ | (simp; omega)) _))) hb1; clear hb1; rw [hu]))
     go_ret
     exact ⟨by rw [HS.out]; first | rfl | (simp [tliE]; omega), hB⟩
   ·
    have hs := HS.out
    rw [if_neg h6] at hs
    replace HS := Lib.hid hs
    clear hs
    have h6' : ¬ i.a < 0 := by omega
    have h6'' : ¬ 32 ≤ i.a := by omega
    clear h6
    go_wp2_with (first | (go_at_call 60; refine (kind_any _ _).mono ?_; rintro e w' ⟨rfl, rfl⟩; rw [HK.out]) | (go_at_call 103; refine (uf_any i 5 (by omega) _).mono ?_; rintro e w1 ⟨rfl, hb1⟩; obtain ⟨hc1, hf1⟩ := bcell hb1; have hz1 := hb1.size; (try have hza : w.heap.size < w1.heap.size := by omega); replace hB := below_on (w := w) ((by repeat (first | with_reducible exact hB | with_reducible exact Below.refl _ _ | with_reducible refine below_al ?_ _ | with_reducible refine below_st ?_ (by first | exact Nat.le_refl _ | exact Nat.le_add_right _ _ | (simp; omega)) _))) hb1; clear hb1; rw [hu]))
    go_ret
    exact ⟨by rw [HS.out]; first | rfl | (simp [tliE]; omega), hB⟩
set_option maxRecDepth 100000 in
set_option maxHeartbeats 2000000 in
theorem chk_6 (i : In) (w : World) (hok : i.ok w w.heap.size) (hk : kindV i.op = 6) : Calls Tryz.prog 59 #[(Value.agg #[Value.int IntKind.i64 (In.op i), Value.int IntKind.i64 (In.a i), Value.int IntKind.i64 (In.b i), Value.int IntKind.i64 (In.t i), Value.slice (In.kA i) (In.kn i) (In.kc i), Value.slice (In.tA i) (In.tn i) (In.tc i), Value.string (In.r1 i), Value.string (In.r2 i), Value.string (In.r3 i), Value.string (In.s i)])] w fun e w' => e = .returned (.int .i64 (ciE i)) ∧ Below w.heap.size w w' := by
 have hB : Below w.heap.size w w := Below.refl _ _
 have OK := Lib.hid hok
 clear hok
 have HS := Lib.hid (ci_eq i)
 have HK := Lib.hid hk
 generalize ciE i = K at HS ⊢
 clear hk
 go_enter Tryz.func59, Tryz.ntmps59
 go_upto_region 1 with fail
 have R := World.alloc_heap_new w (.cells #[.int .i64 i.op, .int .i64 i.a, .int .i64 i.b, .int .i64 i.t, .slice i.kA i.kn i.kc, .slice i.tA i.tn i.tc, .string i.r1, .string i.r2, .string i.r3, .string i.s] 50)
 replace hB := below_al hB (.cells #[.int .i64 i.op, .int .i64 i.a, .int .i64 i.b, .int .i64 i.t, .slice i.kA i.kn i.kc, .slice i.tA i.tn i.tc, .string i.r1, .string i.r2, .string i.r3, .string i.s] 50)
 generalize w.alloc (.cells #[.int .i64 i.op, .int .i64 i.a, .int .i64 i.b, .int .i64 i.t, .slice i.kA i.kn i.kc, .slice i.tA i.tn i.tc, .string i.r1, .string i.r2, .string i.r3, .string i.s] 50) = W1 at R hB ⊢
 obtain ⟨r0, r1, r2, r3, r4, r5, r6, r7, r8, r9⟩ := ten_cells R
 have y1 := lt_heap R
 replace R := Lib.hid R
 cases hu : unB 6 i with
 | true =>
  have hs : K = 4 := by rw [HS.out, HK.out, hu]; rfl
  replace HS := Lib.hid hs
  clear hs
  go_wp2_with (first | (go_at_call 60; refine (kind_any _ _).mono ?_; rintro e w' ⟨rfl, rfl⟩; rw [HK.out]) | (go_at_call 103; refine (uf_any i 6 (by omega) _).mono ?_; rintro e w1 ⟨rfl, hb1⟩; obtain ⟨hc1, hf1⟩ := bcell hb1; have hz1 := hb1.size; (try have hza : w.heap.size < w1.heap.size := by omega); replace hB := below_on (w := w) ((by repeat (first | with_reducible exact hB | with_reducible exact Below.refl _ _ | with_reducible refine below_al ?_ _ | with_reducible refine below_st ?_ (by first | exact Nat.le_refl _ | exact Nat.le_add_right _ _ | (simp; omega)) _))) hb1; clear hb1; rw [hu]))
  go_ret
  exact ⟨by rw [HS.out]; rfl, hB⟩
 | false =>
  have hs : K = ciK 6 i := by rw [HS.out, HK.out, hu]; rfl
  replace HS := Lib.hid hs
  clear hs
  go_wp2_with (first | (go_at_call 60; refine (kind_any _ _).mono ?_; rintro e w' ⟨rfl, rfl⟩; rw [HK.out]) | (go_at_call 103; refine (uf_any i 6 (by omega) _).mono ?_; rintro e w1 ⟨rfl, hb1⟩; obtain ⟨hc1, hf1⟩ := bcell hb1; have hz1 := hb1.size; (try have hza : w.heap.size < w1.heap.size := by omega); replace hB := below_on (w := w) ((by repeat (first | with_reducible exact hB | with_reducible exact Below.refl _ _ | with_reducible refine below_al ?_ _ | with_reducible refine below_st ?_ (by first | exact Nat.le_refl _ | exact Nat.le_add_right _ _ | (simp; omega)) _))) hb1; clear hb1; rw [hu]) | (go_at_call 105; refine (chb_any i 6 (by omega) _ (OK.out.up (by repeat (first | with_reducible exact hB | with_reducible exact Below.refl _ _ | with_reducible refine below_al ?_ _ | with_reducible refine below_st ?_ (by first | exact Nat.le_refl _ | exact Nat.le_add_right _ _ | (simp; omega)) _)))).mono ?_; rintro e w1 ⟨rfl, hb1⟩; obtain ⟨hc1, hf1⟩ := bcell hb1; have hz1 := hb1.size; (try simp only [World.size_alloc, World.size_setCell] at hz1); (try have hza : w.heap.size < w1.heap.size := by omega); (try have hzb : w.heap.size + 1 < w1.heap.size := by omega); (try have hzc : w.heap.size + 1 + 1 < w1.heap.size := by omega); (try have hzd : wa.heap.size < w1.heap.size := by omega); (try replace hR := (hb1.block w.heap.size (by first | exact lt_heap hR | (have := lt_heap hR; simp; omega))).trans (by first | with_reducible exact hR | with_reducible exact laid_old hR)); replace hB := below_on (w := w) ((by repeat (first | with_reducible exact hB | with_reducible exact Below.refl _ _ | with_reducible refine below_al ?_ _ | with_reducible refine below_st ?_ (by first | exact Nat.le_refl _ | exact Nat.le_add_right _ _ | (simp; omega)) _))) hb1; clear hb1))
  go_ret
  exact ⟨by rw [HS.out]; rfl, hB⟩
set_option maxRecDepth 100000 in
set_option maxHeartbeats 2000000 in
theorem chk_7 (i : In) (w : World) (hok : i.ok w w.heap.size) (hk : kindV i.op = 7) : Calls Tryz.prog 59 #[(Value.agg #[Value.int IntKind.i64 (In.op i), Value.int IntKind.i64 (In.a i), Value.int IntKind.i64 (In.b i), Value.int IntKind.i64 (In.t i), Value.slice (In.kA i) (In.kn i) (In.kc i), Value.slice (In.tA i) (In.tn i) (In.tc i), Value.string (In.r1 i), Value.string (In.r2 i), Value.string (In.r3 i), Value.string (In.s i)])] w fun e w' => e = .returned (.int .i64 (ciE i)) ∧ Below w.heap.size w w' := by
 have hB : Below w.heap.size w w := Below.refl _ _
 have OK := Lib.hid hok
 clear hok
 have HS := Lib.hid (ci_eq i)
 have HK := Lib.hid hk
 generalize ciE i = K at HS ⊢
 clear hk
 go_enter Tryz.func59, Tryz.ntmps59
 go_upto_region 1 with fail
 have R := World.alloc_heap_new w (.cells #[.int .i64 i.op, .int .i64 i.a, .int .i64 i.b, .int .i64 i.t, .slice i.kA i.kn i.kc, .slice i.tA i.tn i.tc, .string i.r1, .string i.r2, .string i.r3, .string i.s] 50)
 replace hB := below_al hB (.cells #[.int .i64 i.op, .int .i64 i.a, .int .i64 i.b, .int .i64 i.t, .slice i.kA i.kn i.kc, .slice i.tA i.tn i.tc, .string i.r1, .string i.r2, .string i.r3, .string i.s] 50)
 generalize w.alloc (.cells #[.int .i64 i.op, .int .i64 i.a, .int .i64 i.b, .int .i64 i.t, .slice i.kA i.kn i.kc, .slice i.tA i.tn i.tc, .string i.r1, .string i.r2, .string i.r3, .string i.s] 50) = W1 at R hB ⊢
 obtain ⟨r0, r1, r2, r3, r4, r5, r6, r7, r8, r9⟩ := ten_cells R
 have y1 := lt_heap R
 replace R := Lib.hid R
 cases hu : unB 7 i with
 | true =>
  have hs : K = 4 := by rw [HS.out, HK.out, hu]; rfl
  replace HS := Lib.hid hs
  clear hs
  go_wp2_with (first | (go_at_call 60; refine (kind_any _ _).mono ?_; rintro e w' ⟨rfl, rfl⟩; rw [HK.out]) | (go_at_call 103; refine (uf_any i 7 (by omega) _).mono ?_; rintro e w1 ⟨rfl, hb1⟩; obtain ⟨hc1, hf1⟩ := bcell hb1; have hz1 := hb1.size; (try have hza : w.heap.size < w1.heap.size := by omega); replace hB := below_on (w := w) ((by repeat (first | with_reducible exact hB | with_reducible exact Below.refl _ _ | with_reducible refine below_al ?_ _ | with_reducible refine below_st ?_ (by first | exact Nat.le_refl _ | exact Nat.le_add_right _ _ | (simp; omega)) _))) hb1; clear hb1; rw [hu]))
  go_ret
  exact ⟨by rw [HS.out]; rfl, hB⟩
 | false =>
  have hs : K = ciK 7 i := by rw [HS.out, HK.out, hu]; rfl
  replace HS := Lib.hid hs
  clear hs
  go_wp2_with (first | (go_at_call 60; refine (kind_any _ _).mono ?_; rintro e w' ⟨rfl, rfl⟩; rw [HK.out]) | (go_at_call 103; refine (uf_any i 7 (by omega) _).mono ?_; rintro e w1 ⟨rfl, hb1⟩; obtain ⟨hc1, hf1⟩ := bcell hb1; have hz1 := hb1.size; (try have hza : w.heap.size < w1.heap.size := by omega); replace hB := below_on (w := w) ((by repeat (first | with_reducible exact hB | with_reducible exact Below.refl _ _ | with_reducible refine below_al ?_ _ | with_reducible refine below_st ?_ (by first | exact Nat.le_refl _ | exact Nat.le_add_right _ _ | (simp; omega)) _))) hb1; clear hb1; rw [hu]) | (go_at_call 105; refine (chb_any i 7 (by omega) _ (OK.out.up (by repeat (first | with_reducible exact hB | with_reducible exact Below.refl _ _ | with_reducible refine below_al ?_ _ | with_reducible refine below_st ?_ (by first | exact Nat.le_refl _ | exact Nat.le_add_right _ _ | (simp; omega)) _)))).mono ?_; rintro e w1 ⟨rfl, hb1⟩; obtain ⟨hc1, hf1⟩ := bcell hb1; have hz1 := hb1.size; (try simp only [World.size_alloc, World.size_setCell] at hz1); (try have hza : w.heap.size < w1.heap.size := by omega); (try have hzb : w.heap.size + 1 < w1.heap.size := by omega); (try have hzc : w.heap.size + 1 + 1 < w1.heap.size := by omega); (try have hzd : wa.heap.size < w1.heap.size := by omega); (try replace hR := (hb1.block w.heap.size (by first | exact lt_heap hR | (have := lt_heap hR; simp; omega))).trans (by first | with_reducible exact hR | with_reducible exact laid_old hR)); replace hB := below_on (w := w) ((by repeat (first | with_reducible exact hB | with_reducible exact Below.refl _ _ | with_reducible refine below_al ?_ _ | with_reducible refine below_st ?_ (by first | exact Nat.le_refl _ | exact Nat.le_add_right _ _ | (simp; omega)) _))) hb1; clear hb1))
  go_ret
  exact ⟨by rw [HS.out]; rfl, hB⟩
set_option maxRecDepth 100000 in
set_option maxHeartbeats 2000000 in
theorem rchk_m (i : In) (w : World) (hok : i.ok w w.heap.size) (hk : kindV i.op = -1) : Calls Tryz.prog 69 #[(Value.agg #[Value.int IntKind.i64 (In.op i), Value.int IntKind.i64 (In.a i), Value.int IntKind.i64 (In.b i), Value.int IntKind.i64 (In.t i), Value.slice (In.kA i) (In.kn i) (In.kc i), Value.slice (In.tA i) (In.tn i) (In.tc i), Value.string (In.r1 i), Value.string (In.r2 i), Value.string (In.r3 i), Value.string (In.s i)])] w fun e w' => e = .returned (.int .i64 (ciE i)) ∧ Below w.heap.size w w' := by
 have hB : Below w.heap.size w w := Below.refl _ _
 have OK := Lib.hid hok
 clear hok
 have HS := Lib.hid (ci_eq i)
 have HK := Lib.hid hk
 generalize ciE i = K at HS ⊢
 clear hk
 go_enter Tryz.func69, Tryz.ntmps69
 go_upto_region 1 with fail
 have R := World.alloc_heap_new w (.cells #[.int .i64 i.op, .int .i64 i.a, .int .i64 i.b, .int .i64 i.t, .slice i.kA i.kn i.kc, .slice i.tA i.tn i.tc, .string i.r1, .string i.r2, .string i.r3, .string i.s] 50)
 replace hB := below_al hB (.cells #[.int .i64 i.op, .int .i64 i.a, .int .i64 i.b, .int .i64 i.t, .slice i.kA i.kn i.kc, .slice i.tA i.tn i.tc, .string i.r1, .string i.r2, .string i.r3, .string i.s] 50)
 generalize w.alloc (.cells #[.int .i64 i.op, .int .i64 i.a, .int .i64 i.b, .int .i64 i.t, .slice i.kA i.kn i.kc, .slice i.tA i.tn i.tc, .string i.r1, .string i.r2, .string i.r3, .string i.s] 50) = W1 at R hB ⊢
 obtain ⟨r0, r1, r2, r3, r4, r5, r6, r7, r8, r9⟩ := ten_cells R
 have y1 := lt_heap R
 replace R := Lib.hid R
 have hs : K = 15 := by rw [HS.out, HK.out]; rfl
 replace HS := Lib.hid hs
 clear hs
 go_wp2_with (go_at_call 71; refine (rkind_any _ _).mono ?_; rintro e w' ⟨rfl, rfl⟩; rw [HK.out])
 go_ret
 exact ⟨by rw [HS.out]; rfl, (by repeat (first | with_reducible exact hB | with_reducible exact Below.refl _ _ | with_reducible refine below_al ?_ _ | with_reducible refine below_st ?_ (by first | exact Nat.le_refl _ | exact Nat.le_add_right _ _ | (simp; omega)) _))⟩
set_option maxRecDepth 100000 in
set_option maxHeartbeats 2000000 in
theorem rchk_0 (i : In) (w : World) (hok : i.ok w w.heap.size) (hk : kindV i.op = 0) : Calls Tryz.prog 69 #[(Value.agg #[Value.int IntKind.i64 (In.op i), Value.int IntKind.i64 (In.a i), Value.int IntKind.i64 (In.b i), Value.int IntKind.i64 (In.t i), Value.slice (In.kA i) (In.kn i) (In.kc i), Value.slice (In.tA i) (In.tn i) (In.tc i), Value.string (In.r1 i), Value.string (In.r2 i), Value.string (In.r3 i), Value.string (In.s i)])] w fun e w' => e = .returned (.int .i64 (ciE i)) ∧ Below w.heap.size w w' := by
 have hB : Below w.heap.size w w := Below.refl _ _
 have OK := Lib.hid hok
 clear hok
 have HS := Lib.hid (ci_eq i)
 have HK := Lib.hid hk
 generalize ciE i = K at HS ⊢
 clear hk
 go_enter Tryz.func69, Tryz.ntmps69
 go_upto_region 1 with fail
 have R := World.alloc_heap_new w (.cells #[.int .i64 i.op, .int .i64 i.a, .int .i64 i.b, .int .i64 i.t, .slice i.kA i.kn i.kc, .slice i.tA i.tn i.tc, .string i.r1, .string i.r2, .string i.r3, .string i.s] 50)
 replace hB := below_al hB (.cells #[.int .i64 i.op, .int .i64 i.a, .int .i64 i.b, .int .i64 i.t, .slice i.kA i.kn i.kc, .slice i.tA i.tn i.tc, .string i.r1, .string i.r2, .string i.r3, .string i.s] 50)
 generalize w.alloc (.cells #[.int .i64 i.op, .int .i64 i.a, .int .i64 i.b, .int .i64 i.t, .slice i.kA i.kn i.kc, .slice i.tA i.tn i.tc, .string i.r1, .string i.r2, .string i.r3, .string i.s] 50) = W1 at R hB ⊢
 obtain ⟨r0, r1, r2, r3, r4, r5, r6, r7, r8, r9⟩ := ten_cells R
 have y1 := lt_heap R
 replace R := Lib.hid R
 cases hu : unB 0 i with
 | true =>
  have hs : K = 4 := by rw [HS.out, HK.out, hu]; rfl
  replace HS := Lib.hid hs
  clear hs
  go_wp2_with (first | (go_at_call 71; refine (rkind_any _ _).mono ?_; rintro e w' ⟨rfl, rfl⟩; rw [HK.out]) | (go_at_call 117; refine (ufr_any i 0 (by omega) _).mono ?_; rintro e w1 ⟨rfl, hb1⟩; obtain ⟨hc1, hf1⟩ := bcell hb1; have hz1 := hb1.size; (try have hza : w.heap.size < w1.heap.size := by omega); replace hB := below_on (w := w) ((by repeat (first | with_reducible exact hB | with_reducible exact Below.refl _ _ | with_reducible refine below_al ?_ _ | with_reducible refine below_st ?_ (by first | exact Nat.le_refl _ | exact Nat.le_add_right _ _ | (simp; omega)) _))) hb1; clear hb1; rw [hu]))
  go_ret
  exact ⟨by rw [HS.out]; rfl, hB⟩
 | false =>
  have hs : K = ciK 0 i := by rw [HS.out, HK.out, hu]; rfl
  replace HS := Lib.hid hs
  clear hs
  go_wp2_with (first | (go_at_call 71; refine (rkind_any _ _).mono ?_; rintro e w' ⟨rfl, rfl⟩; rw [HK.out]) | (go_at_call 117; refine (ufr_any i 0 (by omega) _).mono ?_; rintro e w1 ⟨rfl, hb1⟩; obtain ⟨hc1, hf1⟩ := bcell hb1; have hz1 := hb1.size; (try have hza : w.heap.size < w1.heap.size := by omega); replace hB := below_on (w := w) ((by repeat (first | with_reducible exact hB | with_reducible exact Below.refl _ _ | with_reducible refine below_al ?_ _ | with_reducible refine below_st ?_ (by first | exact Nat.le_refl _ | exact Nat.le_add_right _ _ | (simp; omega)) _))) hb1; clear hb1; rw [hu]))
  go_ret
  exact ⟨by rw [HS.out]; rfl, hB⟩
set_option maxRecDepth 100000 in
set_option maxHeartbeats 2000000 in
theorem rchk_1 (i : In) (w : World) (hok : i.ok w w.heap.size) (hk : kindV i.op = 1) : Calls Tryz.prog 69 #[(Value.agg #[Value.int IntKind.i64 (In.op i), Value.int IntKind.i64 (In.a i), Value.int IntKind.i64 (In.b i), Value.int IntKind.i64 (In.t i), Value.slice (In.kA i) (In.kn i) (In.kc i), Value.slice (In.tA i) (In.tn i) (In.tc i), Value.string (In.r1 i), Value.string (In.r2 i), Value.string (In.r3 i), Value.string (In.s i)])] w fun e w' => e = .returned (.int .i64 (ciE i)) ∧ Below w.heap.size w w' := by
 have hB : Below w.heap.size w w := Below.refl _ _
 have OK := Lib.hid hok
 clear hok
 have HS := Lib.hid (ci_eq i)
 have HK := Lib.hid hk
 generalize ciE i = K at HS ⊢
 clear hk
 go_enter Tryz.func69, Tryz.ntmps69
 go_upto_region 1 with fail
 have R := World.alloc_heap_new w (.cells #[.int .i64 i.op, .int .i64 i.a, .int .i64 i.b, .int .i64 i.t, .slice i.kA i.kn i.kc, .slice i.tA i.tn i.tc, .string i.r1, .string i.r2, .string i.r3, .string i.s] 50)
 replace hB := below_al hB (.cells #[.int .i64 i.op, .int .i64 i.a, .int .i64 i.b, .int .i64 i.t, .slice i.kA i.kn i.kc, .slice i.tA i.tn i.tc, .string i.r1, .string i.r2, .string i.r3, .string i.s] 50)
 generalize w.alloc (.cells #[.int .i64 i.op, .int .i64 i.a, .int .i64 i.b, .int .i64 i.t, .slice i.kA i.kn i.kc, .slice i.tA i.tn i.tc, .string i.r1, .string i.r2, .string i.r3, .string i.s] 50) = W1 at R hB ⊢
 obtain ⟨r0, r1, r2, r3, r4, r5, r6, r7, r8, r9⟩ := ten_cells R
 have y1 := lt_heap R
 replace R := Lib.hid R
 cases hu : unB 1 i with
 | true =>
  have hs : K = 4 := by rw [HS.out, HK.out, hu]; rfl
  replace HS := Lib.hid hs
  clear hs
  go_wp2_with (first | (go_at_call 71; refine (rkind_any _ _).mono ?_; rintro e w' ⟨rfl, rfl⟩; rw [HK.out]) | (go_at_call 117; refine (ufr_any i 1 (by omega) _).mono ?_; rintro e w1 ⟨rfl, hb1⟩; obtain ⟨hc1, hf1⟩ := bcell hb1; have hz1 := hb1.size; (try have hza : w.heap.size < w1.heap.size := by omega); replace hB := below_on (w := w) ((by repeat (first | with_reducible exact hB | with_reducible exact Below.refl _ _ | with_reducible refine below_al ?_ _ | with_reducible refine below_st ?_ (by first | exact Nat.le_refl _ | exact Nat.le_add_right _ _ | (simp; omega)) _))) hb1; clear hb1; rw [hu]))
  go_ret
  exact ⟨by rw [HS.out]; rfl, hB⟩
 | false =>
  have hs : K = ciK 1 i := by rw [HS.out, HK.out, hu]; rfl
  replace HS := Lib.hid hs
  clear hs
  have hs : K = (if i.a < -128 ∨ 127 < i.a then 8 else 0) := HS.out
  replace HS := Lib.hid hs
  clear hs
  by_cases h4 : i.a < -128 ∨ 127 < i.a
  ·
   have hs : K = 8 := by rw [HS.out, if_pos h4]
   replace HS := Lib.hid hs
   clear hs
   rcases h4 with h4 | h4
   ·
    go_wp2_with (first | (go_at_call 71; refine (rkind_any _ _).mono ?_; rintro e w' ⟨rfl, rfl⟩; rw [HK.out]) | (go_at_call 117; refine (ufr_any i 1 (by omega) _).mono ?_; rintro e w1 ⟨rfl, hb1⟩; obtain ⟨hc1, hf1⟩ := bcell hb1; have hz1 := hb1.size; (try have hza : w.heap.size < w1.heap.size := by omega); replace hB := below_on (w := w) ((by repeat (first | with_reducible exact hB | with_reducible exact Below.refl _ _ | with_reducible refine below_al ?_ _ | with_reducible refine below_st ?_ (by first | exact Nat.le_refl _ | exact Nat.le_add_right _ _ | (simp; omega)) _))) hb1; clear hb1; rw [hu]))
    go_ret
    exact ⟨by rw [HS.out]; first | rfl | (simp [tliE]; omega), hB⟩
   ·
    have h4' : ¬ i.a < -128 := by omega
    go_wp2_with (first | (go_at_call 71; refine (rkind_any _ _).mono ?_; rintro e w' ⟨rfl, rfl⟩; rw [HK.out]) | (go_at_call 117; refine (ufr_any i 1 (by omega) _).mono ?_; rintro e w1 ⟨rfl, hb1⟩; obtain ⟨hc1, hf1⟩ := bcell hb1; have hz1 := hb1.size; (try have hza : w.heap.size < w1.heap.size := by omega); replace hB := below_on (w := w) ((by repeat (first | with_reducible exact hB | with_reducible exact Below.refl _ _ | with_reducible refine below_al ?_ _ | with_reducible refine below_st ?_ (by first | exact Nat.le_refl _ | exact Nat.le_add_right _ _ | (simp; omega)) _))) hb1; clear hb1; rw [hu]))
    go_ret
    exact ⟨by rw [HS.out]; first | rfl | (simp [tliE]; omega), hB⟩
  ·
   have hs := HS.out
   rw [if_neg h4] at hs
   replace HS := Lib.hid hs
   clear hs
   have h4' : ¬ i.a < -128 := by omega
   have h4'' : ¬ 127 < i.a := by omega
   clear h4
   go_wp2_with (first | (go_at_call 71; refine (rkind_any _ _).mono ?_; rintro e w' ⟨rfl, rfl⟩; rw [HK.out]) | (go_at_call 117; refine (ufr_any i 1 (by omega) _).mono ?_; rintro e w1 ⟨rfl, hb1⟩; obtain ⟨hc1, hf1⟩ := bcell hb1; have hz1 := hb1.size; (try have hza : w.heap.size < w1.heap.size := by omega); replace hB := below_on (w := w) ((by repeat (first | with_reducible exact hB | with_reducible exact Below.refl _ _ | with_reducible refine below_al ?_ _ | with_reducible refine below_st ?_ (by first | exact Nat.le_refl _ | exact Nat.le_add_right _ _ | (simp; omega)) _))) hb1; clear hb1; rw [hu]))
   go_ret
   exact ⟨by rw [HS.out]; first | rfl | (simp [tliE]; omega), hB⟩
set_option maxRecDepth 100000 in
set_option maxHeartbeats 2000000 in
theorem rchk_2 (i : In) (w : World) (hok : i.ok w w.heap.size) (hk : kindV i.op = 2) : Calls Tryz.prog 69 #[(Value.agg #[Value.int IntKind.i64 (In.op i), Value.int IntKind.i64 (In.a i), Value.int IntKind.i64 (In.b i), Value.int IntKind.i64 (In.t i), Value.slice (In.kA i) (In.kn i) (In.kc i), Value.slice (In.tA i) (In.tn i) (In.tc i), Value.string (In.r1 i), Value.string (In.r2 i), Value.string (In.r3 i), Value.string (In.s i)])] w fun e w' => e = .returned (.int .i64 (ciE i)) ∧ Below w.heap.size w w' := by
 have hB : Below w.heap.size w w := Below.refl _ _
 have OK := Lib.hid hok
 clear hok
 have HS := Lib.hid (ci_eq i)
 have HK := Lib.hid hk
 generalize ciE i = K at HS ⊢
 clear hk
 go_enter Tryz.func69, Tryz.ntmps69
 go_upto_region 1 with fail
 have R := World.alloc_heap_new w (.cells #[.int .i64 i.op, .int .i64 i.a, .int .i64 i.b, .int .i64 i.t, .slice i.kA i.kn i.kc, .slice i.tA i.tn i.tc, .string i.r1, .string i.r2, .string i.r3, .string i.s] 50)
 replace hB := below_al hB (.cells #[.int .i64 i.op, .int .i64 i.a, .int .i64 i.b, .int .i64 i.t, .slice i.kA i.kn i.kc, .slice i.tA i.tn i.tc, .string i.r1, .string i.r2, .string i.r3, .string i.s] 50)
 generalize w.alloc (.cells #[.int .i64 i.op, .int .i64 i.a, .int .i64 i.b, .int .i64 i.t, .slice i.kA i.kn i.kc, .slice i.tA i.tn i.tc, .string i.r1, .string i.r2, .string i.r3, .string i.s] 50) = W1 at R hB ⊢
 obtain ⟨r0, r1, r2, r3, r4, r5, r6, r7, r8, r9⟩ := ten_cells R
 have y1 := lt_heap R
 replace R := Lib.hid R
 cases hu : unB 2 i with
 | true =>
  have hs : K = 4 := by rw [HS.out, HK.out, hu]; rfl
  replace HS := Lib.hid hs
  clear hs
  go_wp2_with (first | (go_at_call 71; refine (rkind_any _ _).mono ?_; rintro e w' ⟨rfl, rfl⟩; rw [HK.out]) | (go_at_call 117; refine (ufr_any i 2 (by omega) _).mono ?_; rintro e w1 ⟨rfl, hb1⟩; obtain ⟨hc1, hf1⟩ := bcell hb1; have hz1 := hb1.size; (try have hza : w.heap.size < w1.heap.size := by omega); replace hB := below_on (w := w) ((by repeat (first | with_reducible exact hB | with_reducible exact Below.refl _ _ | with_reducible refine below_al ?_ _ | with_reducible refine below_st ?_ (by first | exact Nat.le_refl _ | exact Nat.le_add_right _ _ | (simp; omega)) _))) hb1; clear hb1; rw [hu]))
  go_ret
  exact ⟨by rw [HS.out]; rfl, hB⟩
 | false =>
  have hs : K = ciK 2 i := by rw [HS.out, HK.out, hu]; rfl
  replace HS := Lib.hid hs
  clear hs
  have hs : K = (if i.a < 1 ∨ 1000 < i.a then 2 else 0) := HS.out
  replace HS := Lib.hid hs
  clear hs
  by_cases h4 : i.a < 1 ∨ 1000 < i.a
  ·
   have hs : K = 2 := by rw [HS.out, if_pos h4]
   replace HS := Lib.hid hs
   clear hs
   rcases h4 with h4 | h4
   ·
    go_wp2_with (first | (go_at_call 71; refine (rkind_any _ _).mono ?_; rintro e w' ⟨rfl, rfl⟩; rw [HK.out]) | (go_at_call 117; refine (ufr_any i 2 (by omega) _).mono ?_; rintro e w1 ⟨rfl, hb1⟩; obtain ⟨hc1, hf1⟩ := bcell hb1; have hz1 := hb1.size; (try have hza : w.heap.size < w1.heap.size := by omega); replace hB := below_on (w := w) ((by repeat (first | with_reducible exact hB | with_reducible exact Below.refl _ _ | with_reducible refine below_al ?_ _ | with_reducible refine below_st ?_ (by first | exact Nat.le_refl _ | exact Nat.le_add_right _ _ | (simp; omega)) _))) hb1; clear hb1; rw [hu]))
    go_ret
    exact ⟨by rw [HS.out]; first | rfl | (simp [tliE]; omega), hB⟩
   ·
    have h4' : ¬ i.a < 1 := by omega
    go_wp2_with (first | (go_at_call 71; refine (rkind_any _ _).mono ?_; rintro e w' ⟨rfl, rfl⟩; rw [HK.out]) | (go_at_call 117; refine (ufr_any i 2 (by omega) _).mono ?_; rintro e w1 ⟨rfl, hb1⟩; obtain ⟨hc1, hf1⟩ := bcell hb1; have hz1 := hb1.size; (try have hza : w.heap.size < w1.heap.size := by omega); replace hB := below_on (w := w) ((by repeat (first | with_reducible exact hB | with_reducible exact Below.refl _ _ | with_reducible refine below_al ?_ _ | with_reducible refine below_st ?_ (by first | exact Nat.le_refl _ | exact Nat.le_add_right _ _ | (simp; omega)) _))) hb1; clear hb1; rw [hu]))
    go_ret
    exact ⟨by rw [HS.out]; first | rfl | (simp [tliE]; omega), hB⟩
  ·
   have hs := HS.out
   rw [if_neg h4] at hs
   replace HS := Lib.hid hs
   clear hs
   have h4' : ¬ i.a < 1 := by omega
   have h4'' : ¬ 1000 < i.a := by omega
   clear h4
   go_wp2_with (first | (go_at_call 71; refine (rkind_any _ _).mono ?_; rintro e w' ⟨rfl, rfl⟩; rw [HK.out]) | (go_at_call 117; refine (ufr_any i 2 (by omega) _).mono ?_; rintro e w1 ⟨rfl, hb1⟩; obtain ⟨hc1, hf1⟩ := bcell hb1; have hz1 := hb1.size; (try have hza : w.heap.size < w1.heap.size := by omega); replace hB := below_on (w := w) ((by repeat (first | with_reducible exact hB | with_reducible exact Below.refl _ _ | with_reducible refine below_al ?_ _ | with_reducible refine below_st ?_ (by first | exact Nat.le_refl _ | exact Nat.le_add_right _ _ | (simp; omega)) _))) hb1; clear hb1; rw [hu]))
   go_ret
   exact ⟨by rw [HS.out]; first | rfl | (simp [tliE]; omega), hB⟩
set_option maxRecDepth 100000 in
set_option maxHeartbeats 2000000 in
theorem rchk_3 (i : In) (w : World) (hok : i.ok w w.heap.size) (hk : kindV i.op = 3) : Calls Tryz.prog 69 #[(Value.agg #[Value.int IntKind.i64 (In.op i), Value.int IntKind.i64 (In.a i), Value.int IntKind.i64 (In.b i), Value.int IntKind.i64 (In.t i), Value.slice (In.kA i) (In.kn i) (In.kc i), Value.slice (In.tA i) (In.tn i) (In.tc i), Value.string (In.r1 i), Value.string (In.r2 i), Value.string (In.r3 i), Value.string (In.s i)])] w fun e w' => e = .returned (.int .i64 (ciE i)) ∧ Below w.heap.size w w' := by
 have hB : Below w.heap.size w w := Below.refl _ _
 have OK := Lib.hid hok
 clear hok
 have HS := Lib.hid (ci_eq i)
 have HK := Lib.hid hk
 generalize ciE i = K at HS ⊢
 clear hk
 go_enter Tryz.func69, Tryz.ntmps69
 go_upto_region 1 with fail
 have R := World.alloc_heap_new w (.cells #[.int .i64 i.op, .int .i64 i.a, .int .i64 i.b, .int .i64 i.t, .slice i.kA i.kn i.kc, .slice i.tA i.tn i.tc, .string i.r1, .string i.r2, .string i.r3, .string i.s] 50)
 replace hB := below_al hB (.cells #[.int .i64 i.op, .int .i64 i.a, .int .i64 i.b, .int .i64 i.t, .slice i.kA i.kn i.kc, .slice i.tA i.tn i.tc, .string i.r1, .string i.r2, .string i.r3, .string i.s] 50)
 generalize w.alloc (.cells #[.int .i64 i.op, .int .i64 i.a, .int .i64 i.b, .int .i64 i.t, .slice i.kA i.kn i.kc, .slice i.tA i.tn i.tc, .string i.r1, .string i.r2, .string i.r3, .string i.s] 50) = W1 at R hB ⊢
 obtain ⟨r0, r1, r2, r3, r4, r5, r6, r7, r8, r9⟩ := ten_cells R
 have y1 := lt_heap R
 replace R := Lib.hid R
 cases hu : unB 3 i with
 | true =>
  have hs : K = 4 := by rw [HS.out, HK.out, hu]; rfl
  replace HS := Lib.hid hs
  clear hs
  go_wp2_with (first | (go_at_call 71; refine (rkind_any _ _).mono ?_; rintro e w' ⟨rfl, rfl⟩; rw [HK.out]) | (go_at_call 117; refine (ufr_any i 3 (by omega) _).mono ?_; rintro e w1 ⟨rfl, hb1⟩; obtain ⟨hc1, hf1⟩ := bcell hb1; have hz1 := hb1.size; (try have hza : w.heap.size < w1.heap.size := by omega); replace hB := below_on (w := w) ((by repeat (first | with_reducible exact hB | with_reducible exact Below.refl _ _ | with_reducible refine below_al ?_ _ | with_reducible refine below_st ?_ (by first | exact Nat.le_refl _ | exact Nat.le_add_right _ _ | (simp; omega)) _))) hb1; clear hb1; rw [hu]))
  go_ret
  exact ⟨by rw [HS.out]; rfl, hB⟩
 | false =>
  have hs : K = ciK 3 i := by rw [HS.out, HK.out, hu]; rfl
  replace HS := Lib.hid hs
  clear hs
  have hs : K = if tgB i = true then 16 else 0 := HS.out
  cases hg : tgB i with
  | true =>
   rw [hg, if_pos rfl] at hs
   replace HS := Lib.hid hs
   clear hs
   go_wp2_with (first | (go_at_call 71; refine (rkind_any _ _).mono ?_; rintro e w' ⟨rfl, rfl⟩; rw [HK.out]) | (go_at_call 117; refine (ufr_any i 3 (by omega) _).mono ?_; rintro e w1 ⟨rfl, hb1⟩; obtain ⟨hc1, hf1⟩ := bcell hb1; have hz1 := hb1.size; (try have hza : w.heap.size < w1.heap.size := by omega); replace hB := below_on (w := w) ((by repeat (first | with_reducible exact hB | with_reducible exact Below.refl _ _ | with_reducible refine below_al ?_ _ | with_reducible refine below_st ?_ (by first | exact Nat.le_refl _ | exact Nat.le_add_right _ _ | (simp; omega)) _))) hb1; clear hb1; rw [hu]) | (go_at_call 118; refine (aim_any i _ (OK.out.up (by repeat (first | with_reducible exact hB | with_reducible exact Below.refl _ _ | with_reducible refine below_al ?_ _ | with_reducible refine below_st ?_ (by first | exact Nat.le_refl _ | exact Nat.le_add_right _ _ | (simp; omega)) _)))).mono ?_; rintro e w1 ⟨rfl, hb1⟩; obtain ⟨hc1, hf1⟩ := bcell hb1; have hz1 := hb1.size; (try have hza : w.heap.size < w1.heap.size := by omega); replace hB := below_on (w := w) ((by repeat (first | with_reducible exact hB | with_reducible exact Below.refl _ _ | with_reducible refine below_al ?_ _ | with_reducible refine below_st ?_ (by first | exact Nat.le_refl _ | exact Nat.le_add_right _ _ | (simp; omega)) _))) hb1; clear hb1; rw [hg]))
   go_ret
   exact ⟨by rw [HS.out]; rfl, hB⟩
  | false =>
   rw [hg, if_neg (by simp)] at hs
   replace HS := Lib.hid hs
   clear hs
   go_wp2_with (first | (go_at_call 71; refine (rkind_any _ _).mono ?_; rintro e w' ⟨rfl, rfl⟩; rw [HK.out]) | (go_at_call 117; refine (ufr_any i 3 (by omega) _).mono ?_; rintro e w1 ⟨rfl, hb1⟩; obtain ⟨hc1, hf1⟩ := bcell hb1; have hz1 := hb1.size; (try have hza : w.heap.size < w1.heap.size := by omega); replace hB := below_on (w := w) ((by repeat (first | with_reducible exact hB | with_reducible exact Below.refl _ _ | with_reducible refine below_al ?_ _ | with_reducible refine below_st ?_ (by first | exact Nat.le_refl _ | exact Nat.le_add_right _ _ | (simp; omega)) _))) hb1; clear hb1; rw [hu]) | (go_at_call 118; refine (aim_any i _ (OK.out.up (by repeat (first | with_reducible exact hB | with_reducible exact Below.refl _ _ | with_reducible refine below_al ?_ _ | with_reducible refine below_st ?_ (by first | exact Nat.le_refl _ | exact Nat.le_add_right _ _ | (simp; omega)) _)))).mono ?_; rintro e w1 ⟨rfl, hb1⟩; obtain ⟨hc1, hf1⟩ := bcell hb1; have hz1 := hb1.size; (try have hza : w.heap.size < w1.heap.size := by omega); replace hB := below_on (w := w) ((by repeat (first | with_reducible exact hB | with_reducible exact Below.refl _ _ | with_reducible refine below_al ?_ _ | with_reducible refine below_st ?_ (by first | exact Nat.le_refl _ | exact Nat.le_add_right _ _ | (simp; omega)) _))) hb1; clear hb1; rw [hg]))
   go_ret
   exact ⟨by rw [HS.out]; rfl, hB⟩
set_option maxRecDepth 100000 in
set_option maxHeartbeats 2000000 in
theorem rchk_4 (i : In) (w : World) (hok : i.ok w w.heap.size) (hk : kindV i.op = 4) : Calls Tryz.prog 69 #[(Value.agg #[Value.int IntKind.i64 (In.op i), Value.int IntKind.i64 (In.a i), Value.int IntKind.i64 (In.b i), Value.int IntKind.i64 (In.t i), Value.slice (In.kA i) (In.kn i) (In.kc i), Value.slice (In.tA i) (In.tn i) (In.tc i), Value.string (In.r1 i), Value.string (In.r2 i), Value.string (In.r3 i), Value.string (In.s i)])] w fun e w' => e = .returned (.int .i64 (ciE i)) ∧ Below w.heap.size w w' := by
 have hB : Below w.heap.size w w := Below.refl _ _
 have OK := Lib.hid hok
 clear hok
 have HS := Lib.hid (ci_eq i)
 have HK := Lib.hid hk
 generalize ciE i = K at HS ⊢
 clear hk
 go_enter Tryz.func69, Tryz.ntmps69
 go_upto_region 1 with fail
 have R := World.alloc_heap_new w (.cells #[.int .i64 i.op, .int .i64 i.a, .int .i64 i.b, .int .i64 i.t, .slice i.kA i.kn i.kc, .slice i.tA i.tn i.tc, .string i.r1, .string i.r2, .string i.r3, .string i.s] 50)
 replace hB := below_al hB (.cells #[.int .i64 i.op, .int .i64 i.a, .int .i64 i.b, .int .i64 i.t, .slice i.kA i.kn i.kc, .slice i.tA i.tn i.tc, .string i.r1, .string i.r2, .string i.r3, .string i.s] 50)
 generalize w.alloc (.cells #[.int .i64 i.op, .int .i64 i.a, .int .i64 i.b, .int .i64 i.t, .slice i.kA i.kn i.kc, .slice i.tA i.tn i.tc, .string i.r1, .string i.r2, .string i.r3, .string i.s] 50) = W1 at R hB ⊢
 obtain ⟨r0, r1, r2, r3, r4, r5, r6, r7, r8, r9⟩ := ten_cells R
 have y1 := lt_heap R
 replace R := Lib.hid R
 cases hu : unB 4 i with
 | true =>
  have hs : K = 4 := by rw [HS.out, HK.out, hu]; rfl
  replace HS := Lib.hid hs
  clear hs
  go_wp2_with (first | (go_at_call 71; refine (rkind_any _ _).mono ?_; rintro e w' ⟨rfl, rfl⟩; rw [HK.out]) | (go_at_call 117; refine (ufr_any i 4 (by omega) _).mono ?_; rintro e w1 ⟨rfl, hb1⟩; obtain ⟨hc1, hf1⟩ := bcell hb1; have hz1 := hb1.size; (try have hza : w.heap.size < w1.heap.size := by omega); replace hB := below_on (w := w) ((by repeat (first | with_reducible exact hB | with_reducible exact Below.refl _ _ | with_reducible refine below_al ?_ _ | with_reducible refine below_st ?_ (by first | exact Nat.le_refl _ | exact Nat.le_add_right _ _ | (simp; omega)) _))) hb1; clear hb1; rw [hu]))
  go_ret
  exact ⟨by rw [HS.out]; rfl, hB⟩
 | false =>
  have hs : K = ciK 4 i := by rw [HS.out, HK.out, hu]; rfl
  replace HS := Lib.hid hs
  clear hs
  have hs : K = (if i.a < 0 ∨ 32 ≤ i.a then 21 else 0) := HS.out
  replace HS := Lib.hid hs
  clear hs
  by_cases h4 : i.a < 0 ∨ 32 ≤ i.a
  ·
   have hs : K = 21 := by rw [HS.out, if_pos h4]
   replace HS := Lib.hid hs
   clear hs
   rcases h4 with h4 | h4
   ·
    go_wp2_with (first | (go_at_call 71; refine (rkind_any _ _).mono ?_; rintro e w' ⟨rfl, rfl⟩; rw [HK.out]) | (go_at_call 117; refine (ufr_any i 4 (by omega) _).mono ?_; rintro e w1 ⟨rfl, hb1⟩; obtain ⟨hc1, hf1⟩ := bcell hb1; have hz1 := hb1.size; (try have hza : w.heap.size < w1.heap.size := by omega); replace hB := below_on (w := w) ((by repeat (first | with_reducible exact hB | with_reducible exact Below.refl _ _ | with_reducible refine below_al ?_ _ | with_reducible refine below_st ?_ (by first | exact Nat.le_refl _ | exact Nat.le_add_right _ _ | (simp; omega)) _))) hb1; clear hb1; rw [hu]))
    go_ret
    exact ⟨by rw [HS.out]; first | rfl | (simp [tliE]; omega), hB⟩
   ·
    have h4' : ¬ i.a < 0 := by omega
    go_wp2_with (first | (go_at_call 71; refine (rkind_any _ _).mono ?_; rintro e w' ⟨rfl, rfl⟩; rw [HK.out]) | (go_at_call 117; refine (ufr_any i 4 (by omega) _).mono ?_; rintro e w1 ⟨rfl, hb1⟩; obtain ⟨hc1, hf1⟩ := bcell hb1; have hz1 := hb1.size; (try have hza : w.heap.size < w1.heap.size := by omega); replace hB := below_on (w := w) ((by repeat (first | with_reducible exact hB | with_reducible exact Below.refl _ _ | with_reducible refine below_al ?_ _ | with_reducible refine below_st ?_ (by first | exact Nat.le_refl _ | exact Nat.le_add_right _ _ | (simp; omega)) _))) hb1; clear hb1; rw [hu]))
    go_ret
    exact ⟨by rw [HS.out]; first | rfl | (simp [tliE]; omega), hB⟩
  ·
   have hs := HS.out
   rw [if_neg h4] at hs
   replace HS := Lib.hid hs
   clear hs
   have h4' : ¬ i.a < 0 := by omega
   have h4'' : ¬ 32 ≤ i.a := by omega
   clear h4
   go_wp2_with (first | (go_at_call 71; refine (rkind_any _ _).mono ?_; rintro e w' ⟨rfl, rfl⟩; rw [HK.out]) | (go_at_call 117; refine (ufr_any i 4 (by omega) _).mono ?_; rintro e w1 ⟨rfl, hb1⟩; obtain ⟨hc1, hf1⟩ := bcell hb1; have hz1 := hb1.size; (try have hza : w.heap.size < w1.heap.size := by omega); replace hB := below_on (w := w) ((by repeat (first | with_reducible exact hB | with_reducible exact Below.refl _ _ | with_reducible refine below_al ?_ _ | with_reducible refine below_st ?_ (by first | exact Nat.le_refl _ | exact Nat.le_add_right _ _ | (simp; omega)) _))) hb1; clear hb1; rw [hu]))
   go_ret
   exact ⟨by rw [HS.out]; first | rfl | (simp [tliE]; omega), hB⟩
set_option maxRecDepth 100000 in
set_option maxHeartbeats 2000000 in
theorem rchk_5 (i : In) (w : World) (hok : i.ok w w.heap.size) (hk : kindV i.op = 5) : Calls Tryz.prog 69 #[(Value.agg #[Value.int IntKind.i64 (In.op i), Value.int IntKind.i64 (In.a i), Value.int IntKind.i64 (In.b i), Value.int IntKind.i64 (In.t i), Value.slice (In.kA i) (In.kn i) (In.kc i), Value.slice (In.tA i) (In.tn i) (In.tc i), Value.string (In.r1 i), Value.string (In.r2 i), Value.string (In.r3 i), Value.string (In.s i)])] w fun e w' => e = .returned (.int .i64 (ciE i)) ∧ Below w.heap.size w w' := by
 have hB : Below w.heap.size w w := Below.refl _ _
 have OK := Lib.hid hok
 clear hok
 have HS := Lib.hid (ci_eq i)
 have HK := Lib.hid hk
 generalize ciE i = K at HS ⊢
 clear hk
 go_enter Tryz.func69, Tryz.ntmps69
 go_upto_region 1 with fail
 have R := World.alloc_heap_new w (.cells #[.int .i64 i.op, .int .i64 i.a, .int .i64 i.b, .int .i64 i.t, .slice i.kA i.kn i.kc, .slice i.tA i.tn i.tc, .string i.r1, .string i.r2, .string i.r3, .string i.s] 50)
 replace hB := below_al hB (.cells #[.int .i64 i.op, .int .i64 i.a, .int .i64 i.b, .int .i64 i.t, .slice i.kA i.kn i.kc, .slice i.tA i.tn i.tc, .string i.r1, .string i.r2, .string i.r3, .string i.s] 50)
 generalize w.alloc (.cells #[.int .i64 i.op, .int .i64 i.a, .int .i64 i.b, .int .i64 i.t, .slice i.kA i.kn i.kc, .slice i.tA i.tn i.tc, .string i.r1, .string i.r2, .string i.r3, .string i.s] 50) = W1 at R hB ⊢
 obtain ⟨r0, r1, r2, r3, r4, r5, r6, r7, r8, r9⟩ := ten_cells R
 have y1 := lt_heap R
 replace R := Lib.hid R
 cases hu : unB 5 i with
 | true =>
  have hs : K = 4 := by rw [HS.out, HK.out, hu]; rfl
  replace HS := Lib.hid hs
  clear hs
  go_wp2_with (first | (go_at_call 71; refine (rkind_any _ _).mono ?_; rintro e w' ⟨rfl, rfl⟩; rw [HK.out]) | (go_at_call 117; refine (ufr_any i 5 (by omega) _).mono ?_; rintro e w1 ⟨rfl, hb1⟩; obtain ⟨hc1, hf1⟩ := bcell hb1; have hz1 := hb1.size; (try have hza : w.heap.size < w1.heap.size := by omega); replace hB := below_on (w := w) ((by repeat (first | with_reducible exact hB | with_reducible exact Below.refl _ _ | with_reducible refine below_al ?_ _ | with_reducible refine below_st ?_ (by first | exact Nat.le_refl _ | exact Nat.le_add_right _ _ | (simp; omega)) _))) hb1; clear hb1; rw [hu]))
  go_ret
  exact ⟨by rw [HS.out]; rfl, hB⟩
 | false =>
  have hs : K = ciK 5 i := by rw [HS.out, HK.out, hu]; rfl
  replace HS := Lib.hid hs
  clear hs
  have hs : K = (if i.b < -128 ∨ 127 < i.b then 8 else if i.a < 0 ∨ 32 ≤ i.a then 21 else 0) := HS.out
  replace HS := Lib.hid hs
  clear hs
  by_cases h4 : i.b < -128 ∨ 127 < i.b
  ·
   have hs : K = 8 := by rw [HS.out, if_pos h4]
   replace HS := Lib.hid hs
   clear hs
   rcases h4 with h4 | h4
   ·
    go_wp2_with (first | (go_at_call 71; refine (rkind_any _ _).mono ?_; rintro e w' ⟨rfl, rfl⟩; rw [HK.out]) | (go_at_call 117; refine (ufr_any i 5 (by omega) _).mono ?_; rintro e w1 ⟨rfl, hb1⟩; obtain ⟨hc1, hf1⟩ := bcell hb1; have hz1 := hb1.size; (try have hza : w.heap.size < w1.heap.size := by omega); replace hB := below_on (w := w) ((by repeat (first | with_reducible exact hB | with_reducible exact Below.refl _ _ | with_reducible refine below_al ?_ _ | with_reducible refine below_st ?_ (by first | exact Nat.le_refl _ | exact Nat.le_add_right _ _ | (simp; omega)) _))) hb1; clear hb1; rw [hu]))
    go_ret
    exact ⟨by rw [HS.out]; first | rfl | (simp [tliE]; omega), hB⟩
   ·
    have h4' : ¬ i.b < -128 := by omega
    go_wp2_with (first | (go_at_call 71; refine (rkind_any _ _).mono ?_; rintro e w' ⟨rfl, rfl⟩; rw [HK.out]) | (go_at_call 117; refine (ufr_any i 5 (by omega) _).mono ?_; rintro e w1 ⟨rfl, hb1⟩; obtain ⟨hc1, hf1⟩ := bcell hb1; have hz1 := hb1.size; (try have hza : w.heap.size < w1.heap.size := by omega); replace hB := below_on (w := w) ((by repeat (first | with_reducible exact hB | with_reducible exact Below.refl _ _ | with_reducible refine below_al ?_ _ | with_reducible refine below_st ?_ (by first | exact Nat.le_refl _ | exact Nat.le_add_right _ _ | (simp; omega)) _))) hb1; clear hb1; rw [hu]))
    go_ret
    exact ⟨by rw [HS.out]; first | rfl | (simp [tliE]; omega), hB⟩
  ·
   have hs := HS.out
   rw [if_neg h4] at hs
   replace HS := Lib.hid hs
   clear hs
   have h4' : ¬ i.b < -128 := by omega
   have h4'' : ¬ 127 < i.b := by omega
   clear h4
   by_cases h6 : i.a < 0 ∨ 32 ≤ i.a
   ·
    have hs : K = 21 := by rw [HS.out, if_pos h6]
    replace HS := Lib.hid hs
    clear hs
    rcases h6 with h6 | h6
    ·
     go_wp2_with (first | (go_at_call 71; refine (rkind_any _ _).mono ?_; rintro e w' ⟨rfl, rfl⟩; rw [HK.out]) | (go_at_call 117; refine (ufr_any i 5 (by omega) _).mono ?_; rintro e w1 ⟨rfl, hb1⟩; obtain ⟨hc1, hf1⟩ := bcell hb1; have hz1 := hb1.size; (try have hza : w.heap.size < w1.heap.size := by omega); replace hB := below_on (w := w) ((by repeat (first | with_reducible exact hB | with_reducible exact Below.refl _ _ | with_reducible refine below_al ?_ _ | with_reducible refine below_st ?_ (by first | exact Nat.le_refl _ | exact Nat.le_add_right _ _ | (simp; omega)) _))) hb1; clear hb1; rw [hu]))
     go_ret
     exact ⟨by rw [HS.out]; first | rfl | (simp [tliE]; omega), hB⟩
    ·
     have h6' : ¬ i.a < 0 := by omega
     go_wp2_with (first | (go_at_call 71; refine (rkind_any _ _).mono ?_; rintro e w' ⟨rfl, rfl⟩; rw [HK.out]) | (go_at_call 117; refine (ufr_any i 5 (by omega) _).mono ?_; rintro e w1 ⟨rfl, hb1⟩; obtain ⟨hc1, hf1⟩ := bcell hb1; have hz1 := hb1.size; (try have hza : w.heap.size < w1.heap.size := by omega); replace hB := below_on (w := w) ((by repeat (first | with_reducible exact hB | with_reducible exact Below.refl _ _ | with_reducible refine below_al ?_ _ | with_reducible refine below_st ?_ (by first | exact Nat.le_refl _ | exact Nat.le_add_right _ _ | (simp; omega)) _))) hb1; clear hb1; rw [hu]))
     go_ret
     exact ⟨by rw [HS.out]; first | rfl | (simp [tliE]; omega), hB⟩
   ·
    have hs := HS.out
    rw [if_neg h6] at hs
    replace HS := Lib.hid hs
    clear hs
    have h6' : ¬ i.a < 0 := by omega
    have h6'' : ¬ 32 ≤ i.a := by omega
    clear h6
    go_wp2_with (first | (go_at_call 71; refine (rkind_any _ _).mono ?_; rintro e w' ⟨rfl, rfl⟩; rw [HK.out]) | (go_at_call 117; refine (ufr_any i 5 (by omega) _).mono ?_; rintro e w1 ⟨rfl, hb1⟩; obtain ⟨hc1, hf1⟩ := bcell hb1; have hz1 := hb1.size; (try have hza : w.heap.size < w1.heap.size := by omega); replace hB := below_on (w := w) ((by repeat (first | with_reducible exact hB | with_reducible exact Below.refl _ _ | with_reducible refine below_al ?_ _ | with_reducible refine below_st ?_ (by first | exact Nat.le_refl _ | exact Nat.le_add_right _ _ | (simp; omega)) _))) hb1; clear hb1; rw [hu]))
    go_ret
    exact ⟨by rw [HS.out]; first | rfl | (simp [tliE]; omega), hB⟩
set_option maxRecDepth 100000 in
set_option maxHeartbeats 2000000 in
theorem rchk_6 (i : In) (w : World) (hok : i.ok w w.heap.size) (hk : kindV i.op = 6) : Calls Tryz.prog 69 #[(Value.agg #[Value.int IntKind.i64 (In.op i), Value.int IntKind.i64 (In.a i), Value.int IntKind.i64 (In.b i), Value.int IntKind.i64 (In.t i), Value.slice (In.kA i) (In.kn i) (In.kc i), Value.slice (In.tA i) (In.tn i) (In.tc i), Value.string (In.r1 i), Value.string (In.r2 i), Value.string (In.r3 i), Value.string (In.s i)])] w fun e w' => e = .returned (.int .i64 (ciE i)) ∧ Below w.heap.size w w' := by
 have hB : Below w.heap.size w w := Below.refl _ _
 have OK := Lib.hid hok
 clear hok
 have HS := Lib.hid (ci_eq i)
 have HK := Lib.hid hk
 generalize ciE i = K at HS ⊢
 clear hk
 go_enter Tryz.func69, Tryz.ntmps69
 go_upto_region 1 with fail
 have R := World.alloc_heap_new w (.cells #[.int .i64 i.op, .int .i64 i.a, .int .i64 i.b, .int .i64 i.t, .slice i.kA i.kn i.kc, .slice i.tA i.tn i.tc, .string i.r1, .string i.r2, .string i.r3, .string i.s] 50)
 replace hB := below_al hB (.cells #[.int .i64 i.op, .int .i64 i.a, .int .i64 i.b, .int .i64 i.t, .slice i.kA i.kn i.kc, .slice i.tA i.tn i.tc, .string i.r1, .string i.r2, .string i.r3, .string i.s] 50)
 generalize w.alloc (.cells #[.int .i64 i.op, .int .i64 i.a, .int .i64 i.b, .int .i64 i.t, .slice i.kA i.kn i.kc, .slice i.tA i.tn i.tc, .string i.r1, .string i.r2, .string i.r3, .string i.s] 50) = W1 at R hB ⊢
 obtain ⟨r0, r1, r2, r3, r4, r5, r6, r7, r8, r9⟩ := ten_cells R
 have y1 := lt_heap R
 replace R := Lib.hid R
 cases hu : unB 6 i with
 | true =>
  have hs : K = 4 := by rw [HS.out, HK.out, hu]; rfl
  replace HS := Lib.hid hs
  clear hs
  go_wp2_with (first | (go_at_call 71; refine (rkind_any _ _).mono ?_; rintro e w' ⟨rfl, rfl⟩; rw [HK.out]) | (go_at_call 117; refine (ufr_any i 6 (by omega) _).mono ?_; rintro e w1 ⟨rfl, hb1⟩; obtain ⟨hc1, hf1⟩ := bcell hb1; have hz1 := hb1.size; (try have hza : w.heap.size < w1.heap.size := by omega); replace hB := below_on (w := w) ((by repeat (first | with_reducible exact hB | with_reducible exact Below.refl _ _ | with_reducible refine below_al ?_ _ | with_reducible refine below_st ?_ (by first | exact Nat.le_refl _ | exact Nat.le_add_right _ _ | (simp; omega)) _))) hb1; clear hb1; rw [hu]))
  go_ret
  exact ⟨by rw [HS.out]; rfl, hB⟩
 | false =>
  have hs : K = ciK 6 i := by rw [HS.out, HK.out, hu]; rfl
  replace HS := Lib.hid hs
  clear hs
  have hs : K = if tgB i = true then 16 else tsE i := HS.out
  cases hg : tgB i with
  | true =>
   rw [hg, if_pos rfl] at hs
   replace HS := Lib.hid hs
   clear hs
   go_wp2_with (first | (go_at_call 71; refine (rkind_any _ _).mono ?_; rintro e w' ⟨rfl, rfl⟩; rw [HK.out]) | (go_at_call 117; refine (ufr_any i 6 (by omega) _).mono ?_; rintro e w1 ⟨rfl, hb1⟩; obtain ⟨hc1, hf1⟩ := bcell hb1; have hz1 := hb1.size; (try have hza : w.heap.size < w1.heap.size := by omega); replace hB := below_on (w := w) ((by repeat (first | with_reducible exact hB | with_reducible exact Below.refl _ _ | with_reducible refine below_al ?_ _ | with_reducible refine below_st ?_ (by first | exact Nat.le_refl _ | exact Nat.le_add_right _ _ | (simp; omega)) _))) hb1; clear hb1; rw [hu]) | (go_at_call 118; refine (aim_any i _ (OK.out.up (by repeat (first | with_reducible exact hB | with_reducible exact Below.refl _ _ | with_reducible refine below_al ?_ _ | with_reducible refine below_st ?_ (by first | exact Nat.le_refl _ | exact Nat.le_add_right _ _ | (simp; omega)) _)))).mono ?_; rintro e w1 ⟨rfl, hb1⟩; obtain ⟨hc1, hf1⟩ := bcell hb1; have hz1 := hb1.size; (try have hza : w.heap.size < w1.heap.size := by omega); replace hB := below_on (w := w) ((by repeat (first | with_reducible exact hB | with_reducible exact Below.refl _ _ | with_reducible refine below_al ?_ _ | with_reducible refine below_st ?_ (by first | exact Nat.le_refl _ | exact Nat.le_add_right _ _ | (simp; omega)) _))) hb1; clear hb1; rw [hg]))
   go_ret
   exact ⟨by rw [HS.out]; rfl, hB⟩
  | false =>
   rw [hg, if_neg (by simp)] at hs
   replace HS := Lib.hid hs
   clear hs
   go_wp2_with (first | (go_at_call 71; refine (rkind_any _ _).mono ?_; rintro e w' ⟨rfl, rfl⟩; rw [HK.out]) | (go_at_call 117; refine (ufr_any i 6 (by omega) _).mono ?_; rintro e w1 ⟨rfl, hb1⟩; obtain ⟨hc1, hf1⟩ := bcell hb1; have hz1 := hb1.size; (try have hza : w.heap.size < w1.heap.size := by omega); replace hB := below_on (w := w) ((by repeat (first | with_reducible exact hB | with_reducible exact Below.refl _ _ | with_reducible refine below_al ?_ _ | with_reducible refine below_st ?_ (by first | exact Nat.le_refl _ | exact Nat.le_add_right _ _ | (simp; omega)) _))) hb1; clear hb1; rw [hu]) | (go_at_call 118; refine (aim_any i _ (OK.out.up (by repeat (first | with_reducible exact hB | with_reducible exact Below.refl _ _ | with_reducible refine below_al ?_ _ | with_reducible refine below_st ?_ (by first | exact Nat.le_refl _ | exact Nat.le_add_right _ _ | (simp; omega)) _)))).mono ?_; rintro e w1 ⟨rfl, hb1⟩; obtain ⟨hc1, hf1⟩ := bcell hb1; have hz1 := hb1.size; (try have hza : w.heap.size < w1.heap.size := by omega); replace hB := below_on (w := w) ((by repeat (first | with_reducible exact hB | with_reducible exact Below.refl _ _ | with_reducible refine below_al ?_ _ | with_reducible refine below_st ?_ (by first | exact Nat.le_refl _ | exact Nat.le_add_right _ _ | (simp; omega)) _))) hb1; clear hb1; rw [hg]) | (go_at_call 119; refine (rks_t i (kind6.1 HK.out) _ (OK.out.up (by repeat (first | with_reducible exact hB | with_reducible exact Below.refl _ _ | with_reducible refine below_al ?_ _ | with_reducible refine below_st ?_ (by first | exact Nat.le_refl _ | exact Nat.le_add_right _ _ | (simp; omega)) _)))).mono ?_; rintro e w1 ⟨rfl, hb1⟩; obtain ⟨hc1, hf1⟩ := bcell hb1; have hz1 := hb1.size; (try simp only [World.size_alloc, World.size_setCell] at hz1); (try have hza : w.heap.size < w1.heap.size := by omega); (try have hzb : w.heap.size + 1 < w1.heap.size := by omega); (try have hzc : w.heap.size + 1 + 1 < w1.heap.size := by omega); (try have hzd : wa.heap.size < w1.heap.size := by omega); (try replace hR := (hb1.block w.heap.size (by first | exact lt_heap hR | (have := lt_heap hR; simp; omega))).trans (by first | with_reducible exact hR | with_reducible exact laid_old hR)); replace hB := below_on (w := w) ((by repeat (first | with_reducible exact hB | with_reducible exact Below.refl _ _ | with_reducible refine below_al ?_ _ | with_reducible refine below_st ?_ (by first | exact Nat.le_refl _ | exact Nat.le_add_right _ _ | (simp; omega)) _))) hb1; clear hb1))
   go_ret
   exact ⟨by rw [HS.out]; rfl, hB⟩
set_option maxRecDepth 100000 in
set_option maxHeartbeats 2000000 in
theorem rchk_7 (i : In) (w : World) (hok : i.ok w w.heap.size) (hk : kindV i.op = 7) : Calls Tryz.prog 69 #[(Value.agg #[Value.int IntKind.i64 (In.op i), Value.int IntKind.i64 (In.a i), Value.int IntKind.i64 (In.b i), Value.int IntKind.i64 (In.t i), Value.slice (In.kA i) (In.kn i) (In.kc i), Value.slice (In.tA i) (In.tn i) (In.tc i), Value.string (In.r1 i), Value.string (In.r2 i), Value.string (In.r3 i), Value.string (In.s i)])] w fun e w' => e = .returned (.int .i64 (ciE i)) ∧ Below w.heap.size w w' := by
 have hB : Below w.heap.size w w := Below.refl _ _
 have OK := Lib.hid hok
 clear hok
 have HS := Lib.hid (ci_eq i)
 have HK := Lib.hid hk
 generalize ciE i = K at HS ⊢
 clear hk
 go_enter Tryz.func69, Tryz.ntmps69
 go_upto_region 1 with fail
 have R := World.alloc_heap_new w (.cells #[.int .i64 i.op, .int .i64 i.a, .int .i64 i.b, .int .i64 i.t, .slice i.kA i.kn i.kc, .slice i.tA i.tn i.tc, .string i.r1, .string i.r2, .string i.r3, .string i.s] 50)
 replace hB := below_al hB (.cells #[.int .i64 i.op, .int .i64 i.a, .int .i64 i.b, .int .i64 i.t, .slice i.kA i.kn i.kc, .slice i.tA i.tn i.tc, .string i.r1, .string i.r2, .string i.r3, .string i.s] 50)
 generalize w.alloc (.cells #[.int .i64 i.op, .int .i64 i.a, .int .i64 i.b, .int .i64 i.t, .slice i.kA i.kn i.kc, .slice i.tA i.tn i.tc, .string i.r1, .string i.r2, .string i.r3, .string i.s] 50) = W1 at R hB ⊢
 obtain ⟨r0, r1, r2, r3, r4, r5, r6, r7, r8, r9⟩ := ten_cells R
 have y1 := lt_heap R
 replace R := Lib.hid R
 cases hu : unB 7 i with
 | true =>
  have hs : K = 4 := by rw [HS.out, HK.out, hu]; rfl
  replace HS := Lib.hid hs
  clear hs
  go_wp2_with (first | (go_at_call 71; refine (rkind_any _ _).mono ?_; rintro e w' ⟨rfl, rfl⟩; rw [HK.out]) | (go_at_call 117; refine (ufr_any i 7 (by omega) _).mono ?_; rintro e w1 ⟨rfl, hb1⟩; obtain ⟨hc1, hf1⟩ := bcell hb1; have hz1 := hb1.size; (try have hza : w.heap.size < w1.heap.size := by omega); replace hB := below_on (w := w) ((by repeat (first | with_reducible exact hB | with_reducible exact Below.refl _ _ | with_reducible refine below_al ?_ _ | with_reducible refine below_st ?_ (by first | exact Nat.le_refl _ | exact Nat.le_add_right _ _ | (simp; omega)) _))) hb1; clear hb1; rw [hu]))
  go_ret
  exact ⟨by rw [HS.out]; rfl, hB⟩
 | false =>
  have hs : K = ciK 7 i := by rw [HS.out, HK.out, hu]; rfl
  replace HS := Lib.hid hs
  clear hs
  have hs : K = if tgB i = true then 16 else ksE i := HS.out
  cases hg : tgB i with
  | true =>
   rw [hg, if_pos rfl] at hs
   replace HS := Lib.hid hs
   clear hs
   go_wp2_with (first | (go_at_call 71; refine (rkind_any _ _).mono ?_; rintro e w' ⟨rfl, rfl⟩; rw [HK.out]) | (go_at_call 117; refine (ufr_any i 7 (by omega) _).mono ?_; rintro e w1 ⟨rfl, hb1⟩; obtain ⟨hc1, hf1⟩ := bcell hb1; have hz1 := hb1.size; (try have hza : w.heap.size < w1.heap.size := by omega); replace hB := below_on (w := w) ((by repeat (first | with_reducible exact hB | with_reducible exact Below.refl _ _ | with_reducible refine below_al ?_ _ | with_reducible refine below_st ?_ (by first | exact Nat.le_refl _ | exact Nat.le_add_right _ _ | (simp; omega)) _))) hb1; clear hb1; rw [hu]) | (go_at_call 118; refine (aim_any i _ (OK.out.up (by repeat (first | with_reducible exact hB | with_reducible exact Below.refl _ _ | with_reducible refine below_al ?_ _ | with_reducible refine below_st ?_ (by first | exact Nat.le_refl _ | exact Nat.le_add_right _ _ | (simp; omega)) _)))).mono ?_; rintro e w1 ⟨rfl, hb1⟩; obtain ⟨hc1, hf1⟩ := bcell hb1; have hz1 := hb1.size; (try have hza : w.heap.size < w1.heap.size := by omega); replace hB := below_on (w := w) ((by repeat (first | with_reducible exact hB | with_reducible exact Below.refl _ _ | with_reducible refine below_al ?_ _ | with_reducible refine below_st ?_ (by first | exact Nat.le_refl _ | exact Nat.le_add_right _ _ | (simp; omega)) _))) hb1; clear hb1; rw [hg]))
   go_ret
   exact ⟨by rw [HS.out]; rfl, hB⟩
  | false =>
   rw [hg, if_neg (by simp)] at hs
   replace HS := Lib.hid hs
   clear hs
   go_wp2_with (first | (go_at_call 71; refine (rkind_any _ _).mono ?_; rintro e w' ⟨rfl, rfl⟩; rw [HK.out]) | (go_at_call 117; refine (ufr_any i 7 (by omega) _).mono ?_; rintro e w1 ⟨rfl, hb1⟩; obtain ⟨hc1, hf1⟩ := bcell hb1; have hz1 := hb1.size; (try have hza : w.heap.size < w1.heap.size := by omega); replace hB := below_on (w := w) ((by repeat (first | with_reducible exact hB | with_reducible exact Below.refl _ _ | with_reducible refine below_al ?_ _ | with_reducible refine below_st ?_ (by first | exact Nat.le_refl _ | exact Nat.le_add_right _ _ | (simp; omega)) _))) hb1; clear hb1; rw [hu]) | (go_at_call 118; refine (aim_any i _ (OK.out.up (by repeat (first | with_reducible exact hB | with_reducible exact Below.refl _ _ | with_reducible refine below_al ?_ _ | with_reducible refine below_st ?_ (by first | exact Nat.le_refl _ | exact Nat.le_add_right _ _ | (simp; omega)) _)))).mono ?_; rintro e w1 ⟨rfl, hb1⟩; obtain ⟨hc1, hf1⟩ := bcell hb1; have hz1 := hb1.size; (try have hza : w.heap.size < w1.heap.size := by omega); replace hB := below_on (w := w) ((by repeat (first | with_reducible exact hB | with_reducible exact Below.refl _ _ | with_reducible refine below_al ?_ _ | with_reducible refine below_st ?_ (by first | exact Nat.le_refl _ | exact Nat.le_add_right _ _ | (simp; omega)) _))) hb1; clear hb1; rw [hg]) | (go_at_call 119; refine (rks_l i (by have := kind7.1 HK.out; omega) _ (OK.out.up (by repeat (first | with_reducible exact hB | with_reducible exact Below.refl _ _ | with_reducible refine below_al ?_ _ | with_reducible refine below_st ?_ (by first | exact Nat.le_refl _ | exact Nat.le_add_right _ _ | (simp; omega)) _)))).mono ?_; rintro e w1 ⟨rfl, hb1⟩; obtain ⟨hc1, hf1⟩ := bcell hb1; have hz1 := hb1.size; (try simp only [World.size_alloc, World.size_setCell] at hz1); (try have hza : w.heap.size < w1.heap.size := by omega); (try have hzb : w.heap.size + 1 < w1.heap.size := by omega); (try have hzc : w.heap.size + 1 + 1 < w1.heap.size := by omega); (try have hzd : wa.heap.size < w1.heap.size := by omega); (try replace hR := (hb1.block w.heap.size (by first | exact lt_heap hR | (have := lt_heap hR; simp; omega))).trans (by first | with_reducible exact hR | with_reducible exact laid_old hR)); replace hB := below_on (w := w) ((by repeat (first | with_reducible exact hB | with_reducible exact Below.refl _ _ | with_reducible refine below_al ?_ _ | with_reducible refine below_st ?_ (by first | exact Nat.le_refl _ | exact Nat.le_add_right _ _ | (simp; omega)) _))) hb1; clear hb1))
   go_ret
   exact ⟨by rw [HS.out]; rfl, hB⟩
theorem chk_any (i : In) (w : World) (hok : i.ok w w.heap.size) : Calls Tryz.prog 59 #[(Value.agg #[Value.int IntKind.i64 (In.op i), Value.int IntKind.i64 (In.a i), Value.int IntKind.i64 (In.b i), Value.int IntKind.i64 (In.t i), Value.slice (In.kA i) (In.kn i) (In.kc i), Value.slice (In.tA i) (In.tn i) (In.tc i), Value.string (In.r1 i), Value.string (In.r2 i), Value.string (In.r3 i), Value.string (In.s i)])] w fun e w' => e = .returned (.int .i64 (ciE i)) ∧ Below w.heap.size w w' := by
 rcases kind_bd i.op with h | h | h | h | h | h | h | h | h
 ·
  exact chk_m i w hok h
 ·
  exact chk_0 i w hok h
 ·
  exact chk_1 i w hok h
 ·
  exact chk_2 i w hok h
 ·
  exact chk_3 i w hok h
 ·
  exact chk_4 i w hok h
 ·
  exact chk_5 i w hok h
 ·
  exact chk_6 i w hok h
 ·
  exact chk_7 i w hok h
theorem rchk_any (i : In) (w : World) (hok : i.ok w w.heap.size) : Calls Tryz.prog 69 #[(Value.agg #[Value.int IntKind.i64 (In.op i), Value.int IntKind.i64 (In.a i), Value.int IntKind.i64 (In.b i), Value.int IntKind.i64 (In.t i), Value.slice (In.kA i) (In.kn i) (In.kc i), Value.slice (In.tA i) (In.tn i) (In.tc i), Value.string (In.r1 i), Value.string (In.r2 i), Value.string (In.r3 i), Value.string (In.s i)])] w fun e w' => e = .returned (.int .i64 (ciE i)) ∧ Below w.heap.size w w' := by
 rcases kind_bd i.op with h | h | h | h | h | h | h | h | h
 ·
  exact rchk_m i w hok h
 ·
  exact rchk_0 i w hok h
 ·
  exact rchk_1 i w hok h
 ·
  exact rchk_2 i w hok h
 ·
  exact rchk_3 i w hok h
 ·
  exact rchk_4 i w hok h
 ·
  exact rchk_5 i w hok h
 ·
  exact rchk_6 i w hok h
 ·
  exact rchk_7 i w hok h
end Go.Proofs.YtalejaklggnnpaaGreatDoor.I
