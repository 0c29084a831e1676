import Derived.Test.YtalejaklggnnpaaGreatDoorShelfS
/- Layer 8: the reference's small, aims and keys. -/
namespace Go.Proofs.YtalejaklggnnpaaGreatDoor.I
open Go.ChangeShapes Go.WideShapes Go.ChangeAt Go.RowKit Go.PlainAid
set_option linter.unusedSimpArgs false
set_option linter.unusedVariables false
theorem sm_any (n : Int) (w : World) : Calls Tryz.prog 159 #[.int .i64 n] w fun e w' => e = .returned (.bool (k32 n)) ∧ w = w' := by
 go_enter Tryz.func159, Tryz.ntmps159
 go_wp2
 all_goals go_ret
 all_goals exact ⟨ret_bool (by simp_all [k32] <;> omega), rfl⟩
set_option maxRecDepth 100000 in
set_option maxHeartbeats 2000000 in
theorem aim_any (i : In) (w : World) (hok : i.ok w w.heap.size) : Calls Tryz.prog 118 #[(Value.agg #[Value.int IntKind.i64 (In.op i), Value.int IntKind.i64 (In.a i), Value.int IntKind.i64 (In.b i), Value.int IntKind.i64 (In.t i), Value.slice (In.kA i) (In.kn i) (In.kc i), Value.slice (In.tA i) (In.tn i) (In.tc i), Value.string (In.r1 i), Value.string (In.r2 i), Value.string (In.r3 i), Value.string (In.s i)])] w fun e w' => e = .returned (.bool (!tgB i)) ∧ Below w.heap.size w w' := by
 have hB : Below w.heap.size w w := Below.refl _ _
 have hkn := hok.2.2.2.2.1
 have hkc := hok.2.2.2.2.2.2.1
 have hkc1 := hok.2.2.2.2.2.1
 have hrow := Lib.hid hok.2.2.2.2.2.2.2
 clear hok
 have ha := all_iff (fun x => !btB x) i.ts
 rw [hkn] at ha
 have hs : (!tgB i) = (!btB i.t && i.ts.all (fun x => !btB x)) := by
  unfold tgB
  rw [Bool.not_or, List.all_eq_not_any_not]
  simp
 have HS := Lib.hid hs
 clear hs
 generalize (!tgB i) = K at HS ⊢
 obtain ⟨op, a, b, t, kA, kn, kc, ks, tA, tn, tc, ts, ra, rb, rc, s⟩ := i
 simp only at hkn hkc hkc1 hrow ha HS ⊢
 have HA := Lib.hid ha
 have HK := Lib.hid hkn
 clear ha hkn
 go_enter Tryz.func118, Tryz.ntmps118
 go_upto_region 1 with fail
 have R := World.alloc_heap_new w (.cells #[.int .i64 op, .int .i64 a, .int .i64 b, .int .i64 t, .slice kA kn kc, .slice tA tn tc, .string ra, .string rb, .string rc, .string s] 50)
 replace hB := below_al hB (.cells #[.int .i64 op, .int .i64 a, .int .i64 b, .int .i64 t, .slice kA kn kc, .slice tA tn tc, .string ra, .string rb, .string rc, .string s] 50)
 generalize w.alloc (.cells #[.int .i64 op, .int .i64 a, .int .i64 b, .int .i64 t, .slice kA kn kc, .slice tA tn tc, .string ra, .string rb, .string rc, .string s] 50) = W1 at R hB ⊢
 obtain ⟨r0, r1, r2, r3, r4, r5, r6, r7, r8, r9⟩ := ten_cells R
 have y1 := lt_heap R
 replace R := Lib.hid R
 replace hrow := Lib.hid (hrow.out.below hB)
 by_cases h1 : t < 0 ∨ 1000 ≤ t
 ·
  have hs : K = false := by rw [HS.out, show btB t = true from decide_eq_true h1]; rfl
  replace HS := Lib.hid hs
  clear hs
  rcases h1 with h1 | h1
  ·
   go_wp2
   go_ret
   exact ⟨by rw [HS.out]; rfl, (by repeat (first | with_reducible exact hB | with_reducible exact Below.refl _ _ | with_reducible refine below_al ?_ _ | with_reducible refine below_st ?_ (by first | exact Nat.le_refl _ | exact Nat.le_add_right _ _ | (simp; omega)) _))⟩
  ·
   have h1' : ¬ t < 0 := by omega
   go_wp2
   go_ret
   exact ⟨by rw [HS.out]; rfl, (by repeat (first | with_reducible exact hB | with_reducible exact Below.refl _ _ | with_reducible refine below_al ?_ _ | with_reducible refine below_st ?_ (by first | exact Nat.le_refl _ | exact Nat.le_add_right _ _ | (simp; omega)) _))⟩
 ·
  have hs : K = ts.all (fun x => !btB x) := by rw [HS.out, show btB t = false from decide_eq_false h1]; rfl
  replace HS := Lib.hid hs
  clear hs
  obtain ⟨h1, h2⟩ : ¬ t < 0 ∧ ¬ 1000 ≤ t := by omega
  go_wp2
  go_loopw [3] (fun v wr => ∃ k : Nat, k ≤ tn ∧ v = .int .i64 k ∧ (∀ j, j < k → (!btB (ts.getD j 0)) = true) ∧ wr = W1) (fun v _ => tn - (intOf v).toNat)
  case atStart => exact ⟨0, Nat.zero_le _, rfl, fun j hj => absurd hj (Nat.not_lt_zero _), rfl⟩
  case round =>
   obtain ⟨k, hk, rfl, hall, rfl⟩ := hrel
   have HL := Lib.hid hall
   clear hall
   by_cases hlt : k < tn
   ·
    obtain ⟨g, o, rfl, hg, hc⟩ := hrow.out.at (by have := HK.out; omega)
    have hck := hc k (by have := HK.out; omega)
    clear hc
    have hk0 : (0 : Int) ≤ (k : Int) := by omega
    have hk1 : (k : Int) < (tn : Int) := by omega
    obtain ⟨x, hx⟩ : ∃ x, ts.getD k 0 = x := ⟨_, rfl⟩
    rw [hx] at hck
    have HX := Lib.hid hx
    clear hx
    by_cases h3 : x < 0 ∨ 1000 ≤ x
    ·
     have hno : ts.all (fun x => !btB x) = false := by
      rw [Bool.eq_false_iff]
      intro h
      have := HA.out.1 h k hlt
      rw [HX.out, show btB x = true from decide_eq_true h3] at this
      cases this
     rcases h3 with h3 | h3
     ·
      go_wp2
      go_ret
      exact ⟨by rw [HS.out, hno]; rfl, hB⟩
     ·
      have h3' : ¬ x < 0 := by omega
      go_wp2
      go_ret
      exact ⟨by rw [HS.out, hno]; rfl, hB⟩
    ·
     have h4 : btB x = false := decide_eq_false h3
     have h3' : ¬ x < 0 := by omega
     have h3'' : ¬ 1000 ≤ x := by omega
     clear h3
     go_wp2
     refine ⟨⟨k + 1, hlt, by go_num, fun j hj => ?_, trivial⟩, by simp [intOf]; omega⟩
     rcases (by omega : j < k ∨ j = k) with h | rfl
     ·
      exact HL.out j h
     ·
      rw [HX.out, h4]; rfl
   ·
    obtain ⟨rfl⟩ : tn = k := by omega
    have hs2 := HS.out
    rw [HA.out.2 HL.out] at hs2
    replace HS := Lib.hid hs2
    clear hs2 HA HL
    go_wp2
    go_ret
    exact ⟨by rw [HS.out]; rfl, hB⟩
set_option maxRecDepth 100000 in
set_option maxHeartbeats 2000000 in
theorem rks_t (i : In) (hop : i.op = 53) (w : World) (hok : i.ok w w.heap.size) : Calls Tryz.prog 119 #[(Value.agg #[Value.int IntKind.i64 (In.op i), Value.int IntKind.i64 (In.a i), Value.int IntKind.i64 (In.b i), Value.int IntKind.i64 (In.t i), Value.slice (In.kA i) (In.kn i) (In.kc i), Value.slice (In.tA i) (In.tn i) (In.tc i), Value.string (In.r1 i), Value.string (In.r2 i), Value.string (In.r3 i), Value.string (In.s i)])] w fun e w' => e = .returned (.int .i64 (tsE i)) ∧ Below w.heap.size w w' := by
 have hB : Below w.heap.size w w := Below.refl _ _
 have hs : tsE i = if i.tn = 0 ∨ 64 < i.tn then 5 else if k32 i.a = true ∧ i.a ≤ 2147483647 - ((i.tn : Int) - 1) then 0 else 8 := by
  unfold tsE
  by_cases h1 : i.tn = 0 ∨ 64 < i.tn
  ·
   rw [if_pos h1, if_pos h1]
  ·
   rw [if_neg h1, if_neg h1]
   have e : (k32 i.a = true ∧ k32 (i.a + i.tn - 1) = true) ↔ (k32 i.a = true ∧ i.a ≤ 2147483647 - ((i.tn : Int) - 1)) := by
    rw [k32_iff, k32_iff]
    omega
   simp only [e]
 have HS := Lib.hid hs
 clear hs hok
 generalize tsE i = K at HS ⊢
 have HO := Lib.hid hop
 clear hop
 go_enter Tryz.func119, Tryz.ntmps119
 go_upto_region 1 with fail
 have R := World.alloc_heap_new w (.cells #[.int .i64 i.op, .int .i64 i.a, .int .i64 i.b, .int .i64 i.t, .slice i.kA i.kn i.kc, .slice i.tA i.tn i.tc, .string i.r1, .string i.r2, .string i.r3, .string i.s] 50)
 replace hB := below_al hB (.cells #[.int .i64 i.op, .int .i64 i.a, .int .i64 i.b, .int .i64 i.t, .slice i.kA i.kn i.kc, .slice i.tA i.tn i.tc, .string i.r1, .string i.r2, .string i.r3, .string i.s] 50)
 generalize w.alloc (.cells #[.int .i64 i.op, .int .i64 i.a, .int .i64 i.b, .int .i64 i.t, .slice i.kA i.kn i.kc, .slice i.tA i.tn i.tc, .string i.r1, .string i.r2, .string i.r3, .string i.s] 50) = W1 at R hB ⊢
 obtain ⟨r0, r1, r2, r3, r4, r5, r6, r7, r8, r9⟩ := ten_cells R
 have y1 := lt_heap R
 replace R := Lib.hid R
 have hop := HO.out
 rw [hop] at r0
 clear hop
 by_cases h3 : i.tn = 0 ∨ 64 < i.tn
 ·
  have hs := HS.out
  rw [if_pos h3] at hs
  replace HS := Lib.hid hs
  clear hs
  rcases h3 with h3 | h3
  ·
   go_wp2
   go_ret
   exact ⟨by rw [HS.out]; rfl, (by repeat (first | with_reducible exact hB | with_reducible exact Below.refl _ _ | with_reducible refine below_al ?_ _ | with_reducible refine below_st ?_ (by first | exact Nat.le_refl _ | exact Nat.le_add_right _ _ | (simp; omega)) _))⟩
  ·
   have h4 : ((i.tn : Int) == 0) = false := beqF (by omega)
   go_wp2
   go_ret
   exact ⟨by rw [HS.out]; rfl, (by repeat (first | with_reducible exact hB | with_reducible exact Below.refl _ _ | with_reducible refine below_al ?_ _ | with_reducible refine below_st ?_ (by first | exact Nat.le_refl _ | exact Nat.le_add_right _ _ | (simp; omega)) _))⟩
 ·
  have hs := HS.out
  rw [if_neg h3] at hs
  replace HS := Lib.hid hs
  clear hs
  obtain ⟨h3, h4⟩ : i.tn ≠ 0 ∧ i.tn ≤ 64 := by omega
  have h3' : ((i.tn : Int) == 0) = false := beqF (by omega)
  have h4' : ¬ (64 : Int) < i.tn := by omega
  cases h5 : k32 i.a with
  | false =>
   go_wp2_with (go_at_call 159; refine (sm_any _ _).mono ?_; rintro e w' ⟨rfl, rfl⟩; rw [h5])
   go_ret
   exact ⟨by rw [HS.out, h5, if_neg (by simp)]; rfl, (by repeat (first | with_reducible exact hB | with_reducible exact Below.refl _ _ | with_reducible refine below_al ?_ _ | with_reducible refine below_st ?_ (by first | exact Nat.le_refl _ | exact Nat.le_add_right _ _ | (simp; omega)) _))⟩
  | true =>
   have hw1 : IntKind.i64.wrap ((i.tn : Int) - 1) = (i.tn : Int) - 1 := by simp [IntKind.wrap, IntKind.bits, IntKind.signed]; omega
   have hw2 : IntKind.i64.wrap (2147483647 - ((i.tn : Int) - 1)) = 2147483647 - ((i.tn : Int) - 1) := by simp [IntKind.wrap, IntKind.bits, IntKind.signed]; omega
   by_cases h7 : i.a ≤ 2147483647 - ((i.tn : Int) - 1)
   ·
    have h7' : ¬ 2147483647 - ((i.tn : Int) - 1) < i.a := by omega
    go_wp2_with (go_at_call 159; refine (sm_any _ _).mono ?_; rintro e w' ⟨rfl, rfl⟩; rw [h5])
    go_ret
    exact ⟨by rw [HS.out, h5, if_pos ⟨rfl, h7⟩]; rfl, (by repeat (first | with_reducible exact hB | with_reducible exact Below.refl _ _ | with_reducible refine below_al ?_ _ | with_reducible refine below_st ?_ (by first | exact Nat.le_refl _ | exact Nat.le_add_right _ _ | (simp; omega)) _))⟩
   ·
    have h7' : 2147483647 - ((i.tn : Int) - 1) < i.a := by omega
    go_wp2_with (go_at_call 159; refine (sm_any _ _).mono ?_; rintro e w' ⟨rfl, rfl⟩; rw [h5])
    go_ret
    exact ⟨by rw [HS.out, if_neg (fun h => absurd h.2 (by omega))]; rfl, (by repeat (first | with_reducible exact hB | with_reducible exact Below.refl _ _ | with_reducible refine below_al ?_ _ | with_reducible refine below_st ?_ (by first | exact Nat.le_refl _ | exact Nat.le_add_right _ _ | (simp; omega)) _))⟩
set_option maxRecDepth 100000 in
set_option maxHeartbeats 2000000 in
theorem rks_l (i : In) (hop : i.op ≠ 53) (w : World) (hok : i.ok w w.heap.size) : Calls Tryz.prog 119 #[(Value.agg #[Value.int IntKind.i64 (In.op i), Value.int IntKind.i64 (In.a i), Value.int IntKind.i64 (In.b i), Value.int IntKind.i64 (In.t i), Value.slice (In.kA i) (In.kn i) (In.kc i), Value.slice (In.tA i) (In.tn i) (In.tc i), Value.string (In.r1 i), Value.string (In.r2 i), Value.string (In.r3 i), Value.string (In.s i)])] w fun e w' => e = .returned (.int .i64 (ksE i)) ∧ Below w.heap.size w w' := by
 have hB : Below w.heap.size w w := Below.refl _ _
 have hkn := hok.1
 have hkc := hok.2.2.1
 have hkc1 := hok.2.1
 have hrow := Lib.hid hok.2.2.2.1
 clear hok
 have ha := all_iff k32 i.ks
 have hi := inc_iff i.ks
 rw [hkn] at ha hi
 have HS := Lib.hid (show ksE i = (if 64 < i.kn ∨ i.tn ≠ i.kn then 5 else if i.ks.all k32 = true then (if incB i.ks = true then 0 else 4) else 8) from rfl)
 generalize ksE i = K at HS ⊢
 have hop' := beqF hop
 clear hop
 obtain ⟨op, a, b, t, kA, kn, kc, ks, tA, tn, tc, ts, ra, rb, rc, s⟩ := i
 simp only at hkn hkc hkc1 hrow ha hi HS hop' ⊢
 have HA := Lib.hid ha
 have HI := Lib.hid hi
 have HK := Lib.hid hkn
 clear ha hi hkn
 go_enter Tryz.func119, Tryz.ntmps119
 go_upto_region 1 with fail
 have R := World.alloc_heap_new w (.cells #[.int .i64 op, .int .i64 a, .int .i64 b, .int .i64 t, .slice kA kn kc, .slice tA tn tc, .string ra, .string rb, .string rc, .string s] 50)
 replace hB := below_al hB (.cells #[.int .i64 op, .int .i64 a, .int .i64 b, .int .i64 t, .slice kA kn kc, .slice tA tn tc, .string ra, .string rb, .string rc, .string s] 50)
 generalize w.alloc (.cells #[.int .i64 op, .int .i64 a, .int .i64 b, .int .i64 t, .slice kA kn kc, .slice tA tn tc, .string ra, .string rb, .string rc, .string s] 50) = W1 at R hB ⊢
 obtain ⟨r0, r1, r2, r3, r4, r5, r6, r7, r8, r9⟩ := ten_cells R
 have y1 := lt_heap R
 replace R := Lib.hid R
 replace hrow := Lib.hid (hrow.out.below hB)
 by_cases h1 : 64 < kn ∨ tn ≠ kn
 ·
  have hs := HS.out
  rw [if_pos h1] at hs
  replace HS := Lib.hid hs
  clear hs
  rcases h1 with h1 | h1
  ·
   go_wp2
   go_ret
   exact ⟨by rw [HS.out]; rfl, (by repeat (first | with_reducible exact hB | with_reducible exact Below.refl _ _ | with_reducible refine below_al ?_ _ | with_reducible refine below_st ?_ (by first | exact Nat.le_refl _ | exact Nat.le_add_right _ _ | (simp; omega)) _))⟩
  ·
   have h1' : ((tn : Int) != (kn : Int)) = true := by simpa using (by omega : ¬ (tn : Int) = kn)
   go_wp2
   all_goals go_ret
   all_goals exact ⟨by rw [HS.out]; rfl, (by repeat (first | with_reducible exact hB | with_reducible exact Below.refl _ _ | with_reducible refine below_al ?_ _ | with_reducible refine below_st ?_ (by first | exact Nat.le_refl _ | exact Nat.le_add_right _ _ | (simp; omega)) _))⟩
 ·
  have hs := HS.out
  rw [if_neg h1] at hs
  replace HS := Lib.hid hs
  clear hs
  obtain ⟨h1, h2⟩ : kn ≤ 64 ∧ tn = kn := by omega
  go_wp2
  go_loopw [3] (fun v wr => ∃ k q : Nat, k ≤ kn ∧ v = .int .i64 k ∧ (∀ j, j < k → k32 (ks.getD j 0) = true) ∧ wr = W1.drewN q) (fun v _ => kn - (intOf v).toNat)
  case atStart => exact ⟨0, 0, Nat.zero_le _, rfl, fun j hj => absurd hj (Nat.not_lt_zero _), rfl⟩
  case round =>
   obtain ⟨k, q, hk, rfl, hall, rfl⟩ := hrel
   have HL := Lib.hid hall
   clear hall
   by_cases hlt : k < kn
   ·
    obtain ⟨g, o, rfl, hg, hc⟩ := hrow.out.at (by have := HK.out; omega)
    have hck := hc k (by have := HK.out; omega)
    clear hc
    have hk0 : (0 : Int) ≤ (k : Int) := by omega
    have hk1 : (k : Int) < (kn : Int) := by omega
    obtain ⟨x, hx⟩ : ∃ x, ks.getD k 0 = x := ⟨_, rfl⟩
    rw [hx] at hck
    have HX := Lib.hid hx
    clear hx
    cases h3 : k32 x with
    | false =>
     have hno : ¬ ks.all k32 = true := fun h => by have := HA.out.1 h k hlt; rw [HX.out, h3] at this; cases this
     go_wp2_with (go_at_call 159; refine (sm_any _ _).mono ?_; rintro e w' ⟨rfl, rfl⟩)
     go_ret
     exact ⟨by rw [HS.out, if_neg hno]; rfl, below_dr hB _⟩
    | true =>
     go_wp2_with (go_at_call 159; refine (sm_any _ _).mono ?_; rintro e w' ⟨rfl, rfl⟩)
     go_roundw
     case rel =>
      refine ⟨k + 1, q, hlt, by go_num, fun j hj => ?_, rfl⟩
      rcases (by omega : j < k ∨ j = k) with h | rfl
      ·
       exact HL.out j h
      ·
       rw [HX.out, h3]
     case measure => simp [intOf]; omega
   ·
    obtain ⟨rfl⟩ : kn = k := by omega
    have hs2 := HS.out
    rw [if_pos (HA.out.2 HL.out)] at hs2
    replace HS := Lib.hid hs2
    clear hs2 HA HL
    go_wp2
    go_loopw [4] (fun v wr => ∃ k q : Nat, 1 ≤ k ∧ (k ≤ 1 ∨ k ≤ kn) ∧ v = .int .i64 k ∧ (∀ j, 1 ≤ j → j < k → ks.getD (j - 1) 0 < ks.getD j 0) ∧ wr = W1.drewN q) (fun v _ => kn - (intOf v).toNat)
    case atStart => exact ⟨1, _, Nat.le_refl _, Or.inl (Nat.le_refl _), rfl, fun j h1 hj => absurd hj (by omega), rfl⟩
    case round =>
     obtain ⟨k, q, hk, hk', rfl, hall, rfl⟩ := hrel
     have HL := Lib.hid hall
     clear hall
     by_cases hlt : k < kn
     ·
      obtain ⟨g, o, rfl, hg, hc⟩ := hrow.out.at (by have := HK.out; omega)
      have hck := hc k (by have := HK.out; omega)
      have hcj := hc (k - 1) (by have := HK.out; omega)
      clear hc
      have hk0 : (0 : Int) ≤ (k : Int) := by omega
      have hk1 : (k : Int) < (kn : Int) := by omega
      have hj0 : (0 : Int) ≤ (k : Int) - 1 := by omega
      have hj1 : (k : Int) - 1 < (kn : Int) := by omega
      have hj2 : ((k : Int) - 1).toNat = k - 1 := by omega
      obtain ⟨x, hx⟩ : ∃ x, ks.getD k 0 = x := ⟨_, rfl⟩
      obtain ⟨y, hy⟩ : ∃ y, ks.getD (k - 1) 0 = y := ⟨_, rfl⟩
      rw [hx] at hck
      rw [hy] at hcj
      have HX := Lib.hid hx
      have HY := Lib.hid hy
      clear hx hy
      have hw1 : IntKind.i64.wrap ((k : Int) - 1) = (k : Int) - 1 := by simp [IntKind.wrap, IntKind.bits, IntKind.signed]; omega
      by_cases h3 : y < x
      ·
       go_wp2
       go_quiet (fail)
       go_wp2
       refine ⟨⟨k + 1, _, by omega, Or.inr hlt, by go_num, fun j h1 hj => ?_, rfl⟩, by simp [intOf]; omega⟩
       rcases (by omega : j < k ∨ j = k) with h | rfl
       ·
        exact HL.out j h1 h
       ·
        rw [HX.out, HY.out]; exact h3
      ·
       have hno : ¬ incB ks = true := fun h => by have := HI.out.1 h k hk hlt; rw [HX.out, HY.out] at this; exact h3 this
       go_wp2
       go_quiet (fail)
       go_wp2
       go_ret
       exact ⟨by rw [HS.out, if_neg hno]; rfl, below_dr (below_dr hB _) _⟩
     ·
      have hyes : incB ks = true := HI.out.2 fun j h1 hj => HL.out j h1 (by omega)
      go_wp2
      go_ret
      exact ⟨by rw [HS.out, if_pos hyes]; rfl, below_dr hB _⟩
end Go.Proofs.YtalejaklggnnpaaGreatDoor.I
