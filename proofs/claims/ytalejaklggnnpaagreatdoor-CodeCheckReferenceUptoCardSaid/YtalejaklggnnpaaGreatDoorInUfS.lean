import Derived.Test.YtalejaklggnnpaaGreatDoorIn
import Derived.Test.YtalejaklggnnpaaGreatDoorShelfS
/- Layer 8: unused fields, in the package and in its reference. -/
namespace Go.Proofs.YtalejaklggnnpaaGreatDoor.I
open Go.ChangeShapes Go.WideShapes Go.ChangeAt Go.RowKit Go.PlainAid
set_option linter.unusedSimpArgs false
set_option linter.unusedVariables false
set_option maxRecDepth 100000 in
set_option maxHeartbeats 2000000 in
theorem uf_any (i : In) (k : Int) (hk : 0 ≤ k ∧ k ≤ 7) (w : World) : Calls Tryz.prog 103 #[(Value.agg #[Value.int IntKind.i64 (In.op i), Value.int IntKind.i64 (In.a i), Value.int IntKind.i64 (In.b i), Value.int IntKind.i64 (In.t i), Value.slice (In.kA i) (In.kn i) (In.kc i), Value.slice (In.tA i) (In.tn i) (In.tc i), Value.string (In.r1 i), Value.string (In.r2 i), Value.string (In.r3 i), Value.string (In.s i)]), .int .i64 k] w fun e w' => e = .returned (.bool (unB k i)) ∧ Below w.heap.size w w' := by
 have hB : Below w.heap.size w w := Below.refl _ _
 have e1 := fun w => rf_neq i.r1 i.r2 i.r3 w
 rcases (by omega : k = 0 ∨ k = 1 ∨ k = 2 ∨ k = 3 ∨ k = 4 ∨ k = 5 ∨ k = 6 ∨ k = 7) with rfl | rfl | rfl | rfl | rfl | rfl | rfl | rfl
 all_goals
  go_enter Tryz.func103, Tryz.ntmps103
  go_wp2
  all_goals go_ret
  all_goals exact ⟨ret_bool (by simp_all [unB, Nat.pos_iff_ne_zero]), (by repeat (first | with_reducible exact hB | with_reducible exact Below.refl _ _ | with_reducible refine below_al ?_ _ | with_reducible refine below_st ?_ (by first | exact Nat.le_refl _ | exact Nat.le_add_right _ _ | (simp; omega)) _))⟩
set_option maxRecDepth 100000 in
set_option maxHeartbeats 2000000 in
theorem ufr_any (i : In) (k : Int) (hk : 0 ≤ k ∧ k ≤ 7) (w : World) : Calls Tryz.prog 117 #[(Value.agg #[Value.int IntKind.i64 (In.op i), Value.int IntKind.i64 (In.a i), Value.int IntKind.i64 (In.b i), Value.int IntKind.i64 (In.t i), Value.slice (In.kA i) (In.kn i) (In.kc i), Value.slice (In.tA i) (In.tn i) (In.tc i), Value.string (In.r1 i), Value.string (In.r2 i), Value.string (In.r3 i), Value.string (In.s i)]), .int .i64 k] w fun e w' => e = .returned (.bool (!unB k i)) ∧ Below w.heap.size w w' := by
 have hB : Below w.heap.size w w := Below.refl _ _
 have e1 := fun w => rf_neq i.r1 i.r2 i.r3 w
 rcases (by omega : k = 0 ∨ k = 1 ∨ k = 2 ∨ k = 3 ∨ k = 4 ∨ k = 5 ∨ k = 6 ∨ k = 7) with rfl | rfl | rfl | rfl | rfl | rfl | rfl | rfl
 all_goals
  go_enter Tryz.func117, Tryz.ntmps117
  go_wp2
  all_goals go_ret
  all_goals exact ⟨ret_bool (by simp_all [unB, Nat.pos_iff_ne_zero]), (by repeat (first | with_reducible exact hB | with_reducible exact Below.refl _ _ | with_reducible refine below_al ?_ _ | with_reducible refine below_st ?_ (by first | exact Nat.le_refl _ | exact Nat.le_add_right _ _ | (simp; omega)) _))⟩
end Go.Proofs.YtalejaklggnnpaaGreatDoor.I
/- Layer 8: Check, in the package: branches. -/
namespace Go.Proofs.YtalejaklggnnpaaGreatDoor.I
open Go.ChangeShapes Go.WideShapes Go.ChangeAt Go.RowKit Go.PlainAid
set_option linter.unusedSimpArgs false
set_option linter.unusedVariables false
theorem bdt_at (w : World) : PredAt Tryz.prog 144 #[] (fun x : Int => .int .i64 x) btB w := fun W x _ =>
 (bdt_any x W).mono fun e w' ⟨h, hw⟩ => ⟨h, 0, by subst hw; rfl⟩
theorem cf_any {w : World} {B n c : Nat} {A : Option Addr} {L : List Int} (h : Row w B A L) (hn : L.length = n) (hb : n ≤ 9223372036854775807) :
  Calls Tryz.prog 145 #[.slice A n c, .func (.func 144) #[] #[]] w fun e w' => e = .returned (.bool (L.any btB)) ∧ ∃ q, w' = w.drewN q := by
 rcases h with rfl | ⟨g, o, rfl, hg, hc⟩
 ·
  obtain rfl : n = 0 := hn.symm
  exact (Tryz.slices_ContainsFunc_empty (α := Int) A c _ w).mono fun e w' ⟨h1, h2⟩ => ⟨h1, 0, by rw [h2]; rfl⟩
 ·
  have h := Tryz.slices_ContainsFunc (fun x : Int => .int .i64 x) btB 144 #[] (enters_of Tryz.func144 (by kernel_rfl) rfl) g o n c L w (bdt_at w) (by omega) hb (fun j hj => by
   rw [List.getElem!_eq_getElem?_getD, List.getElem?_eq_getElem hj]
   exact hc j _ (List.getElem?_eq_getElem hj))
  rwa [List.take_of_length_le (by omega)] at h
def cbE (k : Int) (i : In) : Int := if tgB i = true then 16 else if k = 6 then tsE i else if k = 7 then ksE i else 0
set_option maxRecDepth 100000 in
set_option maxHeartbeats 2000000 in
theorem chb_any (i : In) (k : Int) (hk : k = 3 ∨ k = 6 ∨ k = 7) (w : World) (hok : i.ok w w.heap.size) : Calls Tryz.prog 105 #[(Value.agg #[Value.int IntKind.i64 (In.op i), Value.int IntKind.i64 (In.a i), Value.int IntKind.i64 (In.b i), Value.int IntKind.i64 (In.t i), Value.slice (In.kA i) (In.kn i) (In.kc i), Value.slice (In.tA i) (In.tn i) (In.tc i), Value.string (In.r1 i), Value.string (In.r2 i), Value.string (In.r3 i), Value.string (In.s i)]), .int .i64 k] w fun e w' => e = .returned (.int .i64 (cbE k i)) ∧ Below w.heap.size w w' := by
 have hB : Below w.heap.size w w := Below.refl _ _
 have OK := Lib.hid hok
 have hkn := hok.2.2.2.2.2.1
 have hkc := hok.2.2.2.2.2.2.1
 have hkt : i.tn ≤ 9223372036854775807 := by omega
 clear hok
 have HS := Lib.hid (show cbE k i = (if tgB i = true then 16 else if k = 6 then tsE i else if k = 7 then ksE i else 0) from rfl)
 generalize cbE k i = K at HS ⊢
 go_enter Tryz.func105, Tryz.ntmps105
 go_upto_region 1 with fail
 have R := World.alloc_heap_new w (.cells #[.int .i64 i.op, .int .i64 i.a, .int .i64 i.b, .int .i64 i.t, .slice i.kA i.kn i.kc, .slice i.tA i.tn i.tc, .string i.r1, .string i.r2, .string i.r3, .string i.s] 50)
 replace hB := below_al hB (.cells #[.int .i64 i.op, .int .i64 i.a, .int .i64 i.b, .int .i64 i.t, .slice i.kA i.kn i.kc, .slice i.tA i.tn i.tc, .string i.r1, .string i.r2, .string i.r3, .string i.s] 50)
 generalize w.alloc (.cells #[.int .i64 i.op, .int .i64 i.a, .int .i64 i.b, .int .i64 i.t, .slice i.kA i.kn i.kc, .slice i.tA i.tn i.tc, .string i.r1, .string i.r2, .string i.r3, .string i.s] 50) = W1 at R hB ⊢
 obtain ⟨r0, r1, r2, r3, r4, r5, r6, r7, r8, r9⟩ := ten_cells R
 have y1 := lt_heap R
 replace R := Lib.hid R
 replace OK := Lib.hid (OK.out.up hB)
 have HC := Lib.hid (cf_any (w := W1) (c := i.tc) OK.out.2.2.2.2.2.2.2 OK.out.2.2.2.2.1 hkt)
 cases h1 : btB i.t with
 | true =>
  have hs : K = 16 := by rw [HS.out]; unfold tgB; rw [h1, Bool.true_or, if_pos rfl]
  replace HS := Lib.hid hs
  clear hs
  go_wp2_with (go_at_call 144; refine (bdt_any _ _).mono ?_; rintro e w' ⟨rfl, rfl⟩)
  go_ret
  exact ⟨by rw [HS.out]; rfl, (by repeat (first | with_reducible exact hB | with_reducible exact Below.refl _ _ | with_reducible refine below_al ?_ _ | with_reducible refine below_st ?_ (by first | exact Nat.le_refl _ | exact Nat.le_add_right _ _ | (simp; omega)) _))⟩
 | false =>
  cases h2 : i.ts.any btB with
  | true =>
   have hs : K = 16 := by rw [HS.out]; unfold tgB; rw [h1, h2, Bool.or_true, if_pos rfl]
   replace HS := Lib.hid hs
   clear hs
   go_wp2_with (first | (go_at_call 144; refine (bdt_any _ _).mono ?_; rintro e w' ⟨rfl, rfl⟩) | (go_at_call 145; refine (HC.out).mono ?_; rintro e w' ⟨rfl, q, rfl⟩; rw [h2]))
   go_ret
   exact ⟨by rw [HS.out]; rfl, below_dr hB _⟩
  | false =>
   have hs : K = if k = 6 then tsE i else if k = 7 then ksE i else 0 := by rw [HS.out]; unfold tgB; rw [h1, h2, Bool.or_false, if_neg (by simp)]
   replace HS := Lib.hid hs
   clear hs
   rcases hk with rfl | rfl | rfl
   ·
    go_wp2_with (first | (go_at_call 144; refine (bdt_any _ _).mono ?_; rintro e w' ⟨rfl, rfl⟩) | (go_at_call 145; refine (HC.out).mono ?_; rintro e w' ⟨rfl, q, rfl⟩; rw [h2]))
    go_ret
    exact ⟨by rw [HS.out]; rfl, below_dr hB _⟩
   ·
    have hs : K = if i.tn = 0 ∨ 64 < i.tn then 5 else if k32 i.a = true ∧ k32 (i.a + i.tn - 1) = true then 0 else 8 := HS.out
    by_cases h3 : i.tn = 0 ∨ 64 < i.tn
    ·
     rw [if_pos h3] at hs
     replace HS := Lib.hid hs
     clear hs
     rcases h3 with h3 | h3
     ·
      have hc' := HC.out
      rw [h3] at hc'
      replace HC := Lib.hid hc'
      clear hc'
      go_wp2_with (first | (go_at_call 144; refine (bdt_any _ _).mono ?_; rintro e w' ⟨rfl, rfl⟩) | (go_at_call 145; refine (HC.out).mono ?_; rintro e w' ⟨rfl, q, rfl⟩; rw [h2]))
      go_ret
      exact ⟨by rw [HS.out]; rfl, below_dr hB _⟩
     ·
      have h4 : ((i.tn : Int) == 0) = false := beqF (by omega)
      go_wp2_with (first | (go_at_call 144; refine (bdt_any _ _).mono ?_; rintro e w' ⟨rfl, rfl⟩) | (go_at_call 145; refine (HC.out).mono ?_; rintro e w' ⟨rfl, q, rfl⟩; rw [h2]))
      go_ret
      exact ⟨by rw [HS.out]; rfl, below_dr hB _⟩
    ·
     rw [if_neg h3] at hs
     replace HS := Lib.hid hs
     clear hs
     obtain ⟨h3, h4⟩ : i.tn ≠ 0 ∧ i.tn ≤ 64 := by omega
     have h3' : ((i.tn : Int) == 0) = false := beqF (by omega)
     have h4' : ¬ (64 : Int) < i.tn := by omega
     cases h5 : k32 i.a with
     | false =>
      go_wp2_with (first | (go_at_call 144; refine (bdt_any _ _).mono ?_; rintro e w' ⟨rfl, rfl⟩) | (go_at_call 145; refine (HC.out).mono ?_; rintro e w' ⟨rfl, q, rfl⟩; rw [h2]) | (go_at_call 146; refine (is32_any _ _).mono ?_; rintro e w' ⟨rfl, rfl⟩; rw [h5]) | (go_at_call 104; refine (tl_any _ _).mono ?_; rintro e w' ⟨rfl, rfl⟩))
      go_ret
      exact ⟨by rw [HS.out, h5, if_neg (by simp)]; rfl, below_dr hB _⟩
     | true =>
      have h6 := k32_iff.1 h5
      have hw1 : IntKind.i64.wrap (i.a + (i.tn : Int)) = i.a + i.tn := by simp [IntKind.wrap, IntKind.bits, IntKind.signed]; omega
      have hw2 : IntKind.i64.wrap (i.a + (i.tn : Int) - 1) = i.a + i.tn - 1 := by simp [IntKind.wrap, IntKind.bits, IntKind.signed]; omega
      clear h6
      cases h7 : k32 (i.a + i.tn - 1) with
      | false =>
       go_wp2_with (first | (go_at_call 144; refine (bdt_any _ _).mono ?_; rintro e w' ⟨rfl, rfl⟩) | (go_at_call 145; refine (HC.out).mono ?_; rintro e w' ⟨rfl, q, rfl⟩; rw [h2]) | (go_at_call 146; refine (is32_any _ _).mono ?_; rintro e w' ⟨rfl, rfl⟩; first | rw [h5] | rw [h7]) | (go_at_call 104; refine (tl_any _ _).mono ?_; rintro e w' ⟨rfl, rfl⟩))
       go_ret
       exact ⟨by rw [HS.out, h7, if_neg (by simp)]; rfl, below_dr hB _⟩
      | true =>
       go_wp2_with (first | (go_at_call 144; refine (bdt_any _ _).mono ?_; rintro e w' ⟨rfl, rfl⟩) | (go_at_call 145; refine (HC.out).mono ?_; rintro e w' ⟨rfl, q, rfl⟩; rw [h2]) | (go_at_call 146; refine (is32_any _ _).mono ?_; rintro e w' ⟨rfl, rfl⟩; first | rw [h5] | rw [h7]) | (go_at_call 104; refine (tl_any _ _).mono ?_; rintro e w' ⟨rfl, rfl⟩))
       go_ret
       exact ⟨by rw [HS.out, h5, h7, if_pos ⟨rfl, rfl⟩]; rfl, below_dr hB _⟩
   ·
    have OK2 := fun q => (OK.out.up (w := W1) (w' := W1.drewN q) (below_dr (Below.refl _ _) _))
    replace OK2 := Lib.hid OK2
    have hs : K = ksE i := HS.out
    replace HS := Lib.hid hs
    clear hs
    go_wp2_with (first | (go_at_call 144; refine (bdt_any _ _).mono ?_; rintro e w' ⟨rfl, rfl⟩) | (go_at_call 145; refine (HC.out).mono ?_; rintro e w' ⟨rfl, q, rfl⟩; rw [h2]) | (go_at_call 147; refine (cks_any i _ (OK2.out _)).mono ?_; rintro e w1 ⟨rfl, hb1⟩; replace hB := Below.trans (below_dr hB _) (hb1.mono (below_dr hB _).size); clear hb1))
    go_ret
    exact ⟨by rw [HS.out]; rfl, hB⟩
end Go.Proofs.YtalejaklggnnpaaGreatDoor.I
