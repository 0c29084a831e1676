import Derived.Test.YtalejaklggnnpaaGreatDoorInCi
import Derived.Test.YtalejaklggnnpaaGreatDoorInNumS
import Derived.Test.YtalejaklggnnpaaGreatDoorCdS
/- Layer 8: size and Offsets, in the package. -/
namespace Go.Proofs.YtalejaklggnnpaaGreatDoor.I
open Go.ChangeShapes Go.WideShapes Go.ChangeAt Go.RowKit Go.PlainAid
set_option linter.unusedSimpArgs false
set_option linter.unusedVariables false
set_option maxRecDepth 100000 in
theorem siz_any (i : In) (w : World) (h1 : i.op = 53 → i.tn ≤ 1000000) (h2 : i.op = 54 → i.kn ≤ 1000000) : Calls Tryz.prog 76 #[(Value.agg #[Value.int IntKind.i64 (In.op i), Value.int IntKind.i64 (In.a i), Value.int IntKind.i64 (In.b i), Value.int IntKind.i64 (In.t i), Value.slice (In.kA i) (In.kn i) (In.kc i), Value.slice (In.tA i) (In.tn i) (In.tc i), Value.string (In.r1 i), Value.string (In.r2 i), Value.string (In.r3 i), Value.string (In.s i)])] w fun e w' => e = .returned (.int .i64 (szV i)) ∧ Below w.heap.size w w' := by
 have hB : Below w.heap.size w w := Below.refl _ _
 have HS := Lib.hid (show szV i = (if i.op = 53 then 9 + 2 * (i.tn : Int) else if i.op = 54 then 5 + 6 * (i.kn : Int) else sizeV i.op) from rfl)
 generalize szV i = K at HS ⊢
 have H1 := Lib.hid h1
 have H2 := Lib.hid h2
 clear h1 h2
 go_enter Tryz.func76, Tryz.ntmps76
 go_upto_region 1 with fail
 have R := World.alloc_heap_new w (.cells #[.int .i64 i.op, .int .i64 i.a, .int .i64 i.b, .int .i64 i.t, .slice i.kA i.kn i.kc, .slice i.tA i.tn i.tc, .string i.r1, .string i.r2, .string i.r3, .string i.s] 50)
 replace hB := below_al hB (.cells #[.int .i64 i.op, .int .i64 i.a, .int .i64 i.b, .int .i64 i.t, .slice i.kA i.kn i.kc, .slice i.tA i.tn i.tc, .string i.r1, .string i.r2, .string i.r3, .string i.s] 50)
 generalize w.alloc (.cells #[.int .i64 i.op, .int .i64 i.a, .int .i64 i.b, .int .i64 i.t, .slice i.kA i.kn i.kc, .slice i.tA i.tn i.tc, .string i.r1, .string i.r2, .string i.r3, .string i.s] 50) = W1 at R hB ⊢
 obtain ⟨r0, r1, r2, r3, r4, r5, r6, r7, r8, r9⟩ := ten_cells R
 have y1 := lt_heap R
 replace R := Lib.hid R
 by_cases h3 : i.op = 53
 ·
  have hs := HS.out
  rw [if_pos h3] at hs
  replace HS := Lib.hid hs
  have ht := H1.out h3
  have hw1 : IntKind.i64.wrap (2 * (i.tn : Int)) = 2 * i.tn := by simp [IntKind.wrap, IntKind.bits, IntKind.signed]; omega
  have hw2 : IntKind.i64.wrap (9 + 2 * (i.tn : Int)) = 9 + 2 * i.tn := by simp [IntKind.wrap, IntKind.bits, IntKind.signed]; omega
  rw [h3] at r0
  clear hs
  go_wp2
  go_ret
  exact ⟨by rw [HS.out]; rfl, (by repeat (first | with_reducible exact hB | with_reducible exact Below.refl _ _ | with_reducible refine below_al ?_ _ | with_reducible refine below_st ?_ (by first | exact Nat.le_refl _ | exact Nat.le_add_right _ _ | (simp; omega)) _))⟩
 ·
  have hs := HS.out
  rw [if_neg h3] at hs
  have h3' := beqF h3
  by_cases h4 : i.op = 54
  ·
   rw [if_pos h4] at hs
   replace HS := Lib.hid hs
   have ht := H2.out h4
   have hw1 : IntKind.i64.wrap (6 * (i.kn : Int)) = 6 * i.kn := by simp [IntKind.wrap, IntKind.bits, IntKind.signed]; omega
   have hw2 : IntKind.i64.wrap (5 + 6 * (i.kn : Int)) = 5 + 6 * i.kn := by simp [IntKind.wrap, IntKind.bits, IntKind.signed]; omega
   rw [h4] at r0
   clear hs
   go_wp2
   go_ret
   exact ⟨by rw [HS.out]; rfl, (by repeat (first | with_reducible exact hB | with_reducible exact Below.refl _ _ | with_reducible refine below_al ?_ _ | with_reducible refine below_st ?_ (by first | exact Nat.le_refl _ | exact Nat.le_add_right _ _ | (simp; omega)) _))⟩
  ·
   rw [if_neg h4] at hs
   replace HS := Lib.hid hs
   have h4' := beqF h4
   clear hs
   go_wp2_with (go_at_call 128; refine (size_any _ _).mono ?_; rintro e w' ⟨rfl, rfl⟩)
   go_ret
   exact ⟨by rw [HS.out]; rfl, (by repeat (first | with_reducible exact hB | with_reducible exact Below.refl _ _ | with_reducible refine below_al ?_ _ | with_reducible refine below_st ?_ (by first | exact Nat.le_refl _ | exact Nat.le_add_right _ _ | (simp; omega)) _))⟩
set_option maxRecDepth 100000 in
theorem rsiz_any (i : In) (w : World) (h1 : i.op = 53 → i.tn ≤ 1000000) (h2 : i.op = 54 → i.kn ≤ 1000000) : Calls Tryz.prog 81 #[(Value.agg #[Value.int IntKind.i64 (In.op i), Value.int IntKind.i64 (In.a i), Value.int IntKind.i64 (In.b i), Value.int IntKind.i64 (In.t i), Value.slice (In.kA i) (In.kn i) (In.kc i), Value.slice (In.tA i) (In.tn i) (In.tc i), Value.string (In.r1 i), Value.string (In.r2 i), Value.string (In.r3 i), Value.string (In.s i)])] w fun e w' => e = .returned (.int .i64 (szV i)) ∧ Below w.heap.size w w' := by
 have hB : Below w.heap.size w w := Below.refl _ _
 have HS := Lib.hid (show szV i = (if i.op = 53 then 9 + 2 * (i.tn : Int) else if i.op = 54 then 5 + 6 * (i.kn : Int) else sizeV i.op) from rfl)
 generalize szV i = K at HS ⊢
 have H1 := Lib.hid h1
 have H2 := Lib.hid h2
 clear h1 h2
 go_enter Tryz.func81, Tryz.ntmps81
 go_upto_region 1 with fail
 have R := World.alloc_heap_new w (.cells #[.int .i64 i.op, .int .i64 i.a, .int .i64 i.b, .int .i64 i.t, .slice i.kA i.kn i.kc, .slice i.tA i.tn i.tc, .string i.r1, .string i.r2, .string i.r3, .string i.s] 50)
 replace hB := below_al hB (.cells #[.int .i64 i.op, .int .i64 i.a, .int .i64 i.b, .int .i64 i.t, .slice i.kA i.kn i.kc, .slice i.tA i.tn i.tc, .string i.r1, .string i.r2, .string i.r3, .string i.s] 50)
 generalize w.alloc (.cells #[.int .i64 i.op, .int .i64 i.a, .int .i64 i.b, .int .i64 i.t, .slice i.kA i.kn i.kc, .slice i.tA i.tn i.tc, .string i.r1, .string i.r2, .string i.r3, .string i.s] 50) = W1 at R hB ⊢
 obtain ⟨r0, r1, r2, r3, r4, r5, r6, r7, r8, r9⟩ := ten_cells R
 have y1 := lt_heap R
 replace R := Lib.hid R
 by_cases h3 : i.op = 53
 ·
  have hs := HS.out
  rw [if_pos h3] at hs
  replace HS := Lib.hid hs
  have ht := H1.out h3
  have hw1 : IntKind.i64.wrap (2 * (i.tn : Int)) = 2 * i.tn := by simp [IntKind.wrap, IntKind.bits, IntKind.signed]; omega
  have hw2 : IntKind.i64.wrap (9 + 2 * (i.tn : Int)) = 9 + 2 * i.tn := by simp [IntKind.wrap, IntKind.bits, IntKind.signed]; omega
  rw [h3] at r0
  clear hs
  go_wp2
  go_ret
  exact ⟨by rw [HS.out]; rfl, (by repeat (first | with_reducible exact hB | with_reducible exact Below.refl _ _ | with_reducible refine below_al ?_ _ | with_reducible refine below_st ?_ (by first | exact Nat.le_refl _ | exact Nat.le_add_right _ _ | (simp; omega)) _))⟩
 ·
  have hs := HS.out
  rw [if_neg h3] at hs
  have h3' := beqF h3
  by_cases h4 : i.op = 54
  ·
   rw [if_pos h4] at hs
   replace HS := Lib.hid hs
   have ht := H2.out h4
   have hw1 : IntKind.i64.wrap (6 * (i.kn : Int)) = 6 * i.kn := by simp [IntKind.wrap, IntKind.bits, IntKind.signed]; omega
   have hw2 : IntKind.i64.wrap (5 + 6 * (i.kn : Int)) = 5 + 6 * i.kn := by simp [IntKind.wrap, IntKind.bits, IntKind.signed]; omega
   rw [h4] at r0
   clear hs
   go_wp2
   go_ret
   exact ⟨by rw [HS.out]; rfl, (by repeat (first | with_reducible exact hB | with_reducible exact Below.refl _ _ | with_reducible refine below_al ?_ _ | with_reducible refine below_st ?_ (by first | exact Nat.le_refl _ | exact Nat.le_add_right _ _ | (simp; omega)) _))⟩
  ·
   rw [if_neg h4] at hs
   replace HS := Lib.hid hs
   have h4' := beqF h4
   clear hs
   go_wp2_with (go_at_call 133; refine (rsize_any _ _).mono ?_; rintro e w' ⟨rfl, rfl⟩)
   go_ret
   exact ⟨by rw [HS.out]; rfl, (by repeat (first | with_reducible exact hB | with_reducible exact Below.refl _ _ | with_reducible refine below_al ?_ _ | with_reducible refine below_st ?_ (by first | exact Nat.le_refl _ | exact Nat.le_add_right _ _ | (simp; omega)) _))⟩
/-- what Offsets hands back -/
def OffsRet (w : World) (L : List In) (e : Ending) (w' : World) : Prop :=
 ∃ A c, e = .returned (.tuple #[.slice A (ofP L).length c, .int .i64 (ofE L)]) ∧ (ofP L).length ≤ c ∧ c ≤ maxLen ∧ (A = none → c = 0) ∧ Row w' w'.heap.size A (ofP L) ∧ Below w.heap.size w w'
theorem offs_no {w w' : World} {L : List In} {x : Int} (h : ofE L = x ∧ ofP L = []) (hb : Below w.heap.size w w') : OffsRet w L (.returned (.tuple #[.slice none 0 0, .int .i64 x])) w' := by
 unfold OffsRet
 rw [h.1, h.2]
 exact ⟨none, 0, rfl, Nat.le_refl _, Nat.zero_le _, fun _ => rfl, Or.inl rfl, hb⟩
theorem offs_own {w w' : World} {L : List In} {base n : Nat} {v : Value} {M : List Int} (h : ofE L = 0 ∧ ofP L = M) (ho : w'.ownsRow base 3 1 v n (Ri M)) (hb : Below w.heap.size w w') : OffsRet w L (.returned (.tuple #[v, .int .i64 0])) w' := by
 obtain ⟨A, c, rfl, h1, h2, h3⟩ := own_form ho
 obtain ⟨hr, rfl⟩ := Row.of_own ho
 unfold OffsRet
 rw [h.1, h.2]
 exact ⟨A, c, rfl, h1, h2, h3, hr, hb⟩
/-- Offsets, behind k rounds -/
structure OfInv (w wr : World) (L : List In) (k : Nat) (v : Value) : Prop where
 own : wr.ownsRow w.heap.size 3 1 v k (Ri (ofN L k))
 bel : Below w.heap.size w wr
 ok : ∀ (j : Nat) (i : In), j < k → L[j]? = some i → ciE i = 0
end Go.Proofs.YtalejaklggnnpaaGreatDoor.I
