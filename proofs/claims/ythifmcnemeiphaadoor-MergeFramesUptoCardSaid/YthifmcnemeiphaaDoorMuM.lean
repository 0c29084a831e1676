import Derived.Test.YthifmcnemeiphaaDoorMnM
import Derived.Test.YthifmcnemeiphaaDoorHa
import Derived.Deep.Slices
import Derived.Deep.Strs
import Derived.Deep.Fields
import Derived.Lib.SmallJoins
import Derived.Test.YthifmcnemeiphaaDoorVf
import Derived.Test.YthifmcnemeiphaaDoorHm
import Derived.Test.YthifmcnemeiphaaDoorRows
import Derived.Test.YthifmcnemeiphaaDoorIM
import Derived.Deep.RegionHeld3
import Derived.Deep.DrawnRows
import Derived.Deep.QuietTactic
import Derived.BigQuiet

/- Mt -/
/- Layer 17 with a hierarchy: Assignable (written by gen/mt.py). -/
namespace Go.Proofs.YthifmcnemeiphaaDoor
open Go.ChangeShapes Go.WideShapes Go.ChangeAt Go.RowKit Go.PlainAid Go.Maps
set_option linter.unusedSimpArgs false
set_option linter.unusedVariables false

def VT.ok (v : VT) : Bool := vvB v.k v.n v.d v.b v.s v.p
noncomputable def asB (L : List CI) (a b : VT) : Bool :=
  if a.ok = false then false else if b.ok = false then false else if b.k = 0 then true else if vtE a b = true then true
  else if ¬ b.k = 4 then false else if a.k = 3 then true else if a.k = 4 then taB L a.ty b.ty else false
set_option maxRecDepth 100000 in
set_option maxHeartbeats 4000000 in
theorem mas_1 (V : Value) (k1 n1 d1 b1 p1 k2 n2 d2 b2 p2 : Int) (s1 s2 : ByteArray) (w : World) (hz1 : s1.size ≤ 9223372036854775807) (hz2 : s2.size ≤ 9223372036854775807) (h1 : vvB k1 n1 d1 b1 s1 p1 = false) :
    Calls Tryd.prog 64 #[V, .agg #[.int .i64 k1, .int .i64 n1, .int .i64 d1, .int .u8 b1, .string s1, .int .i64 p1], .agg #[.int .i64 k2, .int .i64 n2, .int .i64 d2, .int .u8 b2, .string s2, .int .i64 p2]] w fun e w' => e = .returned (.bool false) ∧ Below w.heap.size w w' := by
  go_enter Tryd.func64, Tryd.ntmps64
  go_upto_region 1 with fail
  obtain ⟨H0, H1, hB⟩ := two_laid w (.cells #[.int .i64 k1, .int .i64 n1, .int .i64 d1, .int .u8 b1, .string s1, .int .i64 p1] 43) (.cells #[.int .i64 k2, .int .i64 n2, .int .i64 d2, .int .u8 b2, .string s2, .int .i64 p2] 43)
  generalize (w.alloc (.cells #[.int .i64 k1, .int .i64 n1, .int .i64 d1, .int .u8 b1, .string s1, .int .i64 p1] 43)).alloc (.cells #[.int .i64 k2, .int .i64 n2, .int .i64 d2, .int .u8 b2, .string s2, .int .i64 p2] 43) = W at H0 H1 hB ⊢
  obtain ⟨xa0, xa1, xa2, xa3, xa4, xa5, fa⟩ := six_cells H0; obtain ⟨xb0, xb1, xb2, xb3, xb4, xb5, fb⟩ := six_cells H1
  go_wp2_with (first | (go_at_call 33; (with_reducible refine (vvalid_any _ _ _ _ _ _ _).mono ?_); rintro e w1 ⟨rfl, hb1⟩; rw [h1]; replace H0 := (hb1.block _ (lt_heap H0)).trans H0; replace H1 := (hb1.block _ (lt_heap H1)).trans H1; replace hB := below_on hB hb1; clear hb1 xa0 xa1 xa2 xa3 xa4 xa5 fa xb0 xb1 xb2 xb3 xb4 xb5 fb; obtain ⟨xa0, xa1, xa2, xa3, xa4, xa5, fa⟩ := six_cells H0; obtain ⟨xb0, xb1, xb2, xb3, xb4, xb5, fb⟩ := six_cells H1))
  all_goals (go_ret; exact ⟨rfl, hB⟩)
set_option maxRecDepth 100000 in
set_option maxHeartbeats 4000000 in
theorem mas_2 (V : Value) (k1 n1 d1 b1 p1 k2 n2 d2 b2 p2 : Int) (s1 s2 : ByteArray) (w : World) (hz1 : s1.size ≤ 9223372036854775807) (hz2 : s2.size ≤ 9223372036854775807) (h1 : vvB k1 n1 d1 b1 s1 p1 = true) (h2 : vvB k2 n2 d2 b2 s2 p2 = false) :
    Calls Tryd.prog 64 #[V, .agg #[.int .i64 k1, .int .i64 n1, .int .i64 d1, .int .u8 b1, .string s1, .int .i64 p1], .agg #[.int .i64 k2, .int .i64 n2, .int .i64 d2, .int .u8 b2, .string s2, .int .i64 p2]] w fun e w' => e = .returned (.bool false) ∧ Below w.heap.size w w' := by
  go_enter Tryd.func64, Tryd.ntmps64
  go_upto_region 1 with fail
  obtain ⟨H0, H1, hB⟩ := two_laid w (.cells #[.int .i64 k1, .int .i64 n1, .int .i64 d1, .int .u8 b1, .string s1, .int .i64 p1] 43) (.cells #[.int .i64 k2, .int .i64 n2, .int .i64 d2, .int .u8 b2, .string s2, .int .i64 p2] 43)
  generalize (w.alloc (.cells #[.int .i64 k1, .int .i64 n1, .int .i64 d1, .int .u8 b1, .string s1, .int .i64 p1] 43)).alloc (.cells #[.int .i64 k2, .int .i64 n2, .int .i64 d2, .int .u8 b2, .string s2, .int .i64 p2] 43) = W at H0 H1 hB ⊢
  obtain ⟨xa0, xa1, xa2, xa3, xa4, xa5, fa⟩ := six_cells H0; obtain ⟨xb0, xb1, xb2, xb3, xb4, xb5, fb⟩ := six_cells H1
  go_wp2_with (first | (go_at_call 33; (with_reducible refine (vvalid_any _ _ _ _ _ _ _).mono ?_); rintro e w1 ⟨rfl, hb1⟩; (first | rw [h1] | rw [h2]); replace H0 := (hb1.block _ (lt_heap H0)).trans H0; replace H1 := (hb1.block _ (lt_heap H1)).trans H1; replace hB := below_on hB hb1; clear hb1 xa0 xa1 xa2 xa3 xa4 xa5 fa xb0 xb1 xb2 xb3 xb4 xb5 fb; obtain ⟨xa0, xa1, xa2, xa3, xa4, xa5, fa⟩ := six_cells H0; obtain ⟨xb0, xb1, xb2, xb3, xb4, xb5, fb⟩ := six_cells H1))
  all_goals (go_ret; exact ⟨rfl, hB⟩)
set_option maxRecDepth 100000 in
set_option maxHeartbeats 4000000 in
theorem mas_3 (V : Value) (k1 n1 d1 b1 p1 n2 d2 b2 p2 : Int) (s1 s2 : ByteArray) (w : World) (hz1 : s1.size ≤ 9223372036854775807) (hz2 : s2.size ≤ 9223372036854775807) (h1 : vvB k1 n1 d1 b1 s1 p1 = true) (h2 : vvB 0 n2 d2 b2 s2 p2 = true)  :
    Calls Tryd.prog 64 #[V, .agg #[.int .i64 k1, .int .i64 n1, .int .i64 d1, .int .u8 b1, .string s1, .int .i64 p1], .agg #[.int .i64 0, .int .i64 n2, .int .i64 d2, .int .u8 b2, .string s2, .int .i64 p2]] w fun e w' => e = .returned (.bool true) ∧ Below w.heap.size w w' := by
  go_enter Tryd.func64, Tryd.ntmps64
  go_upto_region 1 with fail
  obtain ⟨H0, H1, hB⟩ := two_laid w (.cells #[.int .i64 k1, .int .i64 n1, .int .i64 d1, .int .u8 b1, .string s1, .int .i64 p1] 43) (.cells #[.int .i64 0, .int .i64 n2, .int .i64 d2, .int .u8 b2, .string s2, .int .i64 p2] 43)
  generalize (w.alloc (.cells #[.int .i64 k1, .int .i64 n1, .int .i64 d1, .int .u8 b1, .string s1, .int .i64 p1] 43)).alloc (.cells #[.int .i64 0, .int .i64 n2, .int .i64 d2, .int .u8 b2, .string s2, .int .i64 p2] 43) = W at H0 H1 hB ⊢
  obtain ⟨xa0, xa1, xa2, xa3, xa4, xa5, fa⟩ := six_cells H0; obtain ⟨xb0, xb1, xb2, xb3, xb4, xb5, fb⟩ := six_cells H1
  go_wp2_with (first | (go_at_call 33; (with_reducible refine (vvalid_any _ _ _ _ _ _ _).mono ?_); rintro e w1 ⟨rfl, hb1⟩; (first | rw [h1] | rw [h2]); replace H0 := (hb1.block _ (lt_heap H0)).trans H0; replace H1 := (hb1.block _ (lt_heap H1)).trans H1; replace hB := below_on hB hb1; clear hb1 xa0 xa1 xa2 xa3 xa4 xa5 fa xb0 xb1 xb2 xb3 xb4 xb5 fb; obtain ⟨xa0, xa1, xa2, xa3, xa4, xa5, fa⟩ := six_cells H0; obtain ⟨xb0, xb1, xb2, xb3, xb4, xb5, fb⟩ := six_cells H1))
  all_goals (go_ret; exact ⟨rfl, hB⟩)
set_option maxRecDepth 100000 in
set_option maxHeartbeats 4000000 in
theorem mas_4 (V : Value) (k1 n1 d1 b1 p1 k2 n2 d2 b2 p2 : Int) (s1 s2 : ByteArray) (w : World) (hz1 : s1.size ≤ 9223372036854775807) (hz2 : s2.size ≤ 9223372036854775807) (h1 : vvB k1 n1 d1 b1 s1 p1 = true) (h2 : vvB k2 n2 d2 b2 s2 p2 = true) (n0 : ¬ k2 = 0) (hE : vtE (VT.mk k1 n1 d1 b1 s1 p1) (VT.mk k2 n2 d2 b2 s2 p2) = true) :
    Calls Tryd.prog 64 #[V, .agg #[.int .i64 k1, .int .i64 n1, .int .i64 d1, .int .u8 b1, .string s1, .int .i64 p1], .agg #[.int .i64 k2, .int .i64 n2, .int .i64 d2, .int .u8 b2, .string s2, .int .i64 p2]] w fun e w' => e = .returned (.bool true) ∧ Below w.heap.size w w' := by
  have e1 := fun w => vt_eqF hE w
  go_enter Tryd.func64, Tryd.ntmps64
  go_upto_region 1 with fail
  obtain ⟨H0, H1, hB⟩ := two_laid w (.cells #[.int .i64 k1, .int .i64 n1, .int .i64 d1, .int .u8 b1, .string s1, .int .i64 p1] 43) (.cells #[.int .i64 k2, .int .i64 n2, .int .i64 d2, .int .u8 b2, .string s2, .int .i64 p2] 43)
  generalize (w.alloc (.cells #[.int .i64 k1, .int .i64 n1, .int .i64 d1, .int .u8 b1, .string s1, .int .i64 p1] 43)).alloc (.cells #[.int .i64 k2, .int .i64 n2, .int .i64 d2, .int .u8 b2, .string s2, .int .i64 p2] 43) = W at H0 H1 hB ⊢
  obtain ⟨xa0, xa1, xa2, xa3, xa4, xa5, fa⟩ := six_cells H0; obtain ⟨xb0, xb1, xb2, xb3, xb4, xb5, fb⟩ := six_cells H1
  go_wp2_with (first | (go_at_call 33; (with_reducible refine (vvalid_any _ _ _ _ _ _ _).mono ?_); rintro e w1 ⟨rfl, hb1⟩; (first | rw [h1] | rw [h2]); replace H0 := (hb1.block _ (lt_heap H0)).trans H0; replace H1 := (hb1.block _ (lt_heap H1)).trans H1; replace hB := below_on hB hb1; clear hb1 xa0 xa1 xa2 xa3 xa4 xa5 fa xb0 xb1 xb2 xb3 xb4 xb5 fb; obtain ⟨xa0, xa1, xa2, xa3, xa4, xa5, fa⟩ := six_cells H0; obtain ⟨xb0, xb1, xb2, xb3, xb4, xb5, fb⟩ := six_cells H1))
  all_goals (go_ret; exact ⟨rfl, hB⟩)
set_option maxRecDepth 100000 in
set_option maxHeartbeats 4000000 in
theorem mas_5 (V : Value) (k1 n1 d1 b1 p1 k2 n2 d2 b2 p2 : Int) (s1 s2 : ByteArray) (w : World) (hz1 : s1.size ≤ 9223372036854775807) (hz2 : s2.size ≤ 9223372036854775807) (h1 : vvB k1 n1 d1 b1 s1 p1 = true) (h2 : vvB k2 n2 d2 b2 s2 p2 = true) (n0 : ¬ k2 = 0) (hE : vtE (VT.mk k1 n1 d1 b1 s1 p1) (VT.mk k2 n2 d2 b2 s2 p2) = false) (n4 : ¬ k2 = 4) :
    Calls Tryd.prog 64 #[V, .agg #[.int .i64 k1, .int .i64 n1, .int .i64 d1, .int .u8 b1, .string s1, .int .i64 p1], .agg #[.int .i64 k2, .int .i64 n2, .int .i64 d2, .int .u8 b2, .string s2, .int .i64 p2]] w fun e w' => e = .returned (.bool false) ∧ Below w.heap.size w w' := by
  have e1 := fun w => vt_eqF hE w
  have m7 : (k2 == 4) = false := by simpa using n4
  go_enter Tryd.func64, Tryd.ntmps64
  go_upto_region 1 with fail
  obtain ⟨H0, H1, hB⟩ := two_laid w (.cells #[.int .i64 k1, .int .i64 n1, .int .i64 d1, .int .u8 b1, .string s1, .int .i64 p1] 43) (.cells #[.int .i64 k2, .int .i64 n2, .int .i64 d2, .int .u8 b2, .string s2, .int .i64 p2] 43)
  generalize (w.alloc (.cells #[.int .i64 k1, .int .i64 n1, .int .i64 d1, .int .u8 b1, .string s1, .int .i64 p1] 43)).alloc (.cells #[.int .i64 k2, .int .i64 n2, .int .i64 d2, .int .u8 b2, .string s2, .int .i64 p2] 43) = W at H0 H1 hB ⊢
  obtain ⟨xa0, xa1, xa2, xa3, xa4, xa5, fa⟩ := six_cells H0; obtain ⟨xb0, xb1, xb2, xb3, xb4, xb5, fb⟩ := six_cells H1
  go_wp2_with (first | (go_at_call 33; (with_reducible refine (vvalid_any _ _ _ _ _ _ _).mono ?_); rintro e w1 ⟨rfl, hb1⟩; (first | rw [h1] | rw [h2]); replace H0 := (hb1.block _ (lt_heap H0)).trans H0; replace H1 := (hb1.block _ (lt_heap H1)).trans H1; replace hB := below_on hB hb1; clear hb1 xa0 xa1 xa2 xa3 xa4 xa5 fa xb0 xb1 xb2 xb3 xb4 xb5 fb; obtain ⟨xa0, xa1, xa2, xa3, xa4, xa5, fa⟩ := six_cells H0; obtain ⟨xb0, xb1, xb2, xb3, xb4, xb5, fb⟩ := six_cells H1))
  all_goals (go_ret; exact ⟨rfl, hB⟩)
set_option maxRecDepth 100000 in
set_option maxHeartbeats 4000000 in
theorem mas_6 (V : Value) (n1 d1 b1 p1 n2 d2 b2 p2 : Int) (s1 s2 : ByteArray) (w : World) (hz1 : s1.size ≤ 9223372036854775807) (hz2 : s2.size ≤ 9223372036854775807) (h1 : vvB 3 n1 d1 b1 s1 p1 = true) (h2 : vvB 4 n2 d2 b2 s2 p2 = true) (hE : vtE (VT.mk 3 n1 d1 b1 s1 p1) (VT.mk 4 n2 d2 b2 s2 p2) = false) :
    Calls Tryd.prog 64 #[V, .agg #[.int .i64 3, .int .i64 n1, .int .i64 d1, .int .u8 b1, .string s1, .int .i64 p1], .agg #[.int .i64 4, .int .i64 n2, .int .i64 d2, .int .u8 b2, .string s2, .int .i64 p2]] w fun e w' => e = .returned (.bool true) ∧ Below w.heap.size w w' := by
  have e1 := fun w => vt_eqF hE w
  go_enter Tryd.func64, Tryd.ntmps64
  go_upto_region 1 with fail
  obtain ⟨H0, H1, hB⟩ := two_laid w (.cells #[.int .i64 3, .int .i64 n1, .int .i64 d1, .int .u8 b1, .string s1, .int .i64 p1] 43) (.cells #[.int .i64 4, .int .i64 n2, .int .i64 d2, .int .u8 b2, .string s2, .int .i64 p2] 43)
  generalize (w.alloc (.cells #[.int .i64 3, .int .i64 n1, .int .i64 d1, .int .u8 b1, .string s1, .int .i64 p1] 43)).alloc (.cells #[.int .i64 4, .int .i64 n2, .int .i64 d2, .int .u8 b2, .string s2, .int .i64 p2] 43) = W at H0 H1 hB ⊢
  obtain ⟨xa0, xa1, xa2, xa3, xa4, xa5, fa⟩ := six_cells H0; obtain ⟨xb0, xb1, xb2, xb3, xb4, xb5, fb⟩ := six_cells H1
  go_wp2_with (first | (go_at_call 33; (with_reducible refine (vvalid_any _ _ _ _ _ _ _).mono ?_); rintro e w1 ⟨rfl, hb1⟩; (first | rw [h1] | rw [h2]); replace H0 := (hb1.block _ (lt_heap H0)).trans H0; replace H1 := (hb1.block _ (lt_heap H1)).trans H1; replace hB := below_on hB hb1; clear hb1 xa0 xa1 xa2 xa3 xa4 xa5 fa xb0 xb1 xb2 xb3 xb4 xb5 fb; obtain ⟨xa0, xa1, xa2, xa3, xa4, xa5, fa⟩ := six_cells H0; obtain ⟨xb0, xb1, xb2, xb3, xb4, xb5, fb⟩ := six_cells H1))
  all_goals (go_ret; exact ⟨rfl, hB⟩)
set_option maxRecDepth 100000 in
set_option maxHeartbeats 4000000 in
theorem mas_7 (V : Value) (n1 d1 b1 p1 n2 d2 b2 p2 : Int) (s1 s2 : ByteArray) (w : World) (hz1 : s1.size ≤ 9223372036854775807) (hz2 : s2.size ≤ 9223372036854775807) (h1 : vvB 4 n1 d1 b1 s1 p1 = true) (h2 : vvB 4 n2 d2 b2 s2 p2 = true) (hE : vtE (VT.mk 4 n1 d1 b1 s1 p1) (VT.mk 4 n2 d2 b2 s2 p2) = false) (r : Bool) (KT : ∀ W, Below w.heap.size w W → Calls Tryd.prog 63 #[V, .agg #[.int .i64 d1, .int .u8 b1, .string s1], .agg #[.int .i64 d2, .int .u8 b2, .string s2]] W fun e w' => e = .returned (.bool r) ∧ Below W.heap.size W w') :
    Calls Tryd.prog 64 #[V, .agg #[.int .i64 4, .int .i64 n1, .int .i64 d1, .int .u8 b1, .string s1, .int .i64 p1], .agg #[.int .i64 4, .int .i64 n2, .int .i64 d2, .int .u8 b2, .string s2, .int .i64 p2]] w fun e w' => e = .returned (.bool r) ∧ Below w.heap.size w w' := by
  have e1 := fun w => vt_eqF hE w
  go_enter Tryd.func64, Tryd.ntmps64
  go_upto_region 1 with fail
  obtain ⟨H0, H1, hB⟩ := two_laid w (.cells #[.int .i64 4, .int .i64 n1, .int .i64 d1, .int .u8 b1, .string s1, .int .i64 p1] 43) (.cells #[.int .i64 4, .int .i64 n2, .int .i64 d2, .int .u8 b2, .string s2, .int .i64 p2] 43)
  generalize (w.alloc (.cells #[.int .i64 4, .int .i64 n1, .int .i64 d1, .int .u8 b1, .string s1, .int .i64 p1] 43)).alloc (.cells #[.int .i64 4, .int .i64 n2, .int .i64 d2, .int .u8 b2, .string s2, .int .i64 p2] 43) = W at H0 H1 hB ⊢
  obtain ⟨xa0, xa1, xa2, xa3, xa4, xa5, fa⟩ := six_cells H0; obtain ⟨xb0, xb1, xb2, xb3, xb4, xb5, fb⟩ := six_cells H1
  go_wp2_with (first | (go_at_call 33; (with_reducible refine (vvalid_any _ _ _ _ _ _ _).mono ?_); rintro e w1 ⟨rfl, hb1⟩; (first | rw [h1] | rw [h2]); replace H0 := (hb1.block _ (lt_heap H0)).trans H0; replace H1 := (hb1.block _ (lt_heap H1)).trans H1; replace hB := below_on hB hb1; clear hb1 xa0 xa1 xa2 xa3 xa4 xa5 fa xb0 xb1 xb2 xb3 xb4 xb5 fb; obtain ⟨xa0, xa1, xa2, xa3, xa4, xa5, fa⟩ := six_cells H0; obtain ⟨xb0, xb1, xb2, xb3, xb4, xb5, fb⟩ := six_cells H1) | (go_at_call 63; (with_reducible refine (KT _ hB).mono ?_); rintro e w1 ⟨rfl, hb1⟩; replace H0 := (hb1.block _ (lt_heap H0)).trans H0; replace H1 := (hb1.block _ (lt_heap H1)).trans H1; replace hB := below_on hB hb1; clear hb1 xa0 xa1 xa2 xa3 xa4 xa5 fa xb0 xb1 xb2 xb3 xb4 xb5 fb; obtain ⟨xa0, xa1, xa2, xa3, xa4, xa5, fa⟩ := six_cells H0; obtain ⟨xb0, xb1, xb2, xb3, xb4, xb5, fb⟩ := six_cells H1))
  all_goals (go_ret; exact ⟨rfl, hB⟩)
set_option maxRecDepth 100000 in
set_option maxHeartbeats 4000000 in
theorem mas_8 (V : Value) (k1 n1 d1 b1 p1 n2 d2 b2 p2 : Int) (s1 s2 : ByteArray) (w : World) (hz1 : s1.size ≤ 9223372036854775807) (hz2 : s2.size ≤ 9223372036854775807) (h1 : vvB k1 n1 d1 b1 s1 p1 = true) (h2 : vvB 4 n2 d2 b2 s2 p2 = true) (hE : vtE (VT.mk k1 n1 d1 b1 s1 p1) (VT.mk 4 n2 d2 b2 s2 p2) = false) (m3 : ¬ k1 = 3) (m4 : ¬ k1 = 4) :
    Calls Tryd.prog 64 #[V, .agg #[.int .i64 k1, .int .i64 n1, .int .i64 d1, .int .u8 b1, .string s1, .int .i64 p1], .agg #[.int .i64 4, .int .i64 n2, .int .i64 d2, .int .u8 b2, .string s2, .int .i64 p2]] w fun e w' => e = .returned (.bool false) ∧ Below w.heap.size w w' := by
  have e1 := fun w => vt_eqF hE w
  have m5 : (k1 == 3) = false := by simpa using m3
  have m6 : (k1 == 4) = false := by simpa using m4
  go_enter Tryd.func64, Tryd.ntmps64
  go_upto_region 1 with fail
  obtain ⟨H0, H1, hB⟩ := two_laid w (.cells #[.int .i64 k1, .int .i64 n1, .int .i64 d1, .int .u8 b1, .string s1, .int .i64 p1] 43) (.cells #[.int .i64 4, .int .i64 n2, .int .i64 d2, .int .u8 b2, .string s2, .int .i64 p2] 43)
  generalize (w.alloc (.cells #[.int .i64 k1, .int .i64 n1, .int .i64 d1, .int .u8 b1, .string s1, .int .i64 p1] 43)).alloc (.cells #[.int .i64 4, .int .i64 n2, .int .i64 d2, .int .u8 b2, .string s2, .int .i64 p2] 43) = W at H0 H1 hB ⊢
  obtain ⟨xa0, xa1, xa2, xa3, xa4, xa5, fa⟩ := six_cells H0; obtain ⟨xb0, xb1, xb2, xb3, xb4, xb5, fb⟩ := six_cells H1
  go_wp2_with (first | (go_at_call 33; (with_reducible refine (vvalid_any _ _ _ _ _ _ _).mono ?_); rintro e w1 ⟨rfl, hb1⟩; (first | rw [h1] | rw [h2]); replace H0 := (hb1.block _ (lt_heap H0)).trans H0; replace H1 := (hb1.block _ (lt_heap H1)).trans H1; replace hB := below_on hB hb1; clear hb1 xa0 xa1 xa2 xa3 xa4 xa5 fa xb0 xb1 xb2 xb3 xb4 xb5 fb; obtain ⟨xa0, xa1, xa2, xa3, xa4, xa5, fa⟩ := six_cells H0; obtain ⟨xb0, xb1, xb2, xb3, xb4, xb5, fb⟩ := six_cells H1))
  all_goals (go_ret; exact ⟨rfl, hB⟩)
set_option maxRecDepth 100000 in
set_option maxHeartbeats 4000000 in
theorem ras_1 (V : Value) (k1 n1 d1 b1 p1 k2 n2 d2 b2 p2 : Int) (s1 s2 : ByteArray) (w : World) (hz1 : s1.size ≤ 9223372036854775807) (hz2 : s2.size ≤ 9223372036854775807) (h1 : vvB k1 n1 d1 b1 s1 p1 = false) :
    Calls Tryd.prog 100 #[V, .agg #[.int .i64 k1, .int .i64 n1, .int .i64 d1, .int .u8 b1, .string s1, .int .i64 p1], .agg #[.int .i64 k2, .int .i64 n2, .int .i64 d2, .int .u8 b2, .string s2, .int .i64 p2]] w fun e w' => e = .returned (.bool false) ∧ Below w.heap.size w w' := by
  go_enter Tryd.func100, Tryd.ntmps100
  go_upto_region 1 with fail
  obtain ⟨H0, H1, hB⟩ := two_laid w (.cells #[.int .i64 k1, .int .i64 n1, .int .i64 d1, .int .u8 b1, .string s1, .int .i64 p1] 43) (.cells #[.int .i64 k2, .int .i64 n2, .int .i64 d2, .int .u8 b2, .string s2, .int .i64 p2] 43)
  generalize (w.alloc (.cells #[.int .i64 k1, .int .i64 n1, .int .i64 d1, .int .u8 b1, .string s1, .int .i64 p1] 43)).alloc (.cells #[.int .i64 k2, .int .i64 n2, .int .i64 d2, .int .u8 b2, .string s2, .int .i64 p2] 43) = W at H0 H1 hB ⊢
  obtain ⟨xa0, xa1, xa2, xa3, xa4, xa5, fa⟩ := six_cells H0; obtain ⟨xb0, xb1, xb2, xb3, xb4, xb5, fb⟩ := six_cells H1
  go_wp2_with (first | (go_at_call 34; (with_reducible refine (rvvalid_any _ _ _ _ _ _ (by assumption) _).mono ?_); rintro e w1 ⟨rfl, hb1⟩; rw [h1]; replace H0 := (hb1.block _ (lt_heap H0)).trans H0; replace H1 := (hb1.block _ (lt_heap H1)).trans H1; replace hB := below_on hB hb1; clear hb1 xa0 xa1 xa2 xa3 xa4 xa5 fa xb0 xb1 xb2 xb3 xb4 xb5 fb; obtain ⟨xa0, xa1, xa2, xa3, xa4, xa5, fa⟩ := six_cells H0; obtain ⟨xb0, xb1, xb2, xb3, xb4, xb5, fb⟩ := six_cells H1))
  all_goals (go_ret; exact ⟨rfl, hB⟩)
set_option maxRecDepth 100000 in
set_option maxHeartbeats 4000000 in
theorem ras_2 (V : Value) (k1 n1 d1 b1 p1 k2 n2 d2 b2 p2 : Int) (s1 s2 : ByteArray) (w : World) (hz1 : s1.size ≤ 9223372036854775807) (hz2 : s2.size ≤ 9223372036854775807) (h1 : vvB k1 n1 d1 b1 s1 p1 = true) (h2 : vvB k2 n2 d2 b2 s2 p2 = false) :
    Calls Tryd.prog 100 #[V, .agg #[.int .i64 k1, .int .i64 n1, .int .i64 d1, .int .u8 b1, .string s1, .int .i64 p1], .agg #[.int .i64 k2, .int .i64 n2, .int .i64 d2, .int .u8 b2, .string s2, .int .i64 p2]] w fun e w' => e = .returned (.bool false) ∧ Below w.heap.size w w' := by
  go_enter Tryd.func100, Tryd.ntmps100
  go_upto_region 1 with fail
  obtain ⟨H0, H1, hB⟩ := two_laid w (.cells #[.int .i64 k1, .int .i64 n1, .int .i64 d1, .int .u8 b1, .string s1, .int .i64 p1] 43) (.cells #[.int .i64 k2, .int .i64 n2, .int .i64 d2, .int .u8 b2, .string s2, .int .i64 p2] 43)
  generalize (w.alloc (.cells #[.int .i64 k1, .int .i64 n1, .int .i64 d1, .int .u8 b1, .string s1, .int .i64 p1] 43)).alloc (.cells #[.int .i64 k2, .int .i64 n2, .int .i64 d2, .int .u8 b2, .string s2, .int .i64 p2] 43) = W at H0 H1 hB ⊢
  obtain ⟨xa0, xa1, xa2, xa3, xa4, xa5, fa⟩ := six_cells H0; obtain ⟨xb0, xb1, xb2, xb3, xb4, xb5, fb⟩ := six_cells H1
  go_wp2_with (first | (go_at_call 34; (with_reducible refine (rvvalid_any _ _ _ _ _ _ (by assumption) _).mono ?_); rintro e w1 ⟨rfl, hb1⟩; (first | rw [h1] | rw [h2]); replace H0 := (hb1.block _ (lt_heap H0)).trans H0; replace H1 := (hb1.block _ (lt_heap H1)).trans H1; replace hB := below_on hB hb1; clear hb1 xa0 xa1 xa2 xa3 xa4 xa5 fa xb0 xb1 xb2 xb3 xb4 xb5 fb; obtain ⟨xa0, xa1, xa2, xa3, xa4, xa5, fa⟩ := six_cells H0; obtain ⟨xb0, xb1, xb2, xb3, xb4, xb5, fb⟩ := six_cells H1))
  all_goals (go_ret; exact ⟨rfl, hB⟩)
set_option maxRecDepth 100000 in
set_option maxHeartbeats 4000000 in
theorem ras_3 (V : Value) (k1 n1 d1 b1 p1 n2 d2 b2 p2 : Int) (s1 s2 : ByteArray) (w : World) (hz1 : s1.size ≤ 9223372036854775807) (hz2 : s2.size ≤ 9223372036854775807) (h1 : vvB k1 n1 d1 b1 s1 p1 = true) (h2 : vvB 0 n2 d2 b2 s2 p2 = true)  :
    Calls Tryd.prog 100 #[V, .agg #[.int .i64 k1, .int .i64 n1, .int .i64 d1, .int .u8 b1, .string s1, .int .i64 p1], .agg #[.int .i64 0, .int .i64 n2, .int .i64 d2, .int .u8 b2, .string s2, .int .i64 p2]] w fun e w' => e = .returned (.bool true) ∧ Below w.heap.size w w' := by
  go_enter Tryd.func100, Tryd.ntmps100
  go_upto_region 1 with fail
  obtain ⟨H0, H1, hB⟩ := two_laid w (.cells #[.int .i64 k1, .int .i64 n1, .int .i64 d1, .int .u8 b1, .string s1, .int .i64 p1] 43) (.cells #[.int .i64 0, .int .i64 n2, .int .i64 d2, .int .u8 b2, .string s2, .int .i64 p2] 43)
  generalize (w.alloc (.cells #[.int .i64 k1, .int .i64 n1, .int .i64 d1, .int .u8 b1, .string s1, .int .i64 p1] 43)).alloc (.cells #[.int .i64 0, .int .i64 n2, .int .i64 d2, .int .u8 b2, .string s2, .int .i64 p2] 43) = W at H0 H1 hB ⊢
  obtain ⟨xa0, xa1, xa2, xa3, xa4, xa5, fa⟩ := six_cells H0; obtain ⟨xb0, xb1, xb2, xb3, xb4, xb5, fb⟩ := six_cells H1
  go_wp2_with (first | (go_at_call 34; (with_reducible refine (rvvalid_any _ _ _ _ _ _ (by assumption) _).mono ?_); rintro e w1 ⟨rfl, hb1⟩; (first | rw [h1] | rw [h2]); replace H0 := (hb1.block _ (lt_heap H0)).trans H0; replace H1 := (hb1.block _ (lt_heap H1)).trans H1; replace hB := below_on hB hb1; clear hb1 xa0 xa1 xa2 xa3 xa4 xa5 fa xb0 xb1 xb2 xb3 xb4 xb5 fb; obtain ⟨xa0, xa1, xa2, xa3, xa4, xa5, fa⟩ := six_cells H0; obtain ⟨xb0, xb1, xb2, xb3, xb4, xb5, fb⟩ := six_cells H1))
  all_goals (go_ret; exact ⟨rfl, hB⟩)
set_option maxRecDepth 100000 in
set_option maxHeartbeats 4000000 in
theorem ras_4 (V : Value) (k1 n1 d1 b1 p1 k2 n2 d2 b2 p2 : Int) (s1 s2 : ByteArray) (w : World) (hz1 : s1.size ≤ 9223372036854775807) (hz2 : s2.size ≤ 9223372036854775807) (h1 : vvB k1 n1 d1 b1 s1 p1 = true) (h2 : vvB k2 n2 d2 b2 s2 p2 = true) (n0 : ¬ k2 = 0) (hE : vtE (VT.mk k1 n1 d1 b1 s1 p1) (VT.mk k2 n2 d2 b2 s2 p2) = true) :
    Calls Tryd.prog 100 #[V, .agg #[.int .i64 k1, .int .i64 n1, .int .i64 d1, .int .u8 b1, .string s1, .int .i64 p1], .agg #[.int .i64 k2, .int .i64 n2, .int .i64 d2, .int .u8 b2, .string s2, .int .i64 p2]] w fun e w' => e = .returned (.bool true) ∧ Below w.heap.size w w' := by
  have e1 := fun w => vt_eqF hE w
  go_enter Tryd.func100, Tryd.ntmps100
  go_upto_region 1 with fail
  obtain ⟨H0, H1, hB⟩ := two_laid w (.cells #[.int .i64 k1, .int .i64 n1, .int .i64 d1, .int .u8 b1, .string s1, .int .i64 p1] 43) (.cells #[.int .i64 k2, .int .i64 n2, .int .i64 d2, .int .u8 b2, .string s2, .int .i64 p2] 43)
  generalize (w.alloc (.cells #[.int .i64 k1, .int .i64 n1, .int .i64 d1, .int .u8 b1, .string s1, .int .i64 p1] 43)).alloc (.cells #[.int .i64 k2, .int .i64 n2, .int .i64 d2, .int .u8 b2, .string s2, .int .i64 p2] 43) = W at H0 H1 hB ⊢
  obtain ⟨xa0, xa1, xa2, xa3, xa4, xa5, fa⟩ := six_cells H0; obtain ⟨xb0, xb1, xb2, xb3, xb4, xb5, fb⟩ := six_cells H1
  go_wp2_with (first | (go_at_call 34; (with_reducible refine (rvvalid_any _ _ _ _ _ _ (by assumption) _).mono ?_); rintro e w1 ⟨rfl, hb1⟩; (first | rw [h1] | rw [h2]); replace H0 := (hb1.block _ (lt_heap H0)).trans H0; replace H1 := (hb1.block _ (lt_heap H1)).trans H1; replace hB := below_on hB hb1; clear hb1 xa0 xa1 xa2 xa3 xa4 xa5 fa xb0 xb1 xb2 xb3 xb4 xb5 fb; obtain ⟨xa0, xa1, xa2, xa3, xa4, xa5, fa⟩ := six_cells H0; obtain ⟨xb0, xb1, xb2, xb3, xb4, xb5, fb⟩ := six_cells H1))
  all_goals (go_ret; exact ⟨rfl, hB⟩)
set_option maxRecDepth 100000 in
set_option maxHeartbeats 4000000 in
theorem ras_5 (V : Value) (k1 n1 d1 b1 p1 k2 n2 d2 b2 p2 : Int) (s1 s2 : ByteArray) (w : World) (hz1 : s1.size ≤ 9223372036854775807) (hz2 : s2.size ≤ 9223372036854775807) (h1 : vvB k1 n1 d1 b1 s1 p1 = true) (h2 : vvB k2 n2 d2 b2 s2 p2 = true) (n0 : ¬ k2 = 0) (hE : vtE (VT.mk k1 n1 d1 b1 s1 p1) (VT.mk k2 n2 d2 b2 s2 p2) = false) (n4 : ¬ k2 = 4) :
    Calls Tryd.prog 100 #[V, .agg #[.int .i64 k1, .int .i64 n1, .int .i64 d1, .int .u8 b1, .string s1, .int .i64 p1], .agg #[.int .i64 k2, .int .i64 n2, .int .i64 d2, .int .u8 b2, .string s2, .int .i64 p2]] w fun e w' => e = .returned (.bool false) ∧ Below w.heap.size w w' := by
  have e1 := fun w => vt_eqF hE w
  have m7 : (k2 == 4) = false := by simpa using n4
  go_enter Tryd.func100, Tryd.ntmps100
  go_upto_region 1 with fail
  obtain ⟨H0, H1, hB⟩ := two_laid w (.cells #[.int .i64 k1, .int .i64 n1, .int .i64 d1, .int .u8 b1, .string s1, .int .i64 p1] 43) (.cells #[.int .i64 k2, .int .i64 n2, .int .i64 d2, .int .u8 b2, .string s2, .int .i64 p2] 43)
  generalize (w.alloc (.cells #[.int .i64 k1, .int .i64 n1, .int .i64 d1, .int .u8 b1, .string s1, .int .i64 p1] 43)).alloc (.cells #[.int .i64 k2, .int .i64 n2, .int .i64 d2, .int .u8 b2, .string s2, .int .i64 p2] 43) = W at H0 H1 hB ⊢
  obtain ⟨xa0, xa1, xa2, xa3, xa4, xa5, fa⟩ := six_cells H0; obtain ⟨xb0, xb1, xb2, xb3, xb4, xb5, fb⟩ := six_cells H1
  go_wp2_with (first | (go_at_call 34; (with_reducible refine (rvvalid_any _ _ _ _ _ _ (by assumption) _).mono ?_); rintro e w1 ⟨rfl, hb1⟩; (first | rw [h1] | rw [h2]); replace H0 := (hb1.block _ (lt_heap H0)).trans H0; replace H1 := (hb1.block _ (lt_heap H1)).trans H1; replace hB := below_on hB hb1; clear hb1 xa0 xa1 xa2 xa3 xa4 xa5 fa xb0 xb1 xb2 xb3 xb4 xb5 fb; obtain ⟨xa0, xa1, xa2, xa3, xa4, xa5, fa⟩ := six_cells H0; obtain ⟨xb0, xb1, xb2, xb3, xb4, xb5, fb⟩ := six_cells H1))
  all_goals (go_ret; exact ⟨rfl, hB⟩)
set_option maxRecDepth 100000 in
set_option maxHeartbeats 4000000 in
theorem ras_6 (V : Value) (n1 d1 b1 p1 n2 d2 b2 p2 : Int) (s1 s2 : ByteArray) (w : World) (hz1 : s1.size ≤ 9223372036854775807) (hz2 : s2.size ≤ 9223372036854775807) (h1 : vvB 3 n1 d1 b1 s1 p1 = true) (h2 : vvB 4 n2 d2 b2 s2 p2 = true) (hE : vtE (VT.mk 3 n1 d1 b1 s1 p1) (VT.mk 4 n2 d2 b2 s2 p2) = false) :
    Calls Tryd.prog 100 #[V, .agg #[.int .i64 3, .int .i64 n1, .int .i64 d1, .int .u8 b1, .string s1, .int .i64 p1], .agg #[.int .i64 4, .int .i64 n2, .int .i64 d2, .int .u8 b2, .string s2, .int .i64 p2]] w fun e w' => e = .returned (.bool true) ∧ Below w.heap.size w w' := by
  have e1 := fun w => vt_eqF hE w
  go_enter Tryd.func100, Tryd.ntmps100
  go_upto_region 1 with fail
  obtain ⟨H0, H1, hB⟩ := two_laid w (.cells #[.int .i64 3, .int .i64 n1, .int .i64 d1, .int .u8 b1, .string s1, .int .i64 p1] 43) (.cells #[.int .i64 4, .int .i64 n2, .int .i64 d2, .int .u8 b2, .string s2, .int .i64 p2] 43)
  generalize (w.alloc (.cells #[.int .i64 3, .int .i64 n1, .int .i64 d1, .int .u8 b1, .string s1, .int .i64 p1] 43)).alloc (.cells #[.int .i64 4, .int .i64 n2, .int .i64 d2, .int .u8 b2, .string s2, .int .i64 p2] 43) = W at H0 H1 hB ⊢
  obtain ⟨xa0, xa1, xa2, xa3, xa4, xa5, fa⟩ := six_cells H0; obtain ⟨xb0, xb1, xb2, xb3, xb4, xb5, fb⟩ := six_cells H1
  go_wp2_with (first | (go_at_call 34; (with_reducible refine (rvvalid_any _ _ _ _ _ _ (by assumption) _).mono ?_); rintro e w1 ⟨rfl, hb1⟩; (first | rw [h1] | rw [h2]); replace H0 := (hb1.block _ (lt_heap H0)).trans H0; replace H1 := (hb1.block _ (lt_heap H1)).trans H1; replace hB := below_on hB hb1; clear hb1 xa0 xa1 xa2 xa3 xa4 xa5 fa xb0 xb1 xb2 xb3 xb4 xb5 fb; obtain ⟨xa0, xa1, xa2, xa3, xa4, xa5, fa⟩ := six_cells H0; obtain ⟨xb0, xb1, xb2, xb3, xb4, xb5, fb⟩ := six_cells H1))
  all_goals (go_ret; exact ⟨rfl, hB⟩)
set_option maxRecDepth 100000 in
set_option maxHeartbeats 4000000 in
theorem ras_7 (V : Value) (n1 d1 b1 p1 n2 d2 b2 p2 : Int) (s1 s2 : ByteArray) (w : World) (hz1 : s1.size ≤ 9223372036854775807) (hz2 : s2.size ≤ 9223372036854775807) (h1 : vvB 4 n1 d1 b1 s1 p1 = true) (h2 : vvB 4 n2 d2 b2 s2 p2 = true) (hE : vtE (VT.mk 4 n1 d1 b1 s1 p1) (VT.mk 4 n2 d2 b2 s2 p2) = false) (r : Bool) (KT : ∀ W, Below w.heap.size w W → Calls Tryd.prog 117 #[V, .agg #[.int .i64 d1, .int .u8 b1, .string s1], .agg #[.int .i64 d2, .int .u8 b2, .string s2]] W fun e w' => e = .returned (.bool r) ∧ Below W.heap.size W w') :
    Calls Tryd.prog 100 #[V, .agg #[.int .i64 4, .int .i64 n1, .int .i64 d1, .int .u8 b1, .string s1, .int .i64 p1], .agg #[.int .i64 4, .int .i64 n2, .int .i64 d2, .int .u8 b2, .string s2, .int .i64 p2]] w fun e w' => e = .returned (.bool r) ∧ Below w.heap.size w w' := by
  have e1 := fun w => vt_eqF hE w
  go_enter Tryd.func100, Tryd.ntmps100
  go_upto_region 1 with fail
  obtain ⟨H0, H1, hB⟩ := two_laid w (.cells #[.int .i64 4, .int .i64 n1, .int .i64 d1, .int .u8 b1, .string s1, .int .i64 p1] 43) (.cells #[.int .i64 4, .int .i64 n2, .int .i64 d2, .int .u8 b2, .string s2, .int .i64 p2] 43)
  generalize (w.alloc (.cells #[.int .i64 4, .int .i64 n1, .int .i64 d1, .int .u8 b1, .string s1, .int .i64 p1] 43)).alloc (.cells #[.int .i64 4, .int .i64 n2, .int .i64 d2, .int .u8 b2, .string s2, .int .i64 p2] 43) = W at H0 H1 hB ⊢
  obtain ⟨xa0, xa1, xa2, xa3, xa4, xa5, fa⟩ := six_cells H0; obtain ⟨xb0, xb1, xb2, xb3, xb4, xb5, fb⟩ := six_cells H1
  go_wp2_with (first | (go_at_call 34; (with_reducible refine (rvvalid_any _ _ _ _ _ _ (by assumption) _).mono ?_); rintro e w1 ⟨rfl, hb1⟩; (first | rw [h1] | rw [h2]); replace H0 := (hb1.block _ (lt_heap H0)).trans H0; replace H1 := (hb1.block _ (lt_heap H1)).trans H1; replace hB := below_on hB hb1; clear hb1 xa0 xa1 xa2 xa3 xa4 xa5 fa xb0 xb1 xb2 xb3 xb4 xb5 fb; obtain ⟨xa0, xa1, xa2, xa3, xa4, xa5, fa⟩ := six_cells H0; obtain ⟨xb0, xb1, xb2, xb3, xb4, xb5, fb⟩ := six_cells H1) | (go_at_call 117; (with_reducible refine (KT _ hB).mono ?_); rintro e w1 ⟨rfl, hb1⟩; replace H0 := (hb1.block _ (lt_heap H0)).trans H0; replace H1 := (hb1.block _ (lt_heap H1)).trans H1; replace hB := below_on hB hb1; clear hb1 xa0 xa1 xa2 xa3 xa4 xa5 fa xb0 xb1 xb2 xb3 xb4 xb5 fb; obtain ⟨xa0, xa1, xa2, xa3, xa4, xa5, fa⟩ := six_cells H0; obtain ⟨xb0, xb1, xb2, xb3, xb4, xb5, fb⟩ := six_cells H1))
  all_goals (go_ret; exact ⟨rfl, hB⟩)
set_option maxRecDepth 100000 in
set_option maxHeartbeats 4000000 in
theorem ras_8 (V : Value) (k1 n1 d1 b1 p1 n2 d2 b2 p2 : Int) (s1 s2 : ByteArray) (w : World) (hz1 : s1.size ≤ 9223372036854775807) (hz2 : s2.size ≤ 9223372036854775807) (h1 : vvB k1 n1 d1 b1 s1 p1 = true) (h2 : vvB 4 n2 d2 b2 s2 p2 = true) (hE : vtE (VT.mk k1 n1 d1 b1 s1 p1) (VT.mk 4 n2 d2 b2 s2 p2) = false) (m3 : ¬ k1 = 3) (m4 : ¬ k1 = 4) :
    Calls Tryd.prog 100 #[V, .agg #[.int .i64 k1, .int .i64 n1, .int .i64 d1, .int .u8 b1, .string s1, .int .i64 p1], .agg #[.int .i64 4, .int .i64 n2, .int .i64 d2, .int .u8 b2, .string s2, .int .i64 p2]] w fun e w' => e = .returned (.bool false) ∧ Below w.heap.size w w' := by
  have e1 := fun w => vt_eqF hE w
  have m5 : (k1 == 3) = false := by simpa using m3
  have m6 : (k1 == 4) = false := by simpa using m4
  go_enter Tryd.func100, Tryd.ntmps100
  go_upto_region 1 with fail
  obtain ⟨H0, H1, hB⟩ := two_laid w (.cells #[.int .i64 k1, .int .i64 n1, .int .i64 d1, .int .u8 b1, .string s1, .int .i64 p1] 43) (.cells #[.int .i64 4, .int .i64 n2, .int .i64 d2, .int .u8 b2, .string s2, .int .i64 p2] 43)
  generalize (w.alloc (.cells #[.int .i64 k1, .int .i64 n1, .int .i64 d1, .int .u8 b1, .string s1, .int .i64 p1] 43)).alloc (.cells #[.int .i64 4, .int .i64 n2, .int .i64 d2, .int .u8 b2, .string s2, .int .i64 p2] 43) = W at H0 H1 hB ⊢
  obtain ⟨xa0, xa1, xa2, xa3, xa4, xa5, fa⟩ := six_cells H0; obtain ⟨xb0, xb1, xb2, xb3, xb4, xb5, fb⟩ := six_cells H1
  go_wp2_with (first | (go_at_call 34; (with_reducible refine (rvvalid_any _ _ _ _ _ _ (by assumption) _).mono ?_); rintro e w1 ⟨rfl, hb1⟩; (first | rw [h1] | rw [h2]); replace H0 := (hb1.block _ (lt_heap H0)).trans H0; replace H1 := (hb1.block _ (lt_heap H1)).trans H1; replace hB := below_on hB hb1; clear hb1 xa0 xa1 xa2 xa3 xa4 xa5 fa xb0 xb1 xb2 xb3 xb4 xb5 fb; obtain ⟨xa0, xa1, xa2, xa3, xa4, xa5, fa⟩ := six_cells H0; obtain ⟨xb0, xb1, xb2, xb3, xb4, xb5, fb⟩ := six_cells H1))
  all_goals (go_ret; exact ⟨rfl, hB⟩)
theorem mas_any (A : Option Addr) (n c : Nat) (L : List CI) (a b : VT) (w : World) (hn : L.length = n) (hc : n ≤ 1000000) (h : CIs w w.heap.size A L) (ha : a.s.size ≤ 9223372036854775807) (hb : b.s.size ≤ 9223372036854775807) :
    Calls Tryd.prog 64 #[.slice A n c, (Value.agg #[Value.int IntKind.i64 (VT.k a), Value.int IntKind.i64 (VT.n a), Value.int IntKind.i64 (VT.d a), Value.int IntKind.u8 (VT.b a), Value.string (VT.s a), Value.int IntKind.i64 (VT.p a)]), (Value.agg #[Value.int IntKind.i64 (VT.k b), Value.int IntKind.i64 (VT.n b), Value.int IntKind.i64 (VT.d b), Value.int IntKind.u8 (VT.b b), Value.string (VT.s b), Value.int IntKind.i64 (VT.p b)])] w fun e w' => e = .returned (.bool (asB L a b)) ∧ Below w.heap.size w w' := by
  obtain ⟨k1, n1, d1, b1, s1, p1⟩ := a
  obtain ⟨k2, n2, d2, b2, s2, p2⟩ := b
  unfold asB VT.ok VT.ty
  dsimp only
  cases h1 : vvB k1 n1 d1 b1 s1 p1 with
  | false => rw [if_pos rfl]; exact mas_1 _ k1 n1 d1 b1 p1 k2 n2 d2 b2 p2 s1 s2 w ha hb h1
  | true =>
    rw [if_neg (show ¬ true = false by decide)]
    cases h2 : vvB k2 n2 d2 b2 s2 p2 with
    | false => rw [if_pos rfl]; exact mas_2 _ k1 n1 d1 b1 p1 k2 n2 d2 b2 p2 s1 s2 w ha hb h1 h2
    | true =>
      rw [if_neg (show ¬ true = false by decide)]
      by_cases n0 : k2 = 0
      · subst n0; rw [if_pos rfl]; exact mas_3 _ k1 n1 d1 b1 p1 n2 d2 b2 p2 s1 s2 w ha hb h1 h2
      · rw [if_neg n0]
        cases hE : vtE ⟨k1, n1, d1, b1, s1, p1⟩ ⟨k2, n2, d2, b2, s2, p2⟩ with
        | true => rw [if_pos rfl]; exact mas_4 _ k1 n1 d1 b1 p1 k2 n2 d2 b2 p2 s1 s2 w ha hb h1 h2 n0 hE
        | false =>
          rw [if_neg (show ¬ false = true by decide)]
          by_cases n4 : k2 = 4
          · subst n4
            rw [if_neg (fun h => h rfl)]
            by_cases m3 : k1 = 3
            · subst m3; rw [if_pos rfl]; exact mas_6 _ n1 d1 b1 p1 n2 d2 b2 p2 s1 s2 w ha hb h1 h2 hE
            · rw [if_neg m3]
              by_cases m4 : k1 = 4
              · subst m4
                rw [if_pos rfl]
                exact mas_7 _ n1 d1 b1 p1 n2 d2 b2 p2 s1 s2 w ha hb h1 h2 hE _ (fun W hW => mta_any A n c L ⟨d1, b1, s1⟩ ⟨d2, b2, s2⟩ W hn hc (h.up hW) ha hb)
              · rw [if_neg m4]; exact mas_8 _ k1 n1 d1 b1 p1 n2 d2 b2 p2 s1 s2 w ha hb h1 h2 hE m3 m4
          · rw [if_pos n4]; exact mas_5 _ k1 n1 d1 b1 p1 k2 n2 d2 b2 p2 s1 s2 w ha hb h1 h2 n0 hE n4
theorem ras_any (A : Option Addr) (n c : Nat) (L : List CI) (a b : VT) (w : World) (hn : L.length = n) (hc : n ≤ 1000000) (hs : Mid L) (hv : VH L) (h : CIs w w.heap.size A L) (ha : a.s.size ≤ 9223372036854775807) (hb : b.s.size ≤ 9223372036854775807) :
    Calls Tryd.prog 100 #[.slice A n c, (Value.agg #[Value.int IntKind.i64 (VT.k a), Value.int IntKind.i64 (VT.n a), Value.int IntKind.i64 (VT.d a), Value.int IntKind.u8 (VT.b a), Value.string (VT.s a), Value.int IntKind.i64 (VT.p a)]), (Value.agg #[Value.int IntKind.i64 (VT.k b), Value.int IntKind.i64 (VT.n b), Value.int IntKind.i64 (VT.d b), Value.int IntKind.u8 (VT.b b), Value.string (VT.s b), Value.int IntKind.i64 (VT.p b)])] w fun e w' => e = .returned (.bool (asB L a b)) ∧ Below w.heap.size w w' := by
  obtain ⟨k1, n1, d1, b1, s1, p1⟩ := a
  obtain ⟨k2, n2, d2, b2, s2, p2⟩ := b
  unfold asB VT.ok VT.ty
  dsimp only
  cases h1 : vvB k1 n1 d1 b1 s1 p1 with
  | false => rw [if_pos rfl]; exact ras_1 _ k1 n1 d1 b1 p1 k2 n2 d2 b2 p2 s1 s2 w ha hb h1
  | true =>
    rw [if_neg (show ¬ true = false by decide)]
    cases h2 : vvB k2 n2 d2 b2 s2 p2 with
    | false => rw [if_pos rfl]; exact ras_2 _ k1 n1 d1 b1 p1 k2 n2 d2 b2 p2 s1 s2 w ha hb h1 h2
    | true =>
      rw [if_neg (show ¬ true = false by decide)]
      by_cases n0 : k2 = 0
      · subst n0; rw [if_pos rfl]; exact ras_3 _ k1 n1 d1 b1 p1 n2 d2 b2 p2 s1 s2 w ha hb h1 h2
      · rw [if_neg n0]
        cases hE : vtE ⟨k1, n1, d1, b1, s1, p1⟩ ⟨k2, n2, d2, b2, s2, p2⟩ with
        | true => rw [if_pos rfl]; exact ras_4 _ k1 n1 d1 b1 p1 k2 n2 d2 b2 p2 s1 s2 w ha hb h1 h2 n0 hE
        | false =>
          rw [if_neg (show ¬ false = true by decide)]
          by_cases n4 : k2 = 4
          · subst n4
            rw [if_neg (fun h => h rfl)]
            by_cases m3 : k1 = 3
            · subst m3; rw [if_pos rfl]; exact ras_6 _ n1 d1 b1 p1 n2 d2 b2 p2 s1 s2 w ha hb h1 h2 hE
            · rw [if_neg m3]
              by_cases m4 : k1 = 4
              · subst m4
                rw [if_pos rfl]
                exact ras_7 _ n1 d1 b1 p1 n2 d2 b2 p2 s1 s2 w ha hb h1 h2 hE _ (fun W hW => rta_any A n c L ⟨d1, b1, s1⟩ ⟨d2, b2, s2⟩ W hn hc hs hv (h.up hW) ha hb)
              · rw [if_neg m4]; exact ras_8 _ k1 n1 d1 b1 p1 n2 d2 b2 p2 s1 s2 w ha hb h1 h2 hE m3 m4
          · rw [if_pos n4]; exact ras_5 _ k1 n1 d1 b1 p1 k2 n2 d2 b2 p2 s1 s2 w ha hb h1 h2 n0 hE n4
end Go.Proofs.YthifmcnemeiphaaDoor

/- Ie -/
/- Layer 16: hierarchies in memory, opened. -/
namespace Go.Proofs.YthifmcnemeiphaaDoor
open Go.ChangeShapes Go.WideShapes Go.ChangeAt Go.RowKit Go.Deep
set_option linter.unusedSimpArgs false
set_option linter.unusedVariables false

theorem cellsC4 : Tryd.prog.cellsOf 30 = 4 := by kernel_rfl
theorem cellsSt : Tryd.prog.cellsOf 9 = 1 := by kernel_rfl
theorem cellsSl : Tryd.prog.cellsOf 28 = 1 := by kernel_rfl
theorem cellsBo : Tryd.prog.cellsOf 4 = 1 := by kernel_rfl
theorem cell_lt {w : World} {a : Addr} {v : Value} (h : w.cell? a = some v) : a.block < w.heap.size := by
  rcases Nat.lt_or_ge a.block w.heap.size with hl | hl
  · exact hl
  · rw [World.cell?, Array.getElem?_eq_none hl] at h; simp at h
theorem list4' {α : Type} : ∀ (l : List α), l.length = 4 → ∃ a b c d, l = [a, b, c, d]
  | [a, b, c, d], _ => ⟨a, b, c, d, rfl⟩
def ccells (i : CI) : List Value := [.string i.nm, .string i.su, .slice i.iA i.n i.c, .bool i.isI]
section
variable {H : Type} {enc : TypeId × Value → H} {w : World} {base : Nat} {spare : Nat → Bool} {held : Bool}
set_option maxRecDepth 100000 in
theorem open_srow {fuel : Nat} {cs : List Value} {x : DataW H × List MemPlace} (h : DataW.trod enc Tryd.prog w base spare held fuel 28 cs = some x) :
    ∃ (A : Option Addr) (n c : Nat) (L : List ByteArray), cs = [.slice A n c] ∧ L.length = n ∧ n ≤ c ∧ c ≤ 9223372036854775807 ∧ SRow w w.heap.size A L ∧ (∀ s ∈ L, s.size ≤ 9223372036854775807) ∧ (A = none → c = 0) := by
  rcases open_slice1 Tryd.underlying28 cellsSt h with ⟨rfl, _⟩ | ⟨a, len, cap, m, n, V, D, Pl, rfl, hb, hl, hm, hmm, hx, hi⟩
  · exact ⟨none, 0, 0, [], rfl, rfl, Nat.le_refl _, by omega, Or.inl rfl, (fun s hs => by cases hs), fun _ => rfl⟩
  · have hlm : len ≤ m := by rw [hmm]; split <;> omega
    have key : ∀ i, i < len → ∃ z : ByteArray, w.cell? (a.add i) = some (.string z) ∧ z.size ≤ 9223372036854775807 := by
      intro i hil
      obtain ⟨hc, ht⟩ := hi i (by omega)
      obtain ⟨z, hz, _, hk⟩ := DataW.trod_string Tryd.underlying9 ht
      simp at hz
      unfold maxLen at hk
      exact ⟨z, by rw [hc, hz], hk⟩
    obtain ⟨f, hf⟩ : ∃ f : Nat → ByteArray, ∀ i, i < len → w.cell? (a.add i) = some (.string (f i)) ∧ (f i).size ≤ 9223372036854775807 :=
      ⟨fun i => if hi : i < len then (key i hi).choose else ⟨#[]⟩, fun i hi => by
        simp only [dif_pos hi]
        exact (key i hi).choose_spec⟩
    refine ⟨some a, len, cap, (List.range len).map f, rfl, by simp, hl, by unfold maxLen at hm; exact hm, ?_, ?_, fun h => by cases h⟩
    · rcases Nat.eq_zero_or_pos len with h0 | h0
      · exact Or.inl (by rw [h0]; rfl)
      · have c0 := (hf 0 h0).1
        obtain ⟨g, o, sp⟩ := a
        have hsp : sp = none := by
          have := World.cell?_spot c0
          simpa [Addr.add] using this
        subst hsp
        refine Or.inr ⟨g, o, rfl, ?_, fun i p hp => ?_⟩
        · have := cell_lt c0
          rw [Addr.add_lit] at this
          exact this
        · rw [List.getElem?_map] at hp
          cases hr : (List.range len)[i]? with
          | none => rw [hr] at hp; cases hp
          | some j =>
            rw [hr] at hp
            have hil : i < len := by
              rcases Nat.lt_or_ge i len with h | h
              · exact h
              · rw [List.getElem?_eq_none (by simpa using h)] at hr; cases hr
            have hj : j = i := by rw [List.getElem?_range hil] at hr; injection hr with hr; exact hr.symm
            subst hj
            injection hp with hp
            subst hp
            have e0 := (hf j hil).1
            rw [Addr.add_lit] at e0
            exact e0
    · intro s hs
      rw [List.mem_map] at hs
      obtain ⟨j, hj, rfl⟩ := hs
      exact (hf j (List.mem_range.1 hj)).2
set_option maxRecDepth 100000 in
theorem open_ci {fuel : Nat} {cs : List Value} {x : DataW H × List MemPlace} (h : DataW.trod enc Tryd.prog w base spare held fuel 30 cs = some x) :
    ∃ i : CI, cs = ccells i ∧ i.ok w w.heap.size := by
  obtain ⟨xs, n, _, _, hl, hxl, hg⟩ := DataW.trod_struct Tryd.underlying30 h
  have h0 := hg 0 _ rfl
  have h1 := hg 1 _ rfl
  have h2 := hg 2 _ rfl
  have h3 := hg 3 _ rfl
  rw [cellsC4] at hl
  obtain ⟨v0, v1, v2, v3, rfl⟩ := list4' cs hl
  obtain ⟨y0, y1, y2, y3, rfl⟩ := list4' xs hxl
  change DataW.trod enc Tryd.prog w base spare held n 9 (List.take (Tryd.prog.cellsOf 9) [v0, v1, v2, v3]) = some y0 at h0
  change DataW.trod enc Tryd.prog w base spare held n 9 (List.take (Tryd.prog.cellsOf 9) [v1, v2, v3]) = some y1 at h1
  change DataW.trod enc Tryd.prog w base spare held n 28 (List.take (Tryd.prog.cellsOf 28) [v2, v3]) = some y2 at h2
  change DataW.trod enc Tryd.prog w base spare held n 4 (List.take (Tryd.prog.cellsOf 4) [v3]) = some y3 at h3
  rw [cellsSt] at h0 h1
  rw [cellsSl] at h2
  rw [cellsBo] at h3
  obtain ⟨s0, e0, _, k0⟩ := DataW.trod_string Tryd.underlying9 h0
  obtain ⟨s1, e1, _, k1⟩ := DataW.trod_string Tryd.underlying9 h1
  obtain ⟨A2, n2, c2, L2, e2, l2, m2, q2, r2, t2, z2⟩ := open_srow h2
  obtain ⟨b3, e3, _⟩ := DataW.trod_bool Tryd.underlying4 h3
  simp at e0 e1 e2 e3
  subst e0 e1 e2 e3
  unfold maxLen at k0 k1
  exact ⟨⟨s0, s1, A2, n2, c2, L2, b3⟩, rfl, k0, k1, l2, m2, q2, r2, t2, z2⟩
set_option maxRecDepth 100000 in
theorem open_cis {fuel : Nat} {cs : List Value} {x : DataW H × List MemPlace} (h : DataW.trod enc Tryd.prog w base spare held fuel 22 cs = some x) :
    ∃ (A : Option Addr) (n c : Nat) (L : List CI), cs = [.slice A n c] ∧ L.length = n ∧ n ≤ c ∧ c ≤ 9223372036854775807 ∧ CIs w w.heap.size A L := by
  rcases open_slice Tryd.underlying22 h with ⟨rfl, _⟩ | ⟨a, len, cap, m, n, D, Pl, rfl, hb, hl, hm, hmm, hx, hi⟩
  · exact ⟨none, 0, 0, [], rfl, rfl, Nat.le_refl _, by omega, Or.inl rfl⟩
  · have hlm : len ≤ m := by rw [hmm]; split <;> omega
    have key : ∀ i, i < len → ∃ p : CI, (∀ j v, (ccells p)[j]? = some v → w.cell? (a.add (i * 4 + j)) = some v) ∧ p.ok w w.heap.size := by
      intro i hil
      obtain ⟨cs', hc, ht⟩ := hi i (by omega)
      rw [cellsC4] at hc
      obtain ⟨p, rfl, hp⟩ := open_ci ht
      obtain ⟨_, _, hat⟩ := World.cells?_some hc
      refine ⟨p, fun j v hv => ?_, hp⟩
      have hj : j < 4 := by
        rcases Nat.lt_or_ge j 4 with h | h
        · exact h
        · rw [List.getElem?_eq_none (by simpa [ccells] using h)] at hv; cases hv
      have := hat j (by simpa using hj)
      rw [add_add] at this
      rw [this, hv]
    obtain ⟨f, hf⟩ : ∃ f : Nat → CI, ∀ i, i < len → (∀ j v, (ccells (f i))[j]? = some v → w.cell? (a.add (i * 4 + j)) = some v) ∧ (f i).ok w w.heap.size :=
      ⟨fun i => if hi : i < len then (key i hi).choose else ⟨⟨#[]⟩, ⟨#[]⟩, none, 0, 0, [], false⟩, fun i hi => by
        simp only [dif_pos hi]
        exact (key i hi).choose_spec⟩
    refine ⟨some a, len, cap, (List.range len).map f, rfl, by simp, hl, by unfold maxLen at hm; exact hm, ?_⟩
    · rcases Nat.eq_zero_or_pos len with h0 | h0
      · exact Or.inl (by rw [h0]; rfl)
      · have c0 := (hf 0 h0).1 0 _ rfl
        obtain ⟨g, o, sp⟩ := a
        have hsp : sp = none := by
          have := World.cell?_spot c0
          simpa [Addr.add] using this
        subst hsp
        refine Or.inr ⟨g, o, rfl, ?_, fun i p hp => ?_⟩
        · have := cell_lt c0
          rw [Addr.add_lit] at this
          exact this
        · rw [List.getElem?_map] at hp
          cases hr : (List.range len)[i]? with
          | none => rw [hr] at hp; cases hp
          | some j =>
            rw [hr] at hp
            have hil : i < len := by
              rcases Nat.lt_or_ge i len with h | h
              · exact h
              · rw [List.getElem?_eq_none (by simpa using h)] at hr; cases hr
            have hj : j = i := by rw [List.getElem?_range hil] at hr; injection hr with hr; exact hr.symm
            subst hj
            injection hp with hp
            subst hp
            obtain ⟨e, ok⟩ := hf j hil
            have at' : ∀ q v, (ccells (f j))[q]? = some v → w.cell? ⟨g, o + j * 4 + q, none⟩ = some v := by
              intro q v hv
              have := e q v hv
              rw [Addr.add_lit] at this
              rw [show o + j * 4 + q = o + (j * 4 + q) by omega]
              exact this
            exact ⟨ok, at' 0 _ rfl, at' 1 _ rfl, at' 2 _ rfl, at' 3 _ rfl⟩
set_option maxRecDepth 100000 in
theorem open_cis_of {r : Reach} {b0 : Nat} {v : Value} {d : DataW H} {q : List MemPlace} (hv : Value.okWide Tryd.prog w r b0 22 v) (h : DataW.Trod enc Tryd.prog w base spare held 22 v d q) :
    ∃ (A : Option Addr) (n c : Nat) (L : List CI), v = .slice A n c ∧ L.length = n ∧ n ≤ c ∧ c ≤ 9223372036854775807 ∧ CIs w w.heap.size A L := by
  obtain ⟨a, len, cap, rfl⟩ := okWide_slice Tryd.underlying22 hv
  obtain ⟨fuel, hf⟩ := h
  obtain ⟨A, n, c, L, e, hn, hc, ht, hs⟩ := open_cis hf
  have e' : (.slice a len cap : Value) = .slice A n c := by simpa [Value.cells] using e
  exact ⟨A, n, c, L, e', hn, hc, ht, hs⟩
end

end Go.Proofs.YthifmcnemeiphaaDoor

/- Vp -/
/- Layer 17: types and verification types, opened. -/
namespace Go.Proofs.YthifmcnemeiphaaDoor
open Go.ChangeShapes Go.WideShapes Go.ChangeAt Go.RowKit Go.Deep
set_option linter.unusedSimpArgs false
set_option linter.unusedVariables false

theorem cellsT3 : Tryd.prog.cellsOf 41 = 3 := by kernel_rfl
theorem cellsV6 : Tryd.prog.cellsOf 43 = 6 := by kernel_rfl
theorem cellsI : Tryd.prog.cellsOf 3 = 1 := by kernel_rfl
theorem cellsU : Tryd.prog.cellsOf 5 = 1 := by kernel_rfl
theorem cellsS : Tryd.prog.cellsOf 9 = 1 := by kernel_rfl
section
variable {H : Type} {enc : TypeId × Value → H} {w : World} {base : Nat} {spare : Nat → Bool} {held : Bool}
theorem list3 {α : Type} : ∀ (l : List α), l.length = 3 → ∃ a b c, l = [a, b, c]
  | [a, b, c], _ => ⟨a, b, c, rfl⟩
theorem list4 {α : Type} : ∀ (l : List α), l.length = 4 → ∃ a b c d, l = [a, b, c, d]
  | [a, b, c, d], _ => ⟨a, b, c, d, rfl⟩
theorem list6 {α : Type} : ∀ (l : List α), l.length = 6 → ∃ a b c d e f, l = [a, b, c, d, e, f]
  | [a, b, c, d, e, f], _ => ⟨a, b, c, d, e, f, rfl⟩
theorem i64_wf {n : Int} (h : (Lit.int .i64 n).wf = true) : -9223372036854775808 ≤ n ∧ n ≤ 9223372036854775807 := by
  simp only [Lit.wf, Bool.and_eq_true, decide_eq_true_eq] at h
  have h1 := h.1
  have h2 := h.2
  rw [show IntKind.i64.min = -9223372036854775808 from by rfl] at h1
  rw [show IntKind.i64.max = 9223372036854775807 from by rfl] at h2
  exact ⟨h1, h2⟩
set_option maxRecDepth 100000 in
theorem open_ty {fuel : Nat} {cs : List Value} {x : DataW H × List MemPlace} (h : DataW.trod enc Tryd.prog w base spare held fuel 41 cs = some x) :
    ∃ (d b : Int) (s : ByteArray), cs = [.int .i64 d, .int .u8 b, .string s] ∧ s.size ≤ 9223372036854775807 := by
  obtain ⟨xs, n, _, _, hl, hxl, hg⟩ := DataW.trod_struct Tryd.underlying41 h
  have h0 := hg 0 _ rfl
  have h1 := hg 1 _ rfl
  have h2 := hg 2 _ rfl
  rw [cellsT3] at hl
  obtain ⟨v0, v1, v2, rfl⟩ := list3 cs hl
  obtain ⟨y0, y1, y2, rfl⟩ := list3 xs hxl
  change DataW.trod enc Tryd.prog w base spare held n 3 (List.take (Tryd.prog.cellsOf 3) [v0, v1, v2]) = some y0 at h0
  change DataW.trod enc Tryd.prog w base spare held n 5 (List.take (Tryd.prog.cellsOf 5) [v1, v2]) = some y1 at h1
  change DataW.trod enc Tryd.prog w base spare held n 9 (List.take (Tryd.prog.cellsOf 9) [v2]) = some y2 at h2
  rw [cellsI] at h0
  rw [cellsU] at h1
  rw [cellsS] at h2
  obtain ⟨a0, e0, _, _⟩ := DataW.trod_int Tryd.underlying3 h0
  obtain ⟨a1, e1, _, _⟩ := DataW.trod_int Tryd.underlying5 h1
  obtain ⟨a2, e2, _, k2⟩ := DataW.trod_string Tryd.underlying9 h2
  simp at e0 e1 e2
  subst e0 e1 e2
  unfold maxLen at k2
  exact ⟨a0, a1, a2, rfl, k2⟩
set_option maxRecDepth 100000 in
theorem open_vt {fuel : Nat} {cs : List Value} {x : DataW H × List MemPlace} (h : DataW.trod enc Tryd.prog w base spare held fuel 43 cs = some x) :
    ∃ (k n d b : Int) (s : ByteArray) (p : Int), cs = [.int .i64 k, .int .i64 n, .int .i64 d, .int .u8 b, .string s, .int .i64 p] ∧ s.size ≤ 9223372036854775807 ∧ -9223372036854775808 ≤ n ∧ n ≤ 9223372036854775807 := by
  obtain ⟨xs, m, _, _, hl, hxl, hg⟩ := DataW.trod_struct Tryd.underlying43 h
  have h0 := hg 0 _ rfl
  have h1 := hg 1 _ rfl
  have h2 := hg 2 _ rfl
  have h3 := hg 3 _ rfl
  rw [cellsV6] at hl
  obtain ⟨v0, v1, v2, v3, v4, v5, rfl⟩ := list6 cs hl
  obtain ⟨y0, y1, y2, y3, rfl⟩ := list4 xs hxl
  change DataW.trod enc Tryd.prog w base spare held m 3 (List.take (Tryd.prog.cellsOf 3) [v0, v1, v2, v3, v4, v5]) = some y0 at h0
  change DataW.trod enc Tryd.prog w base spare held m 3 (List.take (Tryd.prog.cellsOf 3) [v1, v2, v3, v4, v5]) = some y1 at h1
  change DataW.trod enc Tryd.prog w base spare held m 41 (List.take (Tryd.prog.cellsOf 41) [v2, v3, v4, v5]) = some y2 at h2
  change DataW.trod enc Tryd.prog w base spare held m 3 (List.take (Tryd.prog.cellsOf 3) [v5]) = some y3 at h3
  rw [cellsI] at h0 h1 h3
  rw [cellsT3] at h2
  obtain ⟨a0, e0, _, _⟩ := DataW.trod_int Tryd.underlying3 h0
  obtain ⟨a1, e1, _, k1⟩ := DataW.trod_int Tryd.underlying3 h1
  obtain ⟨d, b, s, e2, hs⟩ := open_ty h2
  obtain ⟨a3, e3, _, _⟩ := DataW.trod_int Tryd.underlying3 h3
  simp at e0 e1 e2 e3
  obtain ⟨f2, f3, f4⟩ := e2
  subst e0 e1 f2 f3 f4 e3
  exact ⟨a0, a1, d, b, s, a3, rfl, hs, i64_wf k1⟩
set_option maxRecDepth 100000 in
theorem open_ty_of {r : Reach} {b0 : Nat} {v : Value} {d : DataW H} {q : List MemPlace} (hv : Value.okWide Tryd.prog w r b0 41 v) (h : DataW.Trod enc Tryd.prog w base spare held 41 v d q) :
    ∃ (d b : Int) (s : ByteArray), v = .agg #[.int .i64 d, .int .u8 b, .string s] ∧ s.size ≤ 9223372036854775807 := by
  obtain ⟨cs, rfl, hsz⟩ := okWide_struct Tryd.underlying41 hv
  obtain ⟨fuel, hf⟩ := h
  obtain ⟨d, b, s, e, hs⟩ := open_ty hf
  refine ⟨d, b, s, ?_, hs⟩
  have e' : cs.toList = [.int .i64 d, .int .u8 b, .string s] := by simpa [Value.cells] using e
  have : cs = #[.int .i64 d, .int .u8 b, .string s] := by rw [← Array.toArray_toList (xs := cs), e']
  rw [this]
set_option maxRecDepth 100000 in
theorem open_vt_of {r : Reach} {b0 : Nat} {v : Value} {d : DataW H} {q : List MemPlace} (hv : Value.okWide Tryd.prog w r b0 43 v) (h : DataW.Trod enc Tryd.prog w base spare held 43 v d q) :
    ∃ (k n d b : Int) (s : ByteArray) (p : Int), v = .agg #[.int .i64 k, .int .i64 n, .int .i64 d, .int .u8 b, .string s, .int .i64 p] ∧ s.size ≤ 9223372036854775807 ∧ -9223372036854775808 ≤ n ∧ n ≤ 9223372036854775807 := by
  obtain ⟨cs, rfl, hsz⟩ := okWide_struct Tryd.underlying43 hv
  obtain ⟨fuel, hf⟩ := h
  obtain ⟨k, n, d, b, s, p, e, hs⟩ := open_vt hf
  refine ⟨k, n, d, b, s, p, ?_, hs⟩
  have e' : cs.toList = [.int .i64 k, .int .i64 n, .int .i64 d, .int .u8 b, .string s, .int .i64 p] := by simpa [Value.cells] using e
  have : cs = #[.int .i64 k, .int .i64 n, .int .i64 d, .int .u8 b, .string s, .int .i64 p] := by rw [← Array.toArray_toList (xs := cs), e']
  rw [this]
end
end Go.Proofs.YthifmcnemeiphaaDoor

/- Mm -/
/- Layer 18: hierarchies, types and verification types, opened; what the bound of the second form says of them. -/
namespace Go.Proofs.YthifmcnemeiphaaDoor
open Go.ChangeShapes Go.WideShapes Go.ChangeAt Go.RowKit Go.Deep
set_option linter.unusedSimpArgs false
set_option linter.unusedVariables false

theorem bulk_pos {H : Type} (d : DataW H) : 1 ≤ Rows.uptoBulk d := by
  cases d with
  | lit l => cases l <;> simp [Rows.uptoBulk]
  | _ => simp [Rows.uptoBulk]
theorem bulk_mem {H : Type} {d : DataW H} {l : List (DataW H)} (h : d ∈ l) : Rows.uptoBulk d ≤ Rows.uptoBulkAll l := by
  induction l with
  | nil => cases h
  | cons x r ih =>
    simp only [Rows.uptoBulkAll]
    cases List.mem_cons.1 h with
    | inl e => subst e; omega
    | inr e => have := ih e; omega
theorem bulk_len {H : Type} (l : List (DataW H)) : l.length ≤ Rows.uptoBulkAll l := by
  induction l with
  | nil => exact Nat.zero_le _
  | cons x r ih =>
    simp only [Rows.uptoBulkAll, List.length_cons]
    have := bulk_pos x
    omega
theorem bulk_names {H : Type} : ∀ (L : List CI) (D : List (DataW H)), L.length = D.length → (∀ (k : Nat) (x : CI) (d : DataW H), L[k]? = some x → D[k]? = some d → x.fs.length + 1 ≤ Rows.uptoBulk d) → (names L).length ≤ Rows.uptoBulkAll D
  | [], _, _, _ => Nat.zero_le _
  | x :: L, [], hl, _ => by simp at hl
  | x :: L, d :: D, hl, h => by
    have h1 := h 0 x d rfl rfl
    have h2 := bulk_names L D (by simpa using hl) (fun k y e hy he => h (k + 1) y e (by simpa using hy) (by simpa using he))
    have h3 : (nxt x).length ≤ x.fs.length + 1 := by
      unfold nxt
      rw [List.length_append]
      split <;> simp <;> omega
    unfold names at h2 ⊢
    rw [List.flatMap_cons, List.length_append]
    simp only [Rows.uptoBulkAll]
    omega
section
variable {H : Type} {enc : TypeId × Value → H} {w : World} {base : Nat} {spare : Nat → Bool} {held : Bool}
set_option maxRecDepth 100000 in
theorem srow_bulk {fuel n c : Nat} {A : Option Addr} {x : DataW H × List MemPlace} (h : DataW.trod enc Tryd.prog w base spare held fuel 28 [.slice A n c] = some x) : n + 1 ≤ Rows.uptoBulk x.1 := by
  rcases open_slice1 Tryd.underlying28 cellsSt h with ⟨e, rfl⟩ | ⟨a, len, cap, m, _, V, D, Pl, e, hb, hl, hm, hmm, rfl, hi⟩
  · simp at e
    obtain ⟨_, rfl, _⟩ := e
    simp [Rows.uptoBulk]
  · simp at e
    obtain ⟨_, rfl, _⟩ := e
    have := bulk_len ((List.range n).map D)
    rw [List.length_map, List.length_range] at this
    simp only [Rows.uptoBulk]
    omega
set_option maxRecDepth 100000 in
theorem ci_bulk {fuel : Nat} {i : CI} {x : DataW H × List MemPlace} (h : DataW.trod enc Tryd.prog w base spare held fuel 30 (ccells i) = some x) : i.n + 1 ≤ Rows.uptoBulk x.1 := by
  obtain ⟨xs, n, _, e, hl, hxl, hg⟩ := DataW.trod_struct Tryd.underlying30 h
  have h2 := hg 2 _ rfl
  obtain ⟨y0, y1, y2, y3, rfl⟩ := list4' xs hxl
  change DataW.trod enc Tryd.prog w base spare held n 28 (List.take (Tryd.prog.cellsOf 28) [.slice i.iA i.n i.c, .bool i.isI]) = some y2 at h2
  rw [cellsSl] at h2
  have hb := srow_bulk h2
  subst e
  have h3 := bulk_mem (l := [y0.1, y1.1, y2.1, y3.1]) (d := y2.1) (by simp)
  simp only [Rows.uptoBulk, List.map]
  omega
set_option maxRecDepth 100000 in
theorem cis_bulk {fuel n c : Nat} {A : Option Addr} {L : List CI} {x : DataW H × List MemPlace} (h : DataW.trod enc Tryd.prog w base spare held fuel 22 [.slice A n c] = some x) (hn : L.length = n) (hL : CIs w w.heap.size A L) : (names L).length ≤ Rows.uptoBulk x.1 := by
  rcases open_slice Tryd.underlying22 h with ⟨e, rfl⟩ | ⟨a, len, cap, m, fu, D, Pl, e, hb, hl, hm, hmm, hx, hi⟩
  · simp at e
    obtain ⟨_, rfl, _⟩ := e
    obtain rfl := List.length_eq_zero_iff.1 hn
    exact Nat.zero_le _
  · simp at e
    obtain ⟨rfl, rfl, _⟩ := e
    have hlm : n ≤ m := by rw [hmm]; split <;> omega
    rw [hx]
    have key := bulk_names L ((List.range n).map D) (by simp [hn]) (fun k y d hy hd => by
      have hk : k < n := by
        rcases Nat.lt_or_ge k n with h | h
        · exact h
        · rw [List.getElem?_eq_none (by omega)] at hy; cases hy
      have hd' : d = D k := by
        rw [List.getElem?_map, List.getElem?_range hk] at hd
        exact (Option.some.inj hd).symm
      subst hd'
      obtain ⟨cs', hc, ht⟩ := hi k (by omega)
      rw [cellsC4] at hc
      obtain ⟨p, rfl, hp⟩ := open_ci ht
      obtain ⟨_, _, hat⟩ := World.cells?_some hc
      have h2 := hat 2 (by decide)
      rw [add_add] at h2
      rcases hL with h | ⟨g, o, hA, hg, hcc⟩
      · rw [h] at hy; simp at hy
      · obtain rfl := Option.some.inj hA
        obtain ⟨hok, _, _, c2, _⟩ := hcc k y hy
        rw [Addr.add_lit] at h2
        rw [show o + k * 4 + 2 = o + (k * 4 + 2) by omega] at c2
        rw [c2] at h2
        have h3 : Value.slice y.iA y.n y.c = Value.slice p.iA p.n p.c := by simpa [ccells] using h2
        have h4 : y.n = p.n := by injection h3
        have h5 := ci_bulk ht
        rw [hok.2.2.1, h4]
        exact h5)
    simp only [Rows.uptoBulk]
    omega
set_option maxRecDepth 100000 in
theorem open_cis_bulk {r : Reach} {b0 : Nat} {v : Value} {d : DataW H} {q : List MemPlace} (hv : Value.okWide Tryd.prog w r b0 22 v) (h : DataW.Trod enc Tryd.prog w base spare held 22 v d q) :
    ∃ (A : Option Addr) (n c : Nat) (L : List CI), v = .slice A n c ∧ L.length = n ∧ n ≤ c ∧ c ≤ 9223372036854775807 ∧ CIs w w.heap.size A L ∧ (names L).length ≤ Rows.uptoBulk d := by
  obtain ⟨A, n, c, L, rfl, hn, hc, ht, hs⟩ := open_cis_of hv h
  obtain ⟨fuel, hf⟩ := h
  exact ⟨A, n, c, L, rfl, hn, hc, ht, hs, cis_bulk hf hn hs⟩
set_option maxRecDepth 100000 in
theorem open_ty_b {fuel : Nat} {cs : List Value} {x : DataW H × List MemPlace} (h : DataW.trod enc Tryd.prog w base spare held fuel 41 cs = some x) :
    ∃ (d b : Int) (s : ByteArray), cs = [.int .i64 d, .int .u8 b, .string s] ∧ s.size ≤ Rows.uptoBulk x.1 := by
  obtain ⟨d, b, s, rfl, _⟩ := open_ty h
  obtain ⟨xs, n, _, e, hl, hxl, hg⟩ := DataW.trod_struct Tryd.underlying41 h
  have h2 := hg 2 _ rfl
  obtain ⟨y0, y1, y2, rfl⟩ := list3 xs hxl
  change DataW.trod enc Tryd.prog w base spare held n 9 (List.take (Tryd.prog.cellsOf 9) [.string s]) = some y2 at h2
  rw [cellsS] at h2
  obtain ⟨a2, e2, e3, _⟩ := DataW.trod_string Tryd.underlying9 h2
  simp at e2
  subst e2
  subst e
  refine ⟨d, b, s, rfl, ?_⟩
  have h3 := bulk_mem (l := [y0.1, y1.1, y2.1]) (d := y2.1) (by simp)
  have h4 : s.size ≤ Rows.uptoBulk y2.1 := by rw [e3]; simp [Rows.uptoBulk, ByteArray.toList_eq]
  simp only [Rows.uptoBulk, List.map]
  omega
set_option maxRecDepth 100000 in
theorem open_vt_b {fuel : Nat} {cs : List Value} {x : DataW H × List MemPlace} (h : DataW.trod enc Tryd.prog w base spare held fuel 43 cs = some x) :
    ∃ (k n d b : Int) (s : ByteArray) (p : Int), cs = [.int .i64 k, .int .i64 n, .int .i64 d, .int .u8 b, .string s, .int .i64 p] ∧ s.size ≤ Rows.uptoBulk x.1 := by
  obtain ⟨k, n, d, b, s, p, rfl, _⟩ := open_vt h
  obtain ⟨xs, m, _, e, hl, hxl, hg⟩ := DataW.trod_struct Tryd.underlying43 h
  have h2 := hg 2 _ rfl
  obtain ⟨y0, y1, y2, y3, rfl⟩ := list4 xs hxl
  change DataW.trod enc Tryd.prog w base spare held m 41 (List.take (Tryd.prog.cellsOf 41) [.int .i64 d, .int .u8 b, .string s, .int .i64 p]) = some y2 at h2
  rw [cellsT3] at h2
  obtain ⟨d', b', s', e2, hs⟩ := open_ty_b h2
  simp at e2
  obtain ⟨_, _, rfl⟩ := e2
  subst e
  refine ⟨k, n, d, b, s, p, rfl, ?_⟩
  have h3 := bulk_mem (l := [y0.1, y1.1, y2.1, y3.1]) (d := y2.1) (by simp)
  simp only [Rows.uptoBulk, List.map]
  omega
theorem cells6t : Tryd.prog.cellsOf 49 = 6 := by kernel_rfl
theorem cells12v : Tryd.prog.cellsOf 50 = 12 := by kernel_rfl
set_option maxRecDepth 100000 in
theorem open_tt_of {r : Reach} {b0 : Nat} {v : Value} {d : DataW H} {q : List MemPlace} (hv : Value.okWide Tryd.prog w r b0 49 v) (h : DataW.Trod enc Tryd.prog w base spare held 49 v d q) :
    ∃ (d1 b1 : Int) (s1 : ByteArray) (d2 b2 : Int) (s2 : ByteArray), v = .agg #[.int .i64 d1, .int .u8 b1, .string s1, .int .i64 d2, .int .u8 b2, .string s2] ∧ s1.size ≤ Rows.uptoBulk d ∧ s2.size ≤ Rows.uptoBulk d := by
  unfold Value.okWide at hv
  rw [Tryd.underlying49] at hv
  obtain ⟨cs, rfl, hsz, _⟩ := hv
  obtain ⟨fuel, hf⟩ := h
  obtain ⟨xs, m, _, ex, hl, hxl, hg⟩ := DataW.trod_array Tryd.underlying49 hf
  rw [cells6t] at hl
  have e0 : (Value.agg cs).cells = cs := rfl
  rw [e0] at hl hg
  obtain ⟨c0, c1, c2, c3, c4, c5, hc⟩ := list6 cs.toList hl
  obtain ⟨y0, y1, rfl⟩ : ∃ y0 y1, xs = [y0, y1] := by
    match xs, hxl with
    | [y0, y1], _ => exact ⟨y0, y1, rfl⟩
  have g0 := hg 0 (by decide)
  have g1 := hg 1 (by decide)
  rw [hc, cellsT3] at g0 g1
  obtain ⟨d1, b1, s1, f0, z0⟩ := open_ty_b (x := y0) g0
  obtain ⟨d2, b2, s2, f1, z1⟩ := open_ty_b (x := y1) g1
  simp at f0 f1
  obtain ⟨rfl, rfl, rfl⟩ := f0
  obtain ⟨rfl, rfl, rfl⟩ := f1
  have hd : d = .agg [y0.1, y1.1] := congrArg Prod.fst ex
  have h0 := bulk_mem (l := [y0.1, y1.1]) (d := y0.1) (by simp)
  have h1 := bulk_mem (l := [y0.1, y1.1]) (d := y1.1) (by simp)
  have hb : Rows.uptoBulk d = Rows.uptoBulkAll [y0.1, y1.1] + 1 := by rw [hd]; simp only [Rows.uptoBulk]
  refine ⟨d1, b1, s1, d2, b2, s2, ?_, by omega, by omega⟩
  rw [show cs = _ from (Array.toArray_toList (xs := cs)).symm, hc]
set_option maxRecDepth 100000 in
theorem open_vv_of {r : Reach} {b0 : Nat} {v : Value} {d : DataW H} {q : List MemPlace} (hv : Value.okWide Tryd.prog w r b0 50 v) (h : DataW.Trod enc Tryd.prog w base spare held 50 v d q) :
    ∃ (k1 n1 d1 b1 : Int) (s1 : ByteArray) (p1 k2 n2 d2 b2 : Int) (s2 : ByteArray) (p2 : Int), v = .agg #[.int .i64 k1, .int .i64 n1, .int .i64 d1, .int .u8 b1, .string s1, .int .i64 p1, .int .i64 k2, .int .i64 n2, .int .i64 d2, .int .u8 b2, .string s2, .int .i64 p2] ∧ s1.size ≤ Rows.uptoBulk d ∧ s2.size ≤ Rows.uptoBulk d := by
  unfold Value.okWide at hv
  rw [Tryd.underlying50] at hv
  obtain ⟨cs, rfl, hsz, _⟩ := hv
  obtain ⟨fuel, hf⟩ := h
  obtain ⟨xs, m, _, ex, hl, hxl, hg⟩ := DataW.trod_array Tryd.underlying50 hf
  rw [cells12v] at hl
  have e0 : (Value.agg cs).cells = cs := rfl
  rw [e0] at hl hg
  obtain ⟨c0, c1, c2, c3, c4, c5, c6, c7, c8, c9, c10, c11, hc⟩ : ∃ c0 c1 c2 c3 c4 c5 c6 c7 c8 c9 c10 c11, cs.toList = [c0, c1, c2, c3, c4, c5, c6, c7, c8, c9, c10, c11] := by
    match cs.toList, hl with
    | [c0, c1, c2, c3, c4, c5, c6, c7, c8, c9, c10, c11], _ => exact ⟨c0, c1, c2, c3, c4, c5, c6, c7, c8, c9, c10, c11, rfl⟩
  obtain ⟨y0, y1, rfl⟩ : ∃ y0 y1, xs = [y0, y1] := by
    match xs, hxl with
    | [y0, y1], _ => exact ⟨y0, y1, rfl⟩
  have g0 := hg 0 (by decide)
  have g1 := hg 1 (by decide)
  rw [hc, cellsV6] at g0 g1
  obtain ⟨k1, n1, d1, b1, s1, p1, f0, z0⟩ := open_vt_b (x := y0) g0
  obtain ⟨k2, n2, d2, b2, s2, p2, f1, z1⟩ := open_vt_b (x := y1) g1
  simp at f0 f1
  obtain ⟨rfl, rfl, rfl, rfl, rfl, rfl⟩ := f0
  obtain ⟨rfl, rfl, rfl, rfl, rfl, rfl⟩ := f1
  have hd : d = .agg [y0.1, y1.1] := congrArg Prod.fst ex
  have h0 := bulk_mem (l := [y0.1, y1.1]) (d := y0.1) (by simp)
  have h1 := bulk_mem (l := [y0.1, y1.1]) (d := y1.1) (by simp)
  have hb : Rows.uptoBulk d = Rows.uptoBulkAll [y0.1, y1.1] + 1 := by rw [hd]; simp only [Rows.uptoBulk]
  refine ⟨k1, n1, d1, b1, s1, p1, k2, n2, d2, b2, s2, p2, ?_, by omega, by omega⟩
  rw [show cs = _ from (Array.toArray_toList (xs := cs)).symm, hc]
end
end Go.Proofs.YthifmcnemeiphaaDoor

/- Mh -/
/- Layer 18: the chapter's classes; Frames of frames of different shapes. -/
namespace Go.Proofs.YthifmcnemeiphaaDoor
open Go.ChangeShapes Go.WideShapes Go.ChangeAt Go.RowKit Go.PlainAid Go.Maps
set_option linter.unusedSimpArgs false
set_option linter.unusedVariables false

abbrev sC : ByteArray := ⟨#[67]⟩
def exM : List CI := [⟨rootS, ⟨#[]⟩, none, 0, 0, [], false⟩, ⟨sC, rootS, none, 0, 0, [], false⟩, ⟨sA, sC, none, 0, 0, [], false⟩, ⟨sB, sC, none, 0, 0, [], false⟩]
theorem rc_fall {L : List CI} (h : ∀ i j, Ed L i j → j < i) {i j : Nat} (hr : Rc L i j) : j < i := by
  induction hr with
  | one he => exact h _ _ he
  | more _ he ih => exact Nat.lt_trans (h _ _ he) ih
theorem exM_ed (i j : Nat) (h : Ed exM i j) : j < i := by
  obtain ⟨hi, s, hs, hf, _⟩ := h
  have hi4 : i < 4 := hi
  rcases (show i = 0 ∨ i = 1 ∨ i = 2 ∨ i = 3 by omega) with rfl | rfl | rfl | rfl
  · have e : nxt (exM[0]'hi) = [] := by kernel_rfl
    rw [e] at hs
    cases hs
  · have e : nxt (exM[1]'hi) = [rootS] := by kernel_rfl
    rw [e] at hs
    rw [List.mem_singleton.1 hs] at hf
    rw [← hf, show fnd exM rootS = 0 by kernel_rfl]; decide
  · have e : nxt (exM[2]'hi) = [sC] := by kernel_rfl
    rw [e] at hs
    rw [List.mem_singleton.1 hs] at hf
    rw [← hf, show fnd exM sC = 1 by kernel_rfl]; decide
  · have e : nxt (exM[3]'hi) = [sC] := by kernel_rfl
    rw [e] at hs
    rw [List.mem_singleton.1 hs] at hf
    rw [← hf, show fnd exM sC = 1 by kernel_rfl]; decide
theorem exM_no (i : Nat) : ¬ Rc exM i i := fun h => Nat.lt_irrefl _ (rc_fall exM_ed h)
theorem exM_VH : VH exM := by
  intro i x hx
  have hi : i < 4 := lt_of_some hx
  rcases (show i = 0 ∨ i = 1 ∨ i = 2 ∨ i = 3 by omega) with rfl | rfl | rfl | rfl
  all_goals
    obtain rfl := Option.some.inj hx
    exact ceV_zero (by kernel_rfl) (by kernel_rfl) (by kernel_rfl) (by kernel_rfl) (by kernel_rfl) (exM_no _)
abbrev exMc : Array Value := #[.string rootS, .string ⟨#[]⟩, .slice none 0 0, .bool false, .string sC, .string rootS, .slice none 0 0, .bool false, .string sA, .string sC, .slice none 0 0, .bool false, .string sB, .string sC, .slice none 0 0, .bool false]
theorem exM_cis {W : World} {g : Nat} (h2 : W.heap[g]? = some (.cells exMc 30)) : CIs W W.heap.size (some ⟨g, 0, none⟩) exM := by
  have l2 := lt_heap h2
  have hc : ∀ j v, exMc[j]? = some v → W.cell? ⟨g, 0 + j, none⟩ = some v := by
    intro j v hj
    simp only [World.cell?, h2, Nat.zero_add]
    exact hj
  refine Or.inr ⟨g, 0, rfl, l2, fun k x hk => ?_⟩
  have hk4 : k < 4 := lt_of_some hk
  have hn : ∀ y : CI, y.fs = [] → y.n = 0 → y.c = 0 → y.nm.size ≤ 9223372036854775807 → y.su.size ≤ 9223372036854775807 → y.ok W W.heap.size := by
    intro y e1 e2 e3 e4 e5
    refine ⟨e4, e5, by rw [e1, e2]; rfl, by omega, by omega, by rw [e1]; exact Or.inl rfl, by rw [e1]; exact fun s hs => absurd hs (by simp), fun _ => e3⟩
  rcases (show k = 0 ∨ k = 1 ∨ k = 2 ∨ k = 3 by omega) with rfl | rfl | rfl | rfl
  · obtain rfl := Option.some.inj hk
    exact ⟨hn _ rfl rfl rfl (by decide) (by decide), hc 0 _ rfl, hc 1 _ rfl, hc 2 _ rfl, hc 3 _ rfl⟩
  · obtain rfl := Option.some.inj hk
    exact ⟨hn _ rfl rfl rfl (by decide) (by decide), hc 4 _ rfl, hc 5 _ rfl, hc 6 _ rfl, hc 7 _ rfl⟩
  · obtain rfl := Option.some.inj hk
    exact ⟨hn _ rfl rfl rfl (by decide) (by decide), hc 8 _ rfl, hc 9 _ rfl, hc 10 _ rfl, hc 11 _ rfl⟩
  · obtain rfl := Option.some.inj hk
    exact ⟨hn _ rfl rfl rfl (by decide) (by decide), hc 12 _ rfl, hc 13 _ rfl, hc 14 _ rfl, hc 15 _ rfl⟩
theorem classes_any (w : World) : Calls Tryd.prog 74 #[] w fun e w' => ∃ g, e = .returned (.slice (some ⟨g, 0, none⟩) 4 4) ∧ CIs w' w'.heap.size (some ⟨g, 0, none⟩) exM ∧ Below w.heap.size w w' := by
  go_enter Tryd.func74, Tryd.ntmps74
  go_wp2
  go_ret
  exact ⟨w.heap.size, rfl, exM_cis (World.alloc_heap_new w _), below_al (Below.refl _ _) _⟩
theorem class_any (d : Int) (s : ByteArray) (w : World) : Calls Tryd.prog 75 #[.int .i64 d, .string s] w fun e w' => e = .returned (.agg #[.int .i64 d, .int .u8 76, .string s]) ∧ Below w.heap.size w w' := by
  go_enter Tryd.func75, Tryd.ntmps75
  go_upto_region 1 with fail
  have H2 := World.alloc_heap_new w (.cells #[.int .i64 0, .int .u8 0, .string ⟨#[]⟩] 41)
  have hB := below_al (Below.refl w.heap.size w) (.cells #[.int .i64 0, .int .u8 0, .string ⟨#[]⟩] 41)
  generalize w.alloc (.cells #[.int .i64 0, .int .u8 0, .string ⟨#[]⟩] 41) = W at H2 hB ⊢
  obtain ⟨x0, x1, x2, f0, f1, f2⟩ := three_cells H2
  go_wp2
  refine bodyPost_ret (ty_ret rfl rfl (set_three H2)) rfl ⟨rfl, ?_⟩
  exact below_st (below_st (below_st hB (by simp) _) (by simp) _) (by simp) _
theorem exM_j1 : tyJ exM ⟨0, 76, sA⟩ ⟨0, 76, sB⟩ = ⟨0, 76, sC⟩ := by kernel_rfl
theorem exM_j2 : tyJ exM ⟨1, 76, sA⟩ ⟨1, 76, sB⟩ = ⟨1, 76, sC⟩ := by kernel_rfl
theorem exM_j3 : tyJ exM ⟨1, 76, sA⟩ ⟨0, 76, sB⟩ = ⟨0, 76, rootS⟩ := by kernel_rfl
theorem exM_j4 : tyJ exM ⟨2, 73, ⟨#[]⟩⟩ ⟨1, 76, sA⟩ = ⟨1, 76, rootS⟩ := by kernel_rfl
theorem exM_v1 : vtJ exM ⟨3, 0, 0, 0, ⟨#[]⟩, 0⟩ ⟨4, 0, 0, 76, sA, 0⟩ = ⟨4, 0, 0, 76, sA, 0⟩ := by kernel_rfl
theorem exM_v2 : vtJ exM ⟨1, 0, 0, 0, ⟨#[]⟩, 0⟩ ⟨3, 0, 0, 0, ⟨#[]⟩, 0⟩ = vtZ := by kernel_rfl
end Go.Proofs.YthifmcnemeiphaaDoor

/- Mj -/
/- Layer 18: the chapter's examples hold (written by gen/mj.py). -/
namespace Go.Proofs.YthifmcnemeiphaaDoor
open Go.ChangeShapes Go.WideShapes Go.ChangeAt Go.RowKit Go.PlainAid Go.Maps
set_option linter.unusedSimpArgs false
set_option linter.unusedVariables false

set_option maxRecDepth 100000 in
set_option maxHeartbeats 8000000 in
theorem works18_any (w : World) : Calls Tryd.prog 41 #[] w fun e w' => e = .returned (.bool true) ∧ Below w.heap.size w w' := by
  go_enter Tryd.func41, Tryd.ntmps41
  go_upto_region 2 with (go_at_call 74; (with_reducible refine (classes_any _).mono ?_); rintro e W ⟨g, rfl, hL, hB⟩; have HL := Lib.hid hL; have HB := Lib.hid hB; clear hL hB)
  go_upto_region 4 with fail
  have R0 := laid_old (o' := .cells #[.int .i64 3, .int .i64 0, .int .i64 0, .int .u8 0, .string ⟨#[]⟩, .int .i64 0] 43) (World.alloc_heap_new W (.cells #[.int .i64 2, .int .u8 73, .string ⟨#[]⟩] 41))
  have R1 := World.alloc_heap_new (W.alloc (.cells #[.int .i64 2, .int .u8 73, .string ⟨#[]⟩] 41)) (.cells #[.int .i64 3, .int .i64 0, .int .i64 0, .int .u8 0, .string ⟨#[]⟩, .int .i64 0] 43)
  have hB2 := below_al (below_al (Below.refl W.heap.size W) (.cells #[.int .i64 2, .int .u8 73, .string ⟨#[]⟩] 41)) (.cells #[.int .i64 3, .int .i64 0, .int .i64 0, .int .u8 0, .string ⟨#[]⟩, .int .i64 0] 43)
  have HL2 := Lib.hid (HL.out.up hB2)
  have HB2 := Lib.hid (below_on HB.out hB2)
  clear hB2
  rw [World.size_alloc] at R1
  generalize (W.alloc (.cells #[.int .i64 2, .int .u8 73, .string ⟨#[]⟩] 41)).alloc (.cells #[.int .i64 3, .int .i64 0, .int .i64 0, .int .u8 0, .string ⟨#[]⟩, .int .i64 0] 43) = W2 at R0 R1 HL2 HB2 ⊢
  generalize W.heap.size = B0 at R0 R1 ⊢
  go_upto_region 5 with (go_at_call 75; (with_reducible refine (class_any _ _ _).mono ?_); rintro e w3 ⟨rfl, hb1⟩; replace R0 := (hb1.block _ (lt_heap R0)).trans R0; replace R1 := (hb1.block _ (lt_heap R1)).trans R1; replace HL2 := Lib.hid (HL2.out.up hb1); replace HB2 := Lib.hid (below_on HB2.out hb1); clear hb1)
  replace R0 := laid_old (o' := .cells #[.int .i64 4, .int .i64 0, .int .i64 0, .int .u8 76, .string sA, .int .i64 0] 43) R0
  replace R1 := laid_old (o' := .cells #[.int .i64 4, .int .i64 0, .int .i64 0, .int .u8 76, .string sA, .int .i64 0] 43) R1
  have R2 := World.alloc_heap_new w3 (.cells #[.int .i64 4, .int .i64 0, .int .i64 0, .int .u8 76, .string sA, .int .i64 0] 43)
  replace HL2 := Lib.hid (HL2.out.up (below_al (Below.refl _ _) (.cells #[.int .i64 4, .int .i64 0, .int .i64 0, .int .u8 76, .string sA, .int .i64 0] 43)))
  replace HB2 := Lib.hid (below_al HB2.out (.cells #[.int .i64 4, .int .i64 0, .int .i64 0, .int .u8 76, .string sA, .int .i64 0] 43))
  generalize w3.alloc (.cells #[.int .i64 4, .int .i64 0, .int .i64 0, .int .u8 76, .string sA, .int .i64 0] 43) = W4 at R0 R1 R2 HL2 HB2 ⊢
  generalize w3.heap.size = B2 at R2 ⊢
  obtain ⟨n0, n1, n2, n3, n4, n5, fn⟩ := six_cells R1
  go_upto_region 6 with (go_at_call 47; (with_reducible refine (mfr_bad _ _ _ _ _ 0 1 0 0 _ _ _ _ _ _ _ (Or.inr ⟨by decide, by decide⟩)).mono ?_); rintro e w5 ⟨rfl, hb5⟩)
  have hb6 := below_al (below_on (below_al (Below.refl W4.heap.size W4) (.cells #[.int .i64 3, .int .i64 0, .int .i64 0, .int .u8 0, .string ⟨#[]⟩, .int .i64 0] 43)) hb5) (.cells #[.slice none 0 0, .slice none 0 0, .bool false] 56)
  replace R0 := (hb6.block _ (lt_heap R0)).trans R0
  replace R1 := (hb6.block _ (lt_heap R1)).trans R1
  replace R2 := (hb6.block _ (lt_heap R2)).trans R2
  replace HL2 := Lib.hid (HL2.out.up hb6)
  replace HB2 := Lib.hid (below_on HB2.out hb6)
  clear n0 n1 n2 n3 n4 n5 fn hb6 hb5
  generalize w5.heap.size = B5
  generalize w5.alloc (.cells #[.slice none 0 0, .slice none 0 0, .bool false] 56) = W6 at R0 R1 R2 HL2 HB2 ⊢
  have HV := Lib.hid exM_VH
  have K0 := Lib.hid (fun (W' : World) (hW : Below W6.heap.size W6 W') => show Calls Tryd.prog 42 #[.slice (some ⟨g, 0, none⟩) 4 4, .agg #[.int .i64 0, .int .u8 76, .string sA], .agg #[.int .i64 0, .int .u8 76, .string sB]] W' (fun e w' => e = .returned (.agg #[.int .i64 0, .int .u8 76, .string sC]) ∧ Below W'.heap.size W' w') from by
    have q := mty_any (some ⟨g, 0, none⟩) 4 4 exM ⟨0, 76, sA⟩ ⟨0, 76, sB⟩ W' rfl (by omega) HV.out (HL2.out.up hW) (by decide) (by decide)
    rw [exM_j1] at q
    exact q)
  have K1 := Lib.hid (fun (W' : World) (hW : Below W6.heap.size W6 W') => show Calls Tryd.prog 42 #[.slice (some ⟨g, 0, none⟩) 4 4, .agg #[.int .i64 1, .int .u8 76, .string sA], .agg #[.int .i64 1, .int .u8 76, .string sB]] W' (fun e w' => e = .returned (.agg #[.int .i64 1, .int .u8 76, .string sC]) ∧ Below W'.heap.size W' w') from by
    have q := mty_any (some ⟨g, 0, none⟩) 4 4 exM ⟨1, 76, sA⟩ ⟨1, 76, sB⟩ W' rfl (by omega) HV.out (HL2.out.up hW) (by decide) (by decide)
    rw [exM_j2] at q
    exact q)
  have K2 := Lib.hid (fun (W' : World) (hW : Below W6.heap.size W6 W') => show Calls Tryd.prog 42 #[.slice (some ⟨g, 0, none⟩) 4 4, .agg #[.int .i64 1, .int .u8 76, .string sA], .agg #[.int .i64 0, .int .u8 76, .string sB]] W' (fun e w' => e = .returned (.agg #[.int .i64 0, .int .u8 76, .string rootS]) ∧ Below W'.heap.size W' w') from by
    have q := mty_any (some ⟨g, 0, none⟩) 4 4 exM ⟨1, 76, sA⟩ ⟨0, 76, sB⟩ W' rfl (by omega) HV.out (HL2.out.up hW) (by decide) (by decide)
    rw [exM_j3] at q
    exact q)
  have K3 := Lib.hid (fun (W' : World) (hW : Below W6.heap.size W6 W') => show Calls Tryd.prog 42 #[.slice (some ⟨g, 0, none⟩) 4 4, .agg #[.int .i64 2, .int .u8 73, .string ⟨#[]⟩], .agg #[.int .i64 1, .int .u8 76, .string sA]] W' (fun e w' => e = .returned (.agg #[.int .i64 1, .int .u8 76, .string rootS]) ∧ Below W'.heap.size W' w') from by
    have q := mty_any (some ⟨g, 0, none⟩) 4 4 exM ⟨2, 73, ⟨#[]⟩⟩ ⟨1, 76, sA⟩ W' rfl (by omega) HV.out (HL2.out.up hW) (by decide) (by decide)
    rw [exM_j4] at q
    exact q)
  have J0 := Lib.hid (fun (W' : World) (hW : Below W6.heap.size W6 W') => show Calls Tryd.prog 44 #[.slice (some ⟨g, 0, none⟩) 4 4, .agg #[.int .i64 3, .int .i64 0, .int .i64 0, .int .u8 0, .string ⟨#[]⟩, .int .i64 0], .agg #[.int .i64 4, .int .i64 0, .int .i64 0, .int .u8 76, .string sA, .int .i64 0]] W' (fun e w' => e = .returned (.agg #[.int .i64 4, .int .i64 0, .int .i64 0, .int .u8 76, .string sA, .int .i64 0]) ∧ Below W'.heap.size W' w') from by
    have q := mvt_any (some ⟨g, 0, none⟩) 4 4 exM ⟨3, 0, 0, 0, ⟨#[]⟩, 0⟩ ⟨4, 0, 0, 76, sA, 0⟩ W' rfl (by omega) HV.out (HL2.out.up hW) (by decide) (by decide)
    rw [exM_v1] at q
    exact q)
  have J1 := Lib.hid (fun (W' : World) (hW : Below W6.heap.size W6 W') => show Calls Tryd.prog 44 #[.slice (some ⟨g, 0, none⟩) 4 4, .agg #[.int .i64 1, .int .i64 0, .int .i64 0, .int .u8 0, .string ⟨#[]⟩, .int .i64 0], .agg #[.int .i64 3, .int .i64 0, .int .i64 0, .int .u8 0, .string ⟨#[]⟩, .int .i64 0]] W' (fun e w' => e = .returned (.agg #[.int .i64 0, .int .i64 0, .int .i64 0, .int .u8 0, .string ⟨#[]⟩, .int .i64 0]) ∧ Below W'.heap.size W' w') from by
    have q := mvt_any (some ⟨g, 0, none⟩) 4 4 exM ⟨1, 0, 0, 0, ⟨#[]⟩, 0⟩ ⟨3, 0, 0, 0, ⟨#[]⟩, 0⟩ W' rfl (by omega) HV.out (HL2.out.up hW) (by decide) (by decide)
    rw [exM_v2] at q
    exact q)
  obtain ⟨k0_0, k0_1, k0_2, _, _, _⟩ := three_cells R0
  obtain ⟨k1_0, k1_1, k1_2, k1_3, k1_4, k1_5, _⟩ := six_cells R1
  obtain ⟨k2_0, k2_1, k2_2, k2_3, k2_4, k2_5, _⟩ := six_cells R2
  have hl0 := lt_heap R0
  have hl1 := lt_heap R1
  have hl2 := lt_heap R2
  have KS := Lib.hid (fun (w' : World) (hb : Below W6.heap.size W6 w') => show (fun (w' : World) => w'.cell? ⟨B0, 0, none⟩ = some (.int .i64 2) ∧ w'.cell? ⟨B0, 1, none⟩ = some (.int .u8 73) ∧ w'.cell? ⟨B0, 2, none⟩ = some (.string ⟨#[]⟩) ∧ w'.cell? ⟨B0 + 1, 0, none⟩ = some (.int .i64 3) ∧ w'.cell? ⟨B0 + 1, 1, none⟩ = some (.int .i64 0) ∧ w'.cell? ⟨B0 + 1, 2, none⟩ = some (.int .i64 0) ∧ w'.cell? ⟨B0 + 1, 3, none⟩ = some (.int .u8 0) ∧ w'.cell? ⟨B0 + 1, 4, none⟩ = some (.string ⟨#[]⟩) ∧ w'.cell? ⟨B0 + 1, 5, none⟩ = some (.int .i64 0) ∧ w'.cell? ⟨B2, 0, none⟩ = some (.int .i64 4) ∧ w'.cell? ⟨B2, 1, none⟩ = some (.int .i64 0) ∧ w'.cell? ⟨B2, 2, none⟩ = some (.int .i64 0) ∧ w'.cell? ⟨B2, 3, none⟩ = some (.int .u8 76) ∧ w'.cell? ⟨B2, 4, none⟩ = some (.string sA) ∧ w'.cell? ⟨B2, 5, none⟩ = some (.int .i64 0) ∧ Below W6.heap.size W6 w') w' from ⟨(hb.cell (p := ⟨B0, 0, none⟩) hl0).trans k0_0, (hb.cell (p := ⟨B0, 1, none⟩) hl0).trans k0_1, (hb.cell (p := ⟨B0, 2, none⟩) hl0).trans k0_2, (hb.cell (p := ⟨B0 + 1, 0, none⟩) hl1).trans k1_0, (hb.cell (p := ⟨B0 + 1, 1, none⟩) hl1).trans k1_1, (hb.cell (p := ⟨B0 + 1, 2, none⟩) hl1).trans k1_2, (hb.cell (p := ⟨B0 + 1, 3, none⟩) hl1).trans k1_3, (hb.cell (p := ⟨B0 + 1, 4, none⟩) hl1).trans k1_4, (hb.cell (p := ⟨B0 + 1, 5, none⟩) hl1).trans k1_5, (hb.cell (p := ⟨B2, 0, none⟩) hl2).trans k2_0, (hb.cell (p := ⟨B2, 1, none⟩) hl2).trans k2_1, (hb.cell (p := ⟨B2, 2, none⟩) hl2).trans k2_2, (hb.cell (p := ⟨B2, 3, none⟩) hl2).trans k2_3, (hb.cell (p := ⟨B2, 4, none⟩) hl2).trans k2_4, (hb.cell (p := ⟨B2, 5, none⟩) hl2).trans k2_5, hb⟩)
  clear R0 R1 R2
  have hW0 := Below.refl W6.heap.size W6
  go_region_held3 (fun (w' : World) => w'.cell? ⟨B0, 0, none⟩ = some (.int .i64 2) ∧ w'.cell? ⟨B0, 1, none⟩ = some (.int .u8 73) ∧ w'.cell? ⟨B0, 2, none⟩ = some (.string ⟨#[]⟩) ∧ w'.cell? ⟨B0 + 1, 0, none⟩ = some (.int .i64 3) ∧ w'.cell? ⟨B0 + 1, 1, none⟩ = some (.int .i64 0) ∧ w'.cell? ⟨B0 + 1, 2, none⟩ = some (.int .i64 0) ∧ w'.cell? ⟨B0 + 1, 3, none⟩ = some (.int .u8 0) ∧ w'.cell? ⟨B0 + 1, 4, none⟩ = some (.string ⟨#[]⟩) ∧ w'.cell? ⟨B0 + 1, 5, none⟩ = some (.int .i64 0) ∧ w'.cell? ⟨B2, 0, none⟩ = some (.int .i64 4) ∧ w'.cell? ⟨B2, 1, none⟩ = some (.int .i64 0) ∧ w'.cell? ⟨B2, 2, none⟩ = some (.int .i64 0) ∧ w'.cell? ⟨B2, 3, none⟩ = some (.int .u8 76) ∧ w'.cell? ⟨B2, 4, none⟩ = some (.string sA) ∧ w'.cell? ⟨B2, 5, none⟩ = some (.int .i64 0) ∧ Below W6.heap.size W6 w') (((try go_split_ands); (first | (exact KS.out _ (below_on (w := W6) (by assumption) hq)) | (exact KS.out _ (Below.drew (by assumption))) | ((repeat' apply And.intro) <;> (first | assumption | go_keep)))))
    (first | (go_at_call 75; (with_reducible refine (class_any _ _ _).mono ?_); rintro e wq ⟨rfl, hq⟩) | (go_at_call 42; (with_reducible refine (K0.out _ ?_).mono ?_); (first | assumption | (go_split_ands; assumption)); rintro e wq ⟨rfl, hq⟩) | (go_at_call 42; (with_reducible refine (K1.out _ ?_).mono ?_); (first | assumption | (go_split_ands; assumption)); rintro e wq ⟨rfl, hq⟩) | (go_at_call 42; (with_reducible refine (K2.out _ ?_).mono ?_); (first | assumption | (go_split_ands; assumption)); rintro e wq ⟨rfl, hq⟩) | (go_at_call 42; (with_reducible refine (K3.out _ ?_).mono ?_); (first | assumption | (go_split_ands; assumption)); rintro e wq ⟨rfl, hq⟩) | (go_at_call 44; (with_reducible refine (J0.out _ ?_).mono ?_); (first | assumption | (go_split_ands; assumption)); rintro e wq ⟨rfl, hq⟩) | (go_at_call 44; (with_reducible refine (J1.out _ ?_).mono ?_); (first | assumption | (go_split_ands; assumption)); rintro e wq ⟨rfl, hq⟩))
  go_wp2
  go_ret
  refine ⟨rfl, ?_⟩
  go_split_ands
  exact below_on HB2.out (by assumption)
end Go.Proofs.YthifmcnemeiphaaDoor

/- Mk -/
/- Layer 18: accepted. -/
namespace Go.Proofs.YthifmcnemeiphaaDoor
open Go.ChangeShapes Go.WideShapes Go.ChangeAt Go.RowKit Go.PlainAid Go.Maps
set_option linter.unusedSimpArgs false
set_option linter.unusedVariables false

noncomputable def accB (L : List CI) : Bool := @decide (L.length ≤ 20 ∧ VH L) (Classical.propDecidable _)
theorem accB_iff {L : List CI} : accB L = true ↔ L.length ≤ 20 ∧ VH L := by
  unfold accB
  exact @decide_eq_true_iff _ (Classical.propDecidable _)
set_option maxRecDepth 100000 in
theorem acc_any (A : Option Addr) (n c : Nat) (L : List CI) (w : World) (hn : L.length = n) (hcap : n ≤ c) (hcm : c ≤ 9223372036854775807) (hM : (names L).length ≤ 2000000) (h : CIs w w.heap.size A L) :
    Calls Tryd.prog 40 #[.slice A n c] w fun e w' => e = .returned (.bool (accB L)) ∧ Below w.heap.size w w' := by
  have HL := Lib.hid h
  have HN := Lib.hid hn
  clear h hn
  by_cases h20 : n ≤ 20
  · have HM := Lib.hid (show Mid L from ⟨by rw [HN.out]; omega, hM⟩)
    have HR := Lib.hid (show ∀ s v, ChkV L s v → accB L = (v == 0) by
      intro s v hv
      rw [Bool.eq_iff_iff, accB_iff, beq_iff_eq, hv.vh]
      exact ⟨fun h => h.2, fun h => ⟨by rw [HN.out]; exact h20, h⟩⟩)
    obtain ⟨r, hr⟩ : ∃ r, accB L = r := ⟨_, rfl⟩
    rw [hr] at HR ⊢
    clear hr hM
    go_enter Tryd.func40, Tryd.ntmps40
    go_wp2_with (go_at_call 18; (with_reducible refine (rcheck_any A n c L _ HN.out HM.out hcap hcm HL.out).mono ?_); rintro e w2 ⟨⟨s2, v2, rfl, hch⟩, hb2⟩; have HE := Lib.hid (HR.out s2 v2 hch); have HB2 := Lib.hid hb2; clear hb2 hch)
    go_ret
    exact ⟨ret_bool HE.out.symm, HB2.out⟩
  · have hf : accB L = false := by
      cases hh : accB L with
      | false => rfl
      | true => have := (accB_iff.1 hh).1; rw [HN.out] at this; exact absurd this h20
    rw [hf]
    go_enter Tryd.func40, Tryd.ntmps40
    go_wp2
    go_ret
    exact ⟨rfl, Below.refl _ _⟩
end Go.Proofs.YthifmcnemeiphaaDoor

/- Mu -/
/- Layer 18: rows of verification types compared. -/
namespace Go.Proofs.YthifmcnemeiphaaDoor
open Go.ChangeShapes Go.WideShapes Go.ChangeAt Go.RowKit Go.PlainAid Go.Maps
set_option linter.unusedSimpArgs false
set_option linter.unusedVariables false

def AllR (R : VT → VT → Bool) (P Q : List VT) : Prop := P.length = Q.length ∧ ∀ (j : Nat) (a b : VT), P[j]? = some a → Q[j]? = some b → R a b = true
noncomputable def allB (R : VT → VT → Bool) (P Q : List VT) : Bool := @decide (AllR R P Q) (Classical.propDecidable _)
theorem allB_iff {R : VT → VT → Bool} {P Q : List VT} : allB R P Q = true ↔ AllR R P Q := @decide_eq_true_iff _ (Classical.propDecidable _)
theorem allB_yes {R : VT → VT → Bool} {P Q : List VT} (h : AllR R P Q) : allB R P Q = true := allB_iff.2 h
theorem allB_no {R : VT → VT → Bool} {P Q : List VT} (h : ¬ AllR R P Q) : allB R P Q = false := by
  cases hh : allB R P Q with
  | false => rfl
  | true => exact absurd (allB_iff.1 hh) h
theorem allB_at {R : VT → VT → Bool} {P Q : List VT} {j : Nat} {a b : VT} (h1 : P[j]? = some a) (h2 : Q[j]? = some b) (h : R a b = false) : allB R P Q = false :=
  allB_no fun hh => by have := hh.2 j a b h1 h2; rw [h] at this; cases this
theorem below_drV {w W : World} (h : Below w.heap.size w W) (q : Nat) : Below w.heap.size w (W.drewN q) := ⟨h.os, h.tape, h.output, h.size, h.block⟩
theorem vt_neF {k n d b p k' n' d' b' p' : Int} {s s' : ByteArray} {v : Bool} (h : vtE ⟨k, n, d, b, s, p⟩ ⟨k', n', d', b', s', p'⟩ = v) (w : World) : (binOp .neq 43 (.agg #[.int .i64 k, .int .i64 n, .int .i64 d, .int .u8 b, .string s, .int .i64 p]) (.agg #[.int .i64 k', .int .i64 n', .int .i64 d', .int .u8 b', .string s', .int .i64 p'])).run Tryd.prog w = .ok (.bool (!v)) w :=
  vt_neP (a := ⟨k, n, d, b, s, p⟩) (b := ⟨k', n', d', b', s', p'⟩) h w
set_option maxRecDepth 100000 in
set_option maxHeartbeats 4000000 in
theorem alike_any (A1 A2 : Option Addr) (m1 c1 m2 c2 : Nat) (P Q : List VT) (w : World) (hm : m1 ≤ 9223372036854775807) (hP : VS w w.heap.size A1 P) (hQ : VS w w.heap.size A2 Q) (lP : P.length = m1) (lQ : Q.length = m2) (k1 : m1 ≤ c1) (k2 : m2 ≤ c2) :
    Calls Tryd.prog 82 #[.slice A1 m1 c1, .slice A2 m2 c2] w fun e w' => e = .returned (.bool (allB vtE P Q)) ∧ Below w.heap.size w w' := by
  have HP := Lib.hid hP
  have HQ := Lib.hid hQ
  have HLP := Lib.hid lP
  have HLQ := Lib.hid lQ
  clear hP hQ lP lQ
  by_cases hl : m1 = m2
  · subst hl
    go_enter Tryd.func82, Tryd.ntmps82
    go_wp2
    go_loopw [5] (fun iv wr => ∃ i : Nat, iv = .int .i64 i ∧ i ≤ m1 ∧ Hid (Below w.heap.size w wr) ∧ Hid (∀ j a b, j < i → P[j]? = some a → Q[j]? = some b → vtE a b = true)) (fun iv _ => m1 - (intOf iv).toNat)
    case atStart => exact ⟨0, rfl, Nat.zero_le _, Lib.hid (Below.refl _ _), Lib.hid fun j a b h => absurd h (Nat.not_lt_zero _)⟩
    case round =>
      obtain ⟨i, rfl, him, HB, HG⟩ := hrel
      by_cases hlt : i < m1
      · obtain ⟨a, ha⟩ : ∃ a, P[i]? = some a := ⟨_, List.getElem?_eq_getElem (by rw [HLP.out]; exact hlt)⟩
        obtain ⟨b, hb⟩ : ∃ b, Q[i]? = some b := ⟨_, List.getElem?_eq_getElem (by rw [HLQ.out]; exact hlt)⟩
        obtain ⟨g1, o1, rfl, hg1, p0, p1, p2, p3, p4, p5⟩ := HP.out.six ha
        obtain ⟨g2, o2, rfl, hg2, q0, q1, q2, q3, q4, q5⟩ := HQ.out.six hb
        have P0 := (HB.out.cell (p := ⟨g1, o1 + i * 6, none⟩) hg1).trans p0
        have P1 := (HB.out.cell (p := ⟨g1, o1 + i * 6 + 1, none⟩) hg1).trans p1
        have P2 := (HB.out.cell (p := ⟨g1, o1 + i * 6 + 2, none⟩) hg1).trans p2
        have P3 := (HB.out.cell (p := ⟨g1, o1 + i * 6 + 3, none⟩) hg1).trans p3
        have P4 := (HB.out.cell (p := ⟨g1, o1 + i * 6 + 4, none⟩) hg1).trans p4
        have P5 := (HB.out.cell (p := ⟨g1, o1 + i * 6 + 5, none⟩) hg1).trans p5
        have Q0 := (HB.out.cell (p := ⟨g2, o2 + i * 6, none⟩) hg2).trans q0
        have Q1 := (HB.out.cell (p := ⟨g2, o2 + i * 6 + 1, none⟩) hg2).trans q1
        have Q2 := (HB.out.cell (p := ⟨g2, o2 + i * 6 + 2, none⟩) hg2).trans q2
        have Q3 := (HB.out.cell (p := ⟨g2, o2 + i * 6 + 3, none⟩) hg2).trans q3
        have Q4 := (HB.out.cell (p := ⟨g2, o2 + i * 6 + 4, none⟩) hg2).trans q4
        have Q5 := (HB.out.cell (p := ⟨g2, o2 + i * 6 + 5, none⟩) hg2).trans q5
        clear p0 p1 p2 p3 p4 p5 q0 q1 q2 q3 q4 q5
        have hc1 : i < c1 := by omega
        have hc2 : i < c2 := by omega
        cases hE : vtE a b with
        | true =>
          have HGN := Lib.hid (show ∀ j a b, j < i + 1 → P[j]? = some a → Q[j]? = some b → vtE a b = true from fun j x y hj hx hy => by
            rcases Nat.lt_or_ge j i with h | h
            · exact HG.out j x y h hx hy
            · obtain rfl : j = i := by omega
              rw [ha] at hx; rw [hb] at hy
              rw [← Option.some.inj hx, ← Option.some.inj hy]; exact hE)
          have e1 := fun w => vt_neP hE w
          clear ha hb
          go_upto_region 6 with fail
          go_quiet (fail)
          have HB2 := Lib.hid (below_drV HB.out nq)
          go_wp2
          go_roundw
          case rel => exact ⟨i + 1, by go_num, by omega, HB2, HGN⟩
          case measure => simp [intOf]; omega
        | false =>
          have HR := Lib.hid (allB_at ha hb hE)
          have e1 := fun w => vt_neP hE w
          clear ha hb
          go_upto_region 6 with fail
          go_quiet (fail)
          have HB2 := Lib.hid (below_drV HB.out nq)
          go_wp2
          go_ret
          exact ⟨ret_bool HR.out.symm, HB2.out⟩
      · obtain rfl : i = m1 := by omega
        have HR := Lib.hid (allB_yes (R := vtE) (P := P) (Q := Q) ⟨by rw [HLP.out, HLQ.out], fun j a b ha hb => HG.out j a b (by have := lt_of_some ha; rw [HLP.out] at this; exact this) ha hb⟩)
        go_wp2
        go_ret
        exact ⟨ret_bool HR.out.symm, HB.out⟩
  · have hne : ((m1 : Int) != (m2 : Int)) = true := by rw [bne_iff_ne]; omega
    have HR := Lib.hid (allB_no (R := vtE) (P := P) (Q := Q) fun h => hl (by rw [← HLP.out, ← HLQ.out]; exact h.1))
    go_enter Tryd.func82, Tryd.ntmps82
    go_wp2
    go_ret
    exact ⟨ret_bool HR.out.symm, Below.refl _ _⟩
end Go.Proofs.YthifmcnemeiphaaDoor

/- Mv -/
/- Layer 18: slices.Equal, fit, slices.EqualFunc with Assignable's closure (written by gen/mv.py). -/
namespace Go.Proofs.YthifmcnemeiphaaDoor
open Go.ChangeShapes Go.WideShapes Go.ChangeAt Go.RowKit Go.PlainAid Go.Maps
set_option linter.unusedSimpArgs false
set_option linter.unusedVariables false

set_option maxRecDepth 100000 in
set_option maxHeartbeats 4000000 in
theorem eql_any (A1 A2 : Option Addr) (m1 c1 m2 c2 : Nat) (P Q : List VT) (w : World) (hm : m1 ≤ 9223372036854775807) (hP : VS w w.heap.size A1 P) (hQ : VS w w.heap.size A2 Q) (lP : P.length = m1) (lQ : Q.length = m2) (k1 : m1 ≤ c1) (k2 : m2 ≤ c2) :
    Calls Tryd.prog 86 #[.slice A1 m1 c1, .slice A2 m2 c2] w fun e w' => e = .returned (.bool (allB vtE P Q)) ∧ Below w.heap.size w w' := by
  have HP := Lib.hid hP
  have HQ := Lib.hid hQ
  have HLP := Lib.hid lP
  have HLQ := Lib.hid lQ
  clear hP hQ lP lQ
  by_cases hl : m1 = m2
  · subst hl
    go_enter Tryd.func86, Tryd.ntmps86
    go_wp2
    go_loopw [13] (fun iv wr => ∃ i : Nat, iv = .int .i64 i ∧ i ≤ m1 ∧ Hid (Below w.heap.size w wr) ∧ Hid (∀ j a b, j < i → P[j]? = some a → Q[j]? = some b → vtE a b = true)) (fun iv _ => m1 - (intOf iv).toNat)
    case atStart => exact ⟨0, rfl, Nat.zero_le _, Lib.hid (Below.refl _ _), Lib.hid fun j a b h => absurd h (Nat.not_lt_zero _)⟩
    case round =>
      obtain ⟨i, rfl, him, HB, HG⟩ := hrel
      by_cases hlt : i < m1
      · obtain ⟨a, ha⟩ : ∃ a, P[i]? = some a := ⟨_, List.getElem?_eq_getElem (by rw [HLP.out]; exact hlt)⟩
        obtain ⟨b, hb⟩ : ∃ b, Q[i]? = some b := ⟨_, List.getElem?_eq_getElem (by rw [HLQ.out]; exact hlt)⟩
        obtain ⟨g1, o1, rfl, hg1, p0, p1, p2, p3, p4, p5⟩ := HP.out.six ha
        obtain ⟨g2, o2, rfl, hg2, q0, q1, q2, q3, q4, q5⟩ := HQ.out.six hb
        have P0 := (HB.out.cell (p := ⟨g1, o1 + i * 6, none⟩) hg1).trans p0
        have P1 := (HB.out.cell (p := ⟨g1, o1 + i * 6 + 1, none⟩) hg1).trans p1
        have P2 := (HB.out.cell (p := ⟨g1, o1 + i * 6 + 2, none⟩) hg1).trans p2
        have P3 := (HB.out.cell (p := ⟨g1, o1 + i * 6 + 3, none⟩) hg1).trans p3
        have P4 := (HB.out.cell (p := ⟨g1, o1 + i * 6 + 4, none⟩) hg1).trans p4
        have P5 := (HB.out.cell (p := ⟨g1, o1 + i * 6 + 5, none⟩) hg1).trans p5
        have Q0 := (HB.out.cell (p := ⟨g2, o2 + i * 6, none⟩) hg2).trans q0
        have Q1 := (HB.out.cell (p := ⟨g2, o2 + i * 6 + 1, none⟩) hg2).trans q1
        have Q2 := (HB.out.cell (p := ⟨g2, o2 + i * 6 + 2, none⟩) hg2).trans q2
        have Q3 := (HB.out.cell (p := ⟨g2, o2 + i * 6 + 3, none⟩) hg2).trans q3
        have Q4 := (HB.out.cell (p := ⟨g2, o2 + i * 6 + 4, none⟩) hg2).trans q4
        have Q5 := (HB.out.cell (p := ⟨g2, o2 + i * 6 + 5, none⟩) hg2).trans q5
        clear p0 p1 p2 p3 p4 p5 q0 q1 q2 q3 q4 q5
        have hc1 : i < c1 := by omega
        have hc2 : i < c2 := by omega
        cases hE : vtE a b with
        | true =>
          have HGN := Lib.hid (show ∀ j a b, j < i + 1 → P[j]? = some a → Q[j]? = some b → vtE a b = true from fun j x y hj hx hy => by
            rcases Nat.lt_or_ge j i with h | h
            · exact HG.out j x y h hx hy
            · obtain rfl : j = i := by omega
              rw [ha] at hx; rw [hb] at hy
              rw [← Option.some.inj hx, ← Option.some.inj hy]; exact hE)
          have e1 := fun w => vt_neP hE w
          clear ha hb
          go_upto_region 6 with fail
          go_quiet (fail)
          have HB2 := Lib.hid (below_drV HB.out nq)
          go_wp2
          go_roundw
          case rel => exact ⟨i + 1, by go_num, by omega, HB2, HGN⟩
          case measure => simp [intOf]; omega
        | false =>
          have HR := Lib.hid (allB_at ha hb hE)
          have e1 := fun w => vt_neP hE w
          clear ha hb
          go_upto_region 6 with fail
          go_quiet (fail)
          have HB2 := Lib.hid (below_drV HB.out nq)
          go_wp2
          go_ret
          exact ⟨ret_bool HR.out.symm, HB2.out⟩
      · obtain rfl : i = m1 := by omega
        have HR := Lib.hid (allB_yes (R := vtE) (P := P) (Q := Q) ⟨by rw [HLP.out, HLQ.out], fun j a b ha hb => HG.out j a b (by have := lt_of_some ha; rw [HLP.out] at this; exact this) ha hb⟩)
        go_wp2
        go_ret
        exact ⟨ret_bool HR.out.symm, HB.out⟩
  · have hne : ((m1 : Int) != (m2 : Int)) = true := by rw [bne_iff_ne]; omega
    have HR := Lib.hid (allB_no (R := vtE) (P := P) (Q := Q) fun h => hl (by rw [← HLP.out, ← HLQ.out]; exact h.1))
    go_enter Tryd.func86, Tryd.ntmps86
    go_wp2
    go_ret
    exact ⟨ret_bool HR.out.symm, Below.refl _ _⟩
set_option maxRecDepth 100000 in
set_option maxHeartbeats 4000000 in
theorem fit_any (A : Option Addr) (n c : Nat) (L : List CI) (A1 A2 : Option Addr) (m1 c1 m2 c2 : Nat) (P Q : List VT) (w : World) (hn : L.length = n) (hc : n ≤ 1000000) (hs : Mid L) (hv : VH L) (h : CIs w w.heap.size A L) (hm : m1 ≤ 9223372036854775807) (hP : VS w w.heap.size A1 P) (hQ : VS w w.heap.size A2 Q) (lP : P.length = m1) (lQ : Q.length = m2) (k1 : m1 ≤ c1) (k2 : m2 ≤ c2) :
    Calls Tryd.prog 85 #[.slice A n c, .slice A1 m1 c1, .slice A2 m2 c2] w fun e w' => e = .returned (.bool (allB (asB L) P Q)) ∧ Below w.heap.size w w' := by
  have KV := Lib.hid (fun (a b : VT) (W : World) (hW : Below w.heap.size w W) (ha : a.s.size ≤ 9223372036854775807) (hb : b.s.size ≤ 9223372036854775807) => ras_any A n c L a b W hn hc hs hv (h.up hW) ha hb)
  clear h hn hs hv
  have HP := Lib.hid hP
  have HQ := Lib.hid hQ
  have HLP := Lib.hid lP
  have HLQ := Lib.hid lQ
  clear hP hQ lP lQ
  by_cases hl : m1 = m2
  · subst hl
    go_enter Tryd.func85, Tryd.ntmps85
    go_wp2
    go_loopw [7] (fun iv wr => ∃ i : Nat, iv = .int .i64 i ∧ i ≤ m1 ∧ Hid (Below w.heap.size w wr) ∧ Hid (∀ j a b, j < i → P[j]? = some a → Q[j]? = some b → asB L a b = true)) (fun iv _ => m1 - (intOf iv).toNat)
    case atStart => exact ⟨0, rfl, Nat.zero_le _, Lib.hid (Below.refl _ _), Lib.hid fun j a b h => absurd h (Nat.not_lt_zero _)⟩
    case round =>
      obtain ⟨i, rfl, him, HB, HG⟩ := hrel
      by_cases hlt : i < m1
      · obtain ⟨a, ha⟩ : ∃ a, P[i]? = some a := ⟨_, List.getElem?_eq_getElem (by rw [HLP.out]; exact hlt)⟩
        obtain ⟨b, hb⟩ : ∃ b, Q[i]? = some b := ⟨_, List.getElem?_eq_getElem (by rw [HLQ.out]; exact hlt)⟩
        obtain ⟨g1, o1, rfl, hg1, p0, p1, p2, p3, p4, p5⟩ := HP.out.six ha
        obtain ⟨g2, o2, rfl, hg2, q0, q1, q2, q3, q4, q5⟩ := HQ.out.six hb
        have has := HP.out.2 a (List.mem_of_getElem? ha)
        have hbs := HQ.out.2 b (List.mem_of_getElem? hb)
        have HKV := Lib.hid (fun (W : World) (hW : Below w.heap.size w W) => KV.out a b W hW has hbs)
        have KS := Lib.hid (fun (u : World) (hu : Below w.heap.size w u) => And.intro (And.intro ((hu.cell (p := ⟨g1, o1 + i * 6, none⟩) hg1).trans p0) (And.intro ((hu.cell (p := ⟨g1, o1 + i * 6 + 1, none⟩) hg1).trans p1) (And.intro ((hu.cell (p := ⟨g1, o1 + i * 6 + 2, none⟩) hg1).trans p2) (And.intro ((hu.cell (p := ⟨g1, o1 + i * 6 + 3, none⟩) hg1).trans p3) (And.intro ((hu.cell (p := ⟨g1, o1 + i * 6 + 4, none⟩) hg1).trans p4) ((hu.cell (p := ⟨g1, o1 + i * 6 + 5, none⟩) hg1).trans p5)))))) (And.intro ((hu.cell (p := ⟨g2, o2 + i * 6, none⟩) hg2).trans q0) (And.intro ((hu.cell (p := ⟨g2, o2 + i * 6 + 1, none⟩) hg2).trans q1) (And.intro ((hu.cell (p := ⟨g2, o2 + i * 6 + 2, none⟩) hg2).trans q2) (And.intro ((hu.cell (p := ⟨g2, o2 + i * 6 + 3, none⟩) hg2).trans q3) (And.intro ((hu.cell (p := ⟨g2, o2 + i * 6 + 4, none⟩) hg2).trans q4) ((hu.cell (p := ⟨g2, o2 + i * 6 + 5, none⟩) hg2).trans q5)))))))
        clear p0 p1 p2 p3 p4 p5 q0 q1 q2 q3 q4 q5
        have hc1 : i < c1 := by omega
        have hc2 : i < c2 := by omega
        cases hE : asB L a b with
        | true =>
          have HGN := Lib.hid (show ∀ j a b, j < i + 1 → P[j]? = some a → Q[j]? = some b → asB L a b = true from fun j x y hj hx hy => by
            rcases Nat.lt_or_ge j i with h | h
            · exact HG.out j x y h hx hy
            · obtain rfl : j = i := by omega
              rw [ha] at hx; rw [hb] at hy
              rw [← Option.some.inj hx, ← Option.some.inj hy]; exact hE)
          rw [hE] at HKV
          clear ha hb
          go_upto_region 6 with fail
          refine regN_start (N := 10) (S := (fun u => Below w.heap.size w u)) (by kernel_rfl) ?_
          change wpAnyN _ _ _ _ _ _ _ #[false, false, false, false, false, false, false, false, false, false, false] _ (World.drew _)
          have hS0 := (show (fun u => Below w.heap.size w u) wr.drew from HB.out.drew)
          refine regN_takeC [9] (i := 0) (d := (some 19)) (v := ?v6a1) (l2 := #[true, false, false, false, false, false, false, false, false, false, false]) rfl rfl rfl (by kernel_rfl) (by kernel_rfl) (by kernel_rfl) (by kernel_rfl) (fun _ _ _ h => h) (by rfl) ?hv6a1 hS0 ?h6a1
          case hv6a1 => intro u hSu; clear hSu; go_simp; (try with_reducible rfl)
          (try simp only [Act.put, List.setIfInBounds_toArray, List.set_cons_zero, List.set_cons_succ])
          refine regN_takeC [9, 4, 3] (i := 1) (d := (some 20)) (v := ?v6a2) (l2 := #[true, true, false, false, false, false, false, false, false, false, false]) rfl rfl rfl (by kernel_rfl) (by kernel_rfl) (by kernel_rfl) (by kernel_rfl) (fun _ _ _ h => h) (by rfl) ?hv6a2 hS0 ?h6a2
          case hv6a2 => intro u hSu; clear hSu; go_simp; (try with_reducible rfl)
          (try simp only [Act.put, List.setIfInBounds_toArray, List.set_cons_zero, List.set_cons_succ])
          refine regN_takeC [9, 4, 3] (i := 2) (d := (some 21)) (v := ?v6a3) (l2 := #[true, true, true, false, false, false, false, false, false, false, false]) rfl rfl rfl (by kernel_rfl) (by kernel_rfl) (by kernel_rfl) (by kernel_rfl) (fun _ _ _ h => h) (by rfl) ?hv6a3 hS0 ?h6a3
          case hv6a3 => intro u hSu; clear hSu; go_simp; (try with_reducible rfl)
          (try simp only [Act.put, List.setIfInBounds_toArray, List.set_cons_zero, List.set_cons_succ])
          refine regN_takeC [9, 4] (i := 3) (d := (some 22)) (v := ?v6a4) (l2 := #[true, true, true, true, false, false, false, false, false, false, false]) rfl rfl rfl (by kernel_rfl) (by kernel_rfl) (by kernel_rfl) (by kernel_rfl) (fun _ _ _ h => h) (by rfl) ?hv6a4 hS0 ?h6a4
          case hv6a4 => intro u hSu; clear hSu; go_simp; (try with_reducible rfl)
          (try simp only [Act.put, List.setIfInBounds_toArray, List.set_cons_zero, List.set_cons_succ])
          refine regN_takeC [9] (i := 4) (d := (some 23)) (v := ?v6a5) (l2 := #[true, true, true, true, true, false, false, false, false, false, false]) rfl rfl rfl (by kernel_rfl) (by kernel_rfl) (by kernel_rfl) (by kernel_rfl) (fun _ _ _ h => h) (by rfl) ?hv6a5 hS0 ?h6a5
          case hv6a5 => intro u y1; obtain ⟨⟨p0, p1, p2, p3, p4, p5⟩, q0, q1, q2, q3, q4, q5⟩ := KS.out u y1; go_simp; (try with_reducible rfl)
          (try simp only [Act.put, List.setIfInBounds_toArray, List.set_cons_zero, List.set_cons_succ])
          refine regN_takeC [9, 8, 7] (i := 5) (d := (some 24)) (v := ?v6a6) (l2 := #[true, true, true, true, true, true, false, false, false, false, false]) rfl rfl rfl (by kernel_rfl) (by kernel_rfl) (by kernel_rfl) (by kernel_rfl) (fun _ _ _ h => h) (by rfl) ?hv6a6 hS0 ?h6a6
          case hv6a6 => intro u hSu; clear hSu; go_simp; (try with_reducible rfl)
          (try simp only [Act.put, List.setIfInBounds_toArray, List.set_cons_zero, List.set_cons_succ])
          refine regN_takeC [9, 8, 7] (i := 6) (d := (some 25)) (v := ?v6a7) (l2 := #[true, true, true, true, true, true, true, false, false, false, false]) rfl rfl rfl (by kernel_rfl) (by kernel_rfl) (by kernel_rfl) (by kernel_rfl) (fun _ _ _ h => h) (by rfl) ?hv6a7 hS0 ?h6a7
          case hv6a7 => intro u hSu; clear hSu; go_simp; (try with_reducible rfl)
          (try simp only [Act.put, List.setIfInBounds_toArray, List.set_cons_zero, List.set_cons_succ])
          refine regN_takeC [9, 8] (i := 7) (d := (some 26)) (v := ?v6a8) (l2 := #[true, true, true, true, true, true, true, true, false, false, false]) rfl rfl rfl (by kernel_rfl) (by kernel_rfl) (by kernel_rfl) (by kernel_rfl) (fun _ _ _ h => h) (by rfl) ?hv6a8 hS0 ?h6a8
          case hv6a8 => intro u hSu; clear hSu; go_simp; (try with_reducible rfl)
          (try simp only [Act.put, List.setIfInBounds_toArray, List.set_cons_zero, List.set_cons_succ])
          refine regN_takeC [9] (i := 8) (d := (some 27)) (v := ?v6a9) (l2 := #[true, true, true, true, true, true, true, true, true, false, false]) rfl rfl rfl (by kernel_rfl) (by kernel_rfl) (by kernel_rfl) (by kernel_rfl) (fun _ _ _ h => h) (by rfl) ?hv6a9 hS0 ?h6a9
          case hv6a9 => intro u y1; obtain ⟨⟨p0, p1, p2, p3, p4, p5⟩, q0, q1, q2, q3, q4, q5⟩ := KS.out u y1; go_simp; (try with_reducible rfl)
          (try simp only [Act.put, List.setIfInBounds_toArray, List.set_cons_zero, List.set_cons_succ])
          refine regN_ready (rs := [9]) (by kernel_rfl) (by simp) ?_
          refine (AllN.cons (i := 9) (l2 := #[true, true, true, true, true, true, true, true, true, true, false]) rfl rfl (fun K hK => ?_) AllN.nil)
          go_simp
          go_at_call 100
          (with_reducible refine (HKV.out _ hS0).mono ?_)
          rintro e w2 ⟨rfl, hb1⟩
          have hSn := (show (fun u => Below w.heap.size w u) w2 from below_on hS0 hb1)
          clear hb1
          go_simp
          have hS1 : ((fun u => Below w.heap.size w u) : World → Prop) _ := hSn
          refine hK _ _ (fun _ => hS1) ?_
          clear hK K
          (try simp only [Act.put, List.setIfInBounds_toArray, List.set_cons_zero, List.set_cons_succ])
          refine regN_ready (rs := [10]) (by kernel_rfl) (by simp) ?_
          refine (AllN.cons (i := 10) (l2 := #[true, true, true, true, true, true, true, true, true, true, true]) rfl rfl (fun K hK => ?_) AllN.nil)
          go_simp
          refine hK _ _ (fun h => absurd rfl h) ?_
          clear hK K
          (try simp only [Act.put, List.setIfInBounds_toArray, List.set_cons_zero, List.set_cons_succ])
          refine regN_done (by kernel_rfl) ?_ _
          have HB2 := Lib.hid hSn
          go_wp2
          go_roundw
          case rel => exact ⟨i + 1, by go_num, by omega, HB2, HGN⟩
          case measure => simp [intOf]; omega
        | false =>
          have HR := Lib.hid (allB_at ha hb hE)
          rw [hE] at HKV
          clear ha hb
          go_upto_region 6 with fail
          refine regN_start (N := 10) (S := (fun u => Below w.heap.size w u)) (by kernel_rfl) ?_
          change wpAnyN _ _ _ _ _ _ _ #[false, false, false, false, false, false, false, false, false, false, false] _ (World.drew _)
          have hS0 := (show (fun u => Below w.heap.size w u) wr.drew from HB.out.drew)
          refine regN_takeC [9] (i := 0) (d := (some 19)) (v := ?v6b1) (l2 := #[true, false, false, false, false, false, false, false, false, false, false]) rfl rfl rfl (by kernel_rfl) (by kernel_rfl) (by kernel_rfl) (by kernel_rfl) (fun _ _ _ h => h) (by rfl) ?hv6b1 hS0 ?h6b1
          case hv6b1 => intro u hSu; clear hSu; go_simp; (try with_reducible rfl)
          (try simp only [Act.put, List.setIfInBounds_toArray, List.set_cons_zero, List.set_cons_succ])
          refine regN_takeC [9, 4, 3] (i := 1) (d := (some 20)) (v := ?v6b2) (l2 := #[true, true, false, false, false, false, false, false, false, false, false]) rfl rfl rfl (by kernel_rfl) (by kernel_rfl) (by kernel_rfl) (by kernel_rfl) (fun _ _ _ h => h) (by rfl) ?hv6b2 hS0 ?h6b2
          case hv6b2 => intro u hSu; clear hSu; go_simp; (try with_reducible rfl)
          (try simp only [Act.put, List.setIfInBounds_toArray, List.set_cons_zero, List.set_cons_succ])
          refine regN_takeC [9, 4, 3] (i := 2) (d := (some 21)) (v := ?v6b3) (l2 := #[true, true, true, false, false, false, false, false, false, false, false]) rfl rfl rfl (by kernel_rfl) (by kernel_rfl) (by kernel_rfl) (by kernel_rfl) (fun _ _ _ h => h) (by rfl) ?hv6b3 hS0 ?h6b3
          case hv6b3 => intro u hSu; clear hSu; go_simp; (try with_reducible rfl)
          (try simp only [Act.put, List.setIfInBounds_toArray, List.set_cons_zero, List.set_cons_succ])
          refine regN_takeC [9, 4] (i := 3) (d := (some 22)) (v := ?v6b4) (l2 := #[true, true, true, true, false, false, false, false, false, false, false]) rfl rfl rfl (by kernel_rfl) (by kernel_rfl) (by kernel_rfl) (by kernel_rfl) (fun _ _ _ h => h) (by rfl) ?hv6b4 hS0 ?h6b4
          case hv6b4 => intro u hSu; clear hSu; go_simp; (try with_reducible rfl)
          (try simp only [Act.put, List.setIfInBounds_toArray, List.set_cons_zero, List.set_cons_succ])
          refine regN_takeC [9] (i := 4) (d := (some 23)) (v := ?v6b5) (l2 := #[true, true, true, true, true, false, false, false, false, false, false]) rfl rfl rfl (by kernel_rfl) (by kernel_rfl) (by kernel_rfl) (by kernel_rfl) (fun _ _ _ h => h) (by rfl) ?hv6b5 hS0 ?h6b5
          case hv6b5 => intro u y1; obtain ⟨⟨p0, p1, p2, p3, p4, p5⟩, q0, q1, q2, q3, q4, q5⟩ := KS.out u y1; go_simp; (try with_reducible rfl)
          (try simp only [Act.put, List.setIfInBounds_toArray, List.set_cons_zero, List.set_cons_succ])
          refine regN_takeC [9, 8, 7] (i := 5) (d := (some 24)) (v := ?v6b6) (l2 := #[true, true, true, true, true, true, false, false, false, false, false]) rfl rfl rfl (by kernel_rfl) (by kernel_rfl) (by kernel_rfl) (by kernel_rfl) (fun _ _ _ h => h) (by rfl) ?hv6b6 hS0 ?h6b6
          case hv6b6 => intro u hSu; clear hSu; go_simp; (try with_reducible rfl)
          (try simp only [Act.put, List.setIfInBounds_toArray, List.set_cons_zero, List.set_cons_succ])
          refine regN_takeC [9, 8, 7] (i := 6) (d := (some 25)) (v := ?v6b7) (l2 := #[true, true, true, true, true, true, true, false, false, false, false]) rfl rfl rfl (by kernel_rfl) (by kernel_rfl) (by kernel_rfl) (by kernel_rfl) (fun _ _ _ h => h) (by rfl) ?hv6b7 hS0 ?h6b7
          case hv6b7 => intro u hSu; clear hSu; go_simp; (try with_reducible rfl)
          (try simp only [Act.put, List.setIfInBounds_toArray, List.set_cons_zero, List.set_cons_succ])
          refine regN_takeC [9, 8] (i := 7) (d := (some 26)) (v := ?v6b8) (l2 := #[true, true, true, true, true, true, true, true, false, false, false]) rfl rfl rfl (by kernel_rfl) (by kernel_rfl) (by kernel_rfl) (by kernel_rfl) (fun _ _ _ h => h) (by rfl) ?hv6b8 hS0 ?h6b8
          case hv6b8 => intro u hSu; clear hSu; go_simp; (try with_reducible rfl)
          (try simp only [Act.put, List.setIfInBounds_toArray, List.set_cons_zero, List.set_cons_succ])
          refine regN_takeC [9] (i := 8) (d := (some 27)) (v := ?v6b9) (l2 := #[true, true, true, true, true, true, true, true, true, false, false]) rfl rfl rfl (by kernel_rfl) (by kernel_rfl) (by kernel_rfl) (by kernel_rfl) (fun _ _ _ h => h) (by rfl) ?hv6b9 hS0 ?h6b9
          case hv6b9 => intro u y1; obtain ⟨⟨p0, p1, p2, p3, p4, p5⟩, q0, q1, q2, q3, q4, q5⟩ := KS.out u y1; go_simp; (try with_reducible rfl)
          (try simp only [Act.put, List.setIfInBounds_toArray, List.set_cons_zero, List.set_cons_succ])
          refine regN_ready (rs := [9]) (by kernel_rfl) (by simp) ?_
          refine (AllN.cons (i := 9) (l2 := #[true, true, true, true, true, true, true, true, true, true, false]) rfl rfl (fun K hK => ?_) AllN.nil)
          go_simp
          go_at_call 100
          (with_reducible refine (HKV.out _ hS0).mono ?_)
          rintro e w2 ⟨rfl, hb1⟩
          have hSn := (show (fun u => Below w.heap.size w u) w2 from below_on hS0 hb1)
          clear hb1
          go_simp
          have hS1 : ((fun u => Below w.heap.size w u) : World → Prop) _ := hSn
          refine hK _ _ (fun _ => hS1) ?_
          clear hK K
          (try simp only [Act.put, List.setIfInBounds_toArray, List.set_cons_zero, List.set_cons_succ])
          refine regN_ready (rs := [10]) (by kernel_rfl) (by simp) ?_
          refine (AllN.cons (i := 10) (l2 := #[true, true, true, true, true, true, true, true, true, true, true]) rfl rfl (fun K hK => ?_) AllN.nil)
          go_simp
          refine hK _ _ (fun h => absurd rfl h) ?_
          clear hK K
          (try simp only [Act.put, List.setIfInBounds_toArray, List.set_cons_zero, List.set_cons_succ])
          refine regN_done (by kernel_rfl) ?_ _
          have HB2 := Lib.hid hSn
          go_wp2
          go_ret
          exact ⟨ret_bool HR.out.symm, HB2.out⟩
      · obtain rfl : i = m1 := by omega
        have HR := Lib.hid (allB_yes (R := (asB L)) (P := P) (Q := Q) ⟨by rw [HLP.out, HLQ.out], fun j a b ha hb => HG.out j a b (by have := lt_of_some ha; rw [HLP.out] at this; exact this) ha hb⟩)
        go_wp2
        go_ret
        exact ⟨ret_bool HR.out.symm, HB.out⟩
  · have hne : ((m1 : Int) != (m2 : Int)) = true := by rw [bne_iff_ne]; omega
    have HR := Lib.hid (allB_no (R := (asB L)) (P := P) (Q := Q) fun h => hl (by rw [← HLP.out, ← HLQ.out]; exact h.1))
    go_enter Tryd.func85, Tryd.ntmps85
    go_wp2
    go_ret
    exact ⟨ret_bool HR.out.symm, Below.refl _ _⟩
theorem cell_ltM {w : World} {a : Addr} {v : Value} (h : w.cell? a = some v) : a.block < w.heap.size := by
  rcases Nat.lt_or_ge a.block w.heap.size with hl | hl
  · exact hl
  · rw [World.cell?, Array.getElem?_eq_none hl] at h; simp at h
set_option maxRecDepth 100000 in
set_option maxHeartbeats 4000000 in
theorem clo_any (A : Option Addr) (n c : Nat) (L : List CI) (a b : VT) (B : Nat) (w : World) (hb0 : w.cell? ⟨B, 0, none⟩ = some (.slice A n c)) (hn : L.length = n) (hc : n ≤ 1000000) (h : CIs w w.heap.size A L) (ha : a.s.size ≤ 9223372036854775807) (hb : b.s.size ≤ 9223372036854775807) :
    Calls Tryd.prog 83 #[(Value.agg #[Value.int IntKind.i64 (VT.k a), Value.int IntKind.i64 (VT.n a), Value.int IntKind.i64 (VT.d a), Value.int IntKind.u8 (VT.b a), Value.string (VT.s a), Value.int IntKind.i64 (VT.p a)]), (Value.agg #[Value.int IntKind.i64 (VT.k b), Value.int IntKind.i64 (VT.n b), Value.int IntKind.i64 (VT.d b), Value.int IntKind.u8 (VT.b b), Value.string (VT.s b), Value.int IntKind.i64 (VT.p b)]), .pointer (some ⟨B, 0, none⟩)] w fun e w' => e = .returned (.bool (asB L a b)) ∧ Below w.heap.size w w' := by
  have KV := Lib.hid (fun (W : World) (hW : Below w.heap.size w W) => mas_any A n c L a b W hn hc (h.up hW) ha hb)
  have hBl : B < w.heap.size := cell_ltM hb0
  clear h hn
  go_enter Tryd.func83, Tryd.ntmps83
  go_upto_region 1 with fail
  obtain ⟨H0, H1, hB⟩ := two_laid w (.cells #[.int .i64 a.k, .int .i64 a.n, .int .i64 a.d, .int .u8 a.b, .string a.s, .int .i64 a.p] 43) (.cells #[.int .i64 b.k, .int .i64 b.n, .int .i64 b.d, .int .u8 b.b, .string b.s, .int .i64 b.p] 43)
  generalize (w.alloc (.cells #[.int .i64 a.k, .int .i64 a.n, .int .i64 a.d, .int .u8 a.b, .string a.s, .int .i64 a.p] 43)).alloc (.cells #[.int .i64 b.k, .int .i64 b.n, .int .i64 b.d, .int .u8 b.b, .string b.s, .int .i64 b.p] 43) = W at H0 H1 hB ⊢
  obtain ⟨xa0, xa1, xa2, xa3, xa4, xa5, fa⟩ := six_cells H0
  obtain ⟨xb0, xb1, xb2, xb3, xb4, xb5, fb⟩ := six_cells H1
  have hl := (hB.cell (p := ⟨B, 0, none⟩) hBl).trans hb0
  go_wp2_with (go_at_call 64; (with_reducible refine (KV.out _ hB).mono ?_); rintro e w1 ⟨rfl, hb1⟩; replace hB := below_on hB hb1; clear hb1)
  go_ret
  exact ⟨rfl, hB⟩
set_option maxRecDepth 100000 in
set_option maxHeartbeats 4000000 in
theorem eqf_any (A : Option Addr) (n c : Nat) (L : List CI) (B : Nat) (A1 A2 : Option Addr) (m1 c1 m2 c2 : Nat) (P Q : List VT) (w : World) (hb0 : w.cell? ⟨B, 0, none⟩ = some (.slice A n c)) (hn : L.length = n) (hc : n ≤ 1000000) (h : CIs w w.heap.size A L) (hm : m1 ≤ 9223372036854775807) (hP : VS w w.heap.size A1 P) (hQ : VS w w.heap.size A2 Q) (lP : P.length = m1) (lQ : Q.length = m2) (k1 : m1 ≤ c1) (k2 : m2 ≤ c2) :
    Calls Tryd.prog 84 #[.slice A1 m1 c1, .slice A2 m2 c2, .func (.func 83) #[] #[.pointer (some ⟨B, 0, none⟩)]] w fun e w' => e = .returned (.bool (allB (asB L) P Q)) ∧ Below w.heap.size w w' := by
  have hBl : B < w.heap.size := cell_ltM hb0
  have KV := Lib.hid (fun (a b : VT) (W : World) (hW : Below w.heap.size w W) (ha : a.s.size ≤ 9223372036854775807) (hb : b.s.size ≤ 9223372036854775807) => clo_any A n c L a b B W ((hW.cell (p := ⟨B, 0, none⟩) hBl).trans hb0) hn hc (h.up hW) ha hb)
  have hen : Enters Tryd.prog 83 := enters_of Tryd.func83 (by kernel_rfl) rfl
  have he2 : ∀ (args : Array Value) (w : World), (callFunc 83 args).run Tryd.prog w = .ok (.enter 83 args) w := hen
  clear h hn hb0
  have HP := Lib.hid hP
  have HQ := Lib.hid hQ
  have HLP := Lib.hid lP
  have HLQ := Lib.hid lQ
  clear hP hQ lP lQ
  by_cases hl : m1 = m2
  · subst hl
    go_enter Tryd.func84, Tryd.ntmps84
    go_wp2
    go_loopw [17] (fun iv wr => ∃ i : Nat, iv = .int .i64 i ∧ i ≤ m1 ∧ Hid (Below w.heap.size w wr) ∧ Hid (∀ j a b, j < i → P[j]? = some a → Q[j]? = some b → asB L a b = true)) (fun iv _ => m1 - (intOf iv).toNat)
    case atStart => exact ⟨0, rfl, Nat.zero_le _, Lib.hid (Below.refl _ _), Lib.hid fun j a b h => absurd h (Nat.not_lt_zero _)⟩
    case round =>
      obtain ⟨i, rfl, him, HB, HG⟩ := hrel
      by_cases hlt : i < m1
      · obtain ⟨a, ha⟩ : ∃ a, P[i]? = some a := ⟨_, List.getElem?_eq_getElem (by rw [HLP.out]; exact hlt)⟩
        obtain ⟨b, hb⟩ : ∃ b, Q[i]? = some b := ⟨_, List.getElem?_eq_getElem (by rw [HLQ.out]; exact hlt)⟩
        obtain ⟨g1, o1, rfl, hg1, p0, p1, p2, p3, p4, p5⟩ := HP.out.six ha
        obtain ⟨g2, o2, rfl, hg2, q0, q1, q2, q3, q4, q5⟩ := HQ.out.six hb
        have P0 := (HB.out.cell (p := ⟨g1, o1 + i * 6, none⟩) hg1).trans p0
        have P1 := (HB.out.cell (p := ⟨g1, o1 + i * 6 + 1, none⟩) hg1).trans p1
        have P2 := (HB.out.cell (p := ⟨g1, o1 + i * 6 + 2, none⟩) hg1).trans p2
        have P3 := (HB.out.cell (p := ⟨g1, o1 + i * 6 + 3, none⟩) hg1).trans p3
        have P4 := (HB.out.cell (p := ⟨g1, o1 + i * 6 + 4, none⟩) hg1).trans p4
        have P5 := (HB.out.cell (p := ⟨g1, o1 + i * 6 + 5, none⟩) hg1).trans p5
        have Q0 := (HB.out.cell (p := ⟨g2, o2 + i * 6, none⟩) hg2).trans q0
        have Q1 := (HB.out.cell (p := ⟨g2, o2 + i * 6 + 1, none⟩) hg2).trans q1
        have Q2 := (HB.out.cell (p := ⟨g2, o2 + i * 6 + 2, none⟩) hg2).trans q2
        have Q3 := (HB.out.cell (p := ⟨g2, o2 + i * 6 + 3, none⟩) hg2).trans q3
        have Q4 := (HB.out.cell (p := ⟨g2, o2 + i * 6 + 4, none⟩) hg2).trans q4
        have Q5 := (HB.out.cell (p := ⟨g2, o2 + i * 6 + 5, none⟩) hg2).trans q5
        have has := HP.out.2 a (List.mem_of_getElem? ha)
        have hbs := HQ.out.2 b (List.mem_of_getElem? hb)
        have HKV := Lib.hid (fun (W : World) (hW : Below w.heap.size w W) => KV.out a b W hW has hbs)
        have HQB := Lib.hid (fun (u : World) (hu : Below w.heap.size w u) => And.intro ((hu.cell (p := ⟨g2, o2 + i * 6, none⟩) hg2).trans q0) (And.intro ((hu.cell (p := ⟨g2, o2 + i * 6 + 1, none⟩) hg2).trans q1) (And.intro ((hu.cell (p := ⟨g2, o2 + i * 6 + 2, none⟩) hg2).trans q2) (And.intro ((hu.cell (p := ⟨g2, o2 + i * 6 + 3, none⟩) hg2).trans q3) (And.intro ((hu.cell (p := ⟨g2, o2 + i * 6 + 4, none⟩) hg2).trans q4) ((hu.cell (p := ⟨g2, o2 + i * 6 + 5, none⟩) hg2).trans q5))))))
        clear p0 p1 p2 p3 p4 p5 q0 q1 q2 q3 q4 q5 Q0 Q1 Q2 Q3 Q4 Q5
        have hc1 : i < c1 := by omega
        have hc2 : i < c2 := by omega
        cases hE : asB L a b with
        | true =>
          have HGN := Lib.hid (show ∀ j a b, j < i + 1 → P[j]? = some a → Q[j]? = some b → asB L a b = true from fun j x y hj hx hy => by
            rcases Nat.lt_or_ge j i with h | h
            · exact HG.out j x y h hx hy
            · obtain rfl : j = i := by omega
              rw [ha] at hx; rw [hb] at hy
              rw [← Option.some.inj hx, ← Option.some.inj hy]; exact hE)
          rw [hE] at HKV
          clear ha hb
          go_upto_region 6 with fail
          have H0 := World.alloc_heap_new wr (.cells #[.int .i64 a.k, .int .i64 a.n, .int .i64 a.d, .int .u8 a.b, .string a.s, .int .i64 a.p] 43)
          have hB := below_al HB.out (.cells #[.int .i64 a.k, .int .i64 a.n, .int .i64 a.d, .int .u8 a.b, .string a.s, .int .i64 a.p] 43)
          generalize wr.alloc (.cells #[.int .i64 a.k, .int .i64 a.n, .int .i64 a.d, .int .u8 a.b, .string a.s, .int .i64 a.p] 43) = W1 at H0 hB ⊢
          generalize wr.heap.size = B1 at H0 ⊢
          obtain ⟨Q0, Q1, Q2, Q3, Q4, Q5⟩ := HQB.out _ hB
          clear P0 P1 P2 P3 P4 P5
          go_upto_region 7 with fail
          have H1 := World.alloc_heap_new W1 (.cells #[.int .i64 b.k, .int .i64 b.n, .int .i64 b.d, .int .u8 b.b, .string b.s, .int .i64 b.p] 43)
          replace H0 := laid_old (o' := (.cells #[.int .i64 b.k, .int .i64 b.n, .int .i64 b.d, .int .u8 b.b, .string b.s, .int .i64 b.p] 43)) H0
          replace hB := below_al hB (.cells #[.int .i64 b.k, .int .i64 b.n, .int .i64 b.d, .int .u8 b.b, .string b.s, .int .i64 b.p] 43)
          generalize W1.alloc (.cells #[.int .i64 b.k, .int .i64 b.n, .int .i64 b.d, .int .u8 b.b, .string b.s, .int .i64 b.p] 43) = W2 at H0 H1 hB ⊢
          generalize W1.heap.size = B2 at H1 ⊢
          clear Q0 Q1 Q2 Q3 Q4 Q5
          obtain ⟨xa0, xa1, xa2, xa3, xa4, xa5, fa⟩ := six_cells H0
          obtain ⟨xb0, xb1, xb2, xb3, xb4, xb5, fb⟩ := six_cells H1
          go_wp2_with (first | (go_at_call 83; (with_reducible refine (HKV.out _ hB).mono ?_); rintro e w1 ⟨rfl, hb1⟩; replace hB := below_on hB hb1; clear hb1) | (go_at_fn 83; (with_reducible refine (HKV.out _ hB).mono ?_); rintro e w1 ⟨rfl, hb1⟩; replace hB := below_on hB hb1; clear hb1))
          have HB2 := Lib.hid hB
          go_roundw
          case rel => exact ⟨i + 1, by go_num, by omega, HB2, HGN⟩
          case measure => simp [intOf]; omega
        | false =>
          have HR := Lib.hid (allB_at ha hb hE)
          rw [hE] at HKV
          clear ha hb
          go_upto_region 6 with fail
          have H0 := World.alloc_heap_new wr (.cells #[.int .i64 a.k, .int .i64 a.n, .int .i64 a.d, .int .u8 a.b, .string a.s, .int .i64 a.p] 43)
          have hB := below_al HB.out (.cells #[.int .i64 a.k, .int .i64 a.n, .int .i64 a.d, .int .u8 a.b, .string a.s, .int .i64 a.p] 43)
          generalize wr.alloc (.cells #[.int .i64 a.k, .int .i64 a.n, .int .i64 a.d, .int .u8 a.b, .string a.s, .int .i64 a.p] 43) = W1 at H0 hB ⊢
          generalize wr.heap.size = B1 at H0 ⊢
          obtain ⟨Q0, Q1, Q2, Q3, Q4, Q5⟩ := HQB.out _ hB
          clear P0 P1 P2 P3 P4 P5
          go_upto_region 7 with fail
          have H1 := World.alloc_heap_new W1 (.cells #[.int .i64 b.k, .int .i64 b.n, .int .i64 b.d, .int .u8 b.b, .string b.s, .int .i64 b.p] 43)
          replace H0 := laid_old (o' := (.cells #[.int .i64 b.k, .int .i64 b.n, .int .i64 b.d, .int .u8 b.b, .string b.s, .int .i64 b.p] 43)) H0
          replace hB := below_al hB (.cells #[.int .i64 b.k, .int .i64 b.n, .int .i64 b.d, .int .u8 b.b, .string b.s, .int .i64 b.p] 43)
          generalize W1.alloc (.cells #[.int .i64 b.k, .int .i64 b.n, .int .i64 b.d, .int .u8 b.b, .string b.s, .int .i64 b.p] 43) = W2 at H0 H1 hB ⊢
          generalize W1.heap.size = B2 at H1 ⊢
          clear Q0 Q1 Q2 Q3 Q4 Q5
          obtain ⟨xa0, xa1, xa2, xa3, xa4, xa5, fa⟩ := six_cells H0
          obtain ⟨xb0, xb1, xb2, xb3, xb4, xb5, fb⟩ := six_cells H1
          go_wp2_with (first | (go_at_call 83; (with_reducible refine (HKV.out _ hB).mono ?_); rintro e w1 ⟨rfl, hb1⟩; replace hB := below_on hB hb1; clear hb1) | (go_at_fn 83; (with_reducible refine (HKV.out _ hB).mono ?_); rintro e w1 ⟨rfl, hb1⟩; replace hB := below_on hB hb1; clear hb1))
          have HB2 := Lib.hid hB
          go_ret
          exact ⟨ret_bool HR.out.symm, HB2.out⟩
      · obtain rfl : i = m1 := by omega
        have HR := Lib.hid (allB_yes (R := (asB L)) (P := P) (Q := Q) ⟨by rw [HLP.out, HLQ.out], fun j a b ha hb => HG.out j a b (by have := lt_of_some ha; rw [HLP.out] at this; exact this) ha hb⟩)
        go_wp2
        go_ret
        exact ⟨ret_bool HR.out.symm, HB.out⟩
  · have hne : ((m1 : Int) != (m2 : Int)) = true := by rw [bne_iff_ne]; omega
    have HR := Lib.hid (allB_no (R := (asB L)) (P := P) (Q := Q) fun h => hl (by rw [← HLP.out, ← HLQ.out]; exact h.1))
    go_enter Tryd.func84, Tryd.ntmps84
    go_wp2
    go_ret
    exact ⟨ret_bool HR.out.symm, Below.refl _ _⟩
end Go.Proofs.YthifmcnemeiphaaDoor

/- Mx -/
/- Layer 18: Equal and Assignable of frames (written by gen/mx.py). -/
namespace Go.Proofs.YthifmcnemeiphaaDoor
open Go.ChangeShapes Go.WideShapes Go.ChangeAt Go.RowKit Go.PlainAid Go.Maps
set_option linter.unusedSimpArgs false
set_option linter.unusedVariables false

set_option maxRecDepth 100000 in
set_option maxHeartbeats 8000000 in
theorem meqf_true_true (A1 A2 A3 A4 : Option Addr) (n1 n2 n3 n4 c1 c2 c3 c4 : Nat) (r1 r2 : Bool) (w : World) (k1 : ∀ W, Below w.heap.size w W → Calls Tryd.prog 86 #[.slice A1 n1 c1, .slice A3 n3 c3] W fun e w' => e = .returned (.bool r1) ∧ Below W.heap.size W w') (k2 : ∀ W, Below w.heap.size w W → Calls Tryd.prog 86 #[.slice A2 n2 c2, .slice A4 n4 c4] W fun e w' => e = .returned (.bool r2) ∧ Below W.heap.size W w') :
    Calls Tryd.prog 52 #[.agg #[.slice A1 n1 c1, .slice A2 n2 c2, .bool true], .agg #[.slice A3 n3 c3, .slice A4 n4 c4, .bool true]] w fun e w' => e = .returned (.bool ((true == true) && (r1 && r2))) ∧ Below w.heap.size w w' := by
  have K1 := Lib.hid k1
  have K2 := Lib.hid k2
  clear k1 k2
  cases r1 <;> cases r2
  all_goals
    go_enter Tryd.func52, Tryd.ntmps52
    go_upto_region 1 with fail
    obtain ⟨H0, H1, hB⟩ := two_laid w (.cells #[.slice A1 n1 c1, .slice A2 n2 c2, .bool true] 56) (.cells #[.slice A3 n3 c3, .slice A4 n4 c4, .bool true] 56)
    generalize (w.alloc (.cells #[.slice A1 n1 c1, .slice A2 n2 c2, .bool true] 56)).alloc (.cells #[.slice A3 n3 c3, .slice A4 n4 c4, .bool true] 56) = W at H0 H1 hB ⊢
    obtain ⟨xa0, xa1, xa2, fa0, fa1, fa2⟩ := three_cells H0; obtain ⟨xb0, xb1, xb2, fb0, fb1, fb2⟩ := three_cells H1
    go_wp2_with (first | (go_at_call 86; (with_reducible refine (K1.out _ hB).mono ?_); rintro e w1 ⟨rfl, hb1⟩; replace H0 := (hb1.block _ (lt_heap H0)).trans H0; replace H1 := (hb1.block _ (lt_heap H1)).trans H1; replace hB := below_on hB hb1; clear hb1 xa0 xa1 xa2 fa0 fa1 fa2 xb0 xb1 xb2 fb0 fb1 fb2; obtain ⟨xa0, xa1, xa2, fa0, fa1, fa2⟩ := three_cells H0; obtain ⟨xb0, xb1, xb2, fb0, fb1, fb2⟩ := three_cells H1) | (go_at_call 86; (with_reducible refine (K2.out _ hB).mono ?_); rintro e w1 ⟨rfl, hb1⟩; replace H0 := (hb1.block _ (lt_heap H0)).trans H0; replace H1 := (hb1.block _ (lt_heap H1)).trans H1; replace hB := below_on hB hb1; clear hb1 xa0 xa1 xa2 fa0 fa1 fa2 xb0 xb1 xb2 fb0 fb1 fb2; obtain ⟨xa0, xa1, xa2, fa0, fa1, fa2⟩ := three_cells H0; obtain ⟨xb0, xb1, xb2, fb0, fb1, fb2⟩ := three_cells H1))
    go_ret
    exact ⟨rfl, hB⟩
set_option maxRecDepth 100000 in
set_option maxHeartbeats 8000000 in
theorem meqf_true_false (A1 A2 A3 A4 : Option Addr) (n1 n2 n3 n4 c1 c2 c3 c4 : Nat) (r1 r2 : Bool) (w : World) (k1 : ∀ W, Below w.heap.size w W → Calls Tryd.prog 86 #[.slice A1 n1 c1, .slice A3 n3 c3] W fun e w' => e = .returned (.bool r1) ∧ Below W.heap.size W w') (k2 : ∀ W, Below w.heap.size w W → Calls Tryd.prog 86 #[.slice A2 n2 c2, .slice A4 n4 c4] W fun e w' => e = .returned (.bool r2) ∧ Below W.heap.size W w') :
    Calls Tryd.prog 52 #[.agg #[.slice A1 n1 c1, .slice A2 n2 c2, .bool true], .agg #[.slice A3 n3 c3, .slice A4 n4 c4, .bool false]] w fun e w' => e = .returned (.bool ((true == false) && (r1 && r2))) ∧ Below w.heap.size w w' := by
  have K1 := Lib.hid k1
  have K2 := Lib.hid k2
  clear k1 k2
  cases r1 <;> cases r2
  all_goals
    go_enter Tryd.func52, Tryd.ntmps52
    go_upto_region 1 with fail
    obtain ⟨H0, H1, hB⟩ := two_laid w (.cells #[.slice A1 n1 c1, .slice A2 n2 c2, .bool true] 56) (.cells #[.slice A3 n3 c3, .slice A4 n4 c4, .bool false] 56)
    generalize (w.alloc (.cells #[.slice A1 n1 c1, .slice A2 n2 c2, .bool true] 56)).alloc (.cells #[.slice A3 n3 c3, .slice A4 n4 c4, .bool false] 56) = W at H0 H1 hB ⊢
    obtain ⟨xa0, xa1, xa2, fa0, fa1, fa2⟩ := three_cells H0; obtain ⟨xb0, xb1, xb2, fb0, fb1, fb2⟩ := three_cells H1
    go_wp2_with (first | (go_at_call 86; (with_reducible refine (K1.out _ hB).mono ?_); rintro e w1 ⟨rfl, hb1⟩; replace H0 := (hb1.block _ (lt_heap H0)).trans H0; replace H1 := (hb1.block _ (lt_heap H1)).trans H1; replace hB := below_on hB hb1; clear hb1 xa0 xa1 xa2 fa0 fa1 fa2 xb0 xb1 xb2 fb0 fb1 fb2; obtain ⟨xa0, xa1, xa2, fa0, fa1, fa2⟩ := three_cells H0; obtain ⟨xb0, xb1, xb2, fb0, fb1, fb2⟩ := three_cells H1) | (go_at_call 86; (with_reducible refine (K2.out _ hB).mono ?_); rintro e w1 ⟨rfl, hb1⟩; replace H0 := (hb1.block _ (lt_heap H0)).trans H0; replace H1 := (hb1.block _ (lt_heap H1)).trans H1; replace hB := below_on hB hb1; clear hb1 xa0 xa1 xa2 fa0 fa1 fa2 xb0 xb1 xb2 fb0 fb1 fb2; obtain ⟨xa0, xa1, xa2, fa0, fa1, fa2⟩ := three_cells H0; obtain ⟨xb0, xb1, xb2, fb0, fb1, fb2⟩ := three_cells H1))
    go_ret
    exact ⟨rfl, hB⟩
set_option maxRecDepth 100000 in
set_option maxHeartbeats 8000000 in
theorem meqf_false_true (A1 A2 A3 A4 : Option Addr) (n1 n2 n3 n4 c1 c2 c3 c4 : Nat) (r1 r2 : Bool) (w : World) (k1 : ∀ W, Below w.heap.size w W → Calls Tryd.prog 86 #[.slice A1 n1 c1, .slice A3 n3 c3] W fun e w' => e = .returned (.bool r1) ∧ Below W.heap.size W w') (k2 : ∀ W, Below w.heap.size w W → Calls Tryd.prog 86 #[.slice A2 n2 c2, .slice A4 n4 c4] W fun e w' => e = .returned (.bool r2) ∧ Below W.heap.size W w') :
    Calls Tryd.prog 52 #[.agg #[.slice A1 n1 c1, .slice A2 n2 c2, .bool false], .agg #[.slice A3 n3 c3, .slice A4 n4 c4, .bool true]] w fun e w' => e = .returned (.bool ((false == true) && (r1 && r2))) ∧ Below w.heap.size w w' := by
  have K1 := Lib.hid k1
  have K2 := Lib.hid k2
  clear k1 k2
  cases r1 <;> cases r2
  all_goals
    go_enter Tryd.func52, Tryd.ntmps52
    go_upto_region 1 with fail
    obtain ⟨H0, H1, hB⟩ := two_laid w (.cells #[.slice A1 n1 c1, .slice A2 n2 c2, .bool false] 56) (.cells #[.slice A3 n3 c3, .slice A4 n4 c4, .bool true] 56)
    generalize (w.alloc (.cells #[.slice A1 n1 c1, .slice A2 n2 c2, .bool false] 56)).alloc (.cells #[.slice A3 n3 c3, .slice A4 n4 c4, .bool true] 56) = W at H0 H1 hB ⊢
    obtain ⟨xa0, xa1, xa2, fa0, fa1, fa2⟩ := three_cells H0; obtain ⟨xb0, xb1, xb2, fb0, fb1, fb2⟩ := three_cells H1
    go_wp2_with (first | (go_at_call 86; (with_reducible refine (K1.out _ hB).mono ?_); rintro e w1 ⟨rfl, hb1⟩; replace H0 := (hb1.block _ (lt_heap H0)).trans H0; replace H1 := (hb1.block _ (lt_heap H1)).trans H1; replace hB := below_on hB hb1; clear hb1 xa0 xa1 xa2 fa0 fa1 fa2 xb0 xb1 xb2 fb0 fb1 fb2; obtain ⟨xa0, xa1, xa2, fa0, fa1, fa2⟩ := three_cells H0; obtain ⟨xb0, xb1, xb2, fb0, fb1, fb2⟩ := three_cells H1) | (go_at_call 86; (with_reducible refine (K2.out _ hB).mono ?_); rintro e w1 ⟨rfl, hb1⟩; replace H0 := (hb1.block _ (lt_heap H0)).trans H0; replace H1 := (hb1.block _ (lt_heap H1)).trans H1; replace hB := below_on hB hb1; clear hb1 xa0 xa1 xa2 fa0 fa1 fa2 xb0 xb1 xb2 fb0 fb1 fb2; obtain ⟨xa0, xa1, xa2, fa0, fa1, fa2⟩ := three_cells H0; obtain ⟨xb0, xb1, xb2, fb0, fb1, fb2⟩ := three_cells H1))
    go_ret
    exact ⟨rfl, hB⟩
set_option maxRecDepth 100000 in
set_option maxHeartbeats 8000000 in
theorem meqf_false_false (A1 A2 A3 A4 : Option Addr) (n1 n2 n3 n4 c1 c2 c3 c4 : Nat) (r1 r2 : Bool) (w : World) (k1 : ∀ W, Below w.heap.size w W → Calls Tryd.prog 86 #[.slice A1 n1 c1, .slice A3 n3 c3] W fun e w' => e = .returned (.bool r1) ∧ Below W.heap.size W w') (k2 : ∀ W, Below w.heap.size w W → Calls Tryd.prog 86 #[.slice A2 n2 c2, .slice A4 n4 c4] W fun e w' => e = .returned (.bool r2) ∧ Below W.heap.size W w') :
    Calls Tryd.prog 52 #[.agg #[.slice A1 n1 c1, .slice A2 n2 c2, .bool false], .agg #[.slice A3 n3 c3, .slice A4 n4 c4, .bool false]] w fun e w' => e = .returned (.bool ((false == false) && (r1 && r2))) ∧ Below w.heap.size w w' := by
  have K1 := Lib.hid k1
  have K2 := Lib.hid k2
  clear k1 k2
  cases r1 <;> cases r2
  all_goals
    go_enter Tryd.func52, Tryd.ntmps52
    go_upto_region 1 with fail
    obtain ⟨H0, H1, hB⟩ := two_laid w (.cells #[.slice A1 n1 c1, .slice A2 n2 c2, .bool false] 56) (.cells #[.slice A3 n3 c3, .slice A4 n4 c4, .bool false] 56)
    generalize (w.alloc (.cells #[.slice A1 n1 c1, .slice A2 n2 c2, .bool false] 56)).alloc (.cells #[.slice A3 n3 c3, .slice A4 n4 c4, .bool false] 56) = W at H0 H1 hB ⊢
    obtain ⟨xa0, xa1, xa2, fa0, fa1, fa2⟩ := three_cells H0; obtain ⟨xb0, xb1, xb2, fb0, fb1, fb2⟩ := three_cells H1
    go_wp2_with (first | (go_at_call 86; (with_reducible refine (K1.out _ hB).mono ?_); rintro e w1 ⟨rfl, hb1⟩; replace H0 := (hb1.block _ (lt_heap H0)).trans H0; replace H1 := (hb1.block _ (lt_heap H1)).trans H1; replace hB := below_on hB hb1; clear hb1 xa0 xa1 xa2 fa0 fa1 fa2 xb0 xb1 xb2 fb0 fb1 fb2; obtain ⟨xa0, xa1, xa2, fa0, fa1, fa2⟩ := three_cells H0; obtain ⟨xb0, xb1, xb2, fb0, fb1, fb2⟩ := three_cells H1) | (go_at_call 86; (with_reducible refine (K2.out _ hB).mono ?_); rintro e w1 ⟨rfl, hb1⟩; replace H0 := (hb1.block _ (lt_heap H0)).trans H0; replace H1 := (hb1.block _ (lt_heap H1)).trans H1; replace hB := below_on hB hb1; clear hb1 xa0 xa1 xa2 fa0 fa1 fa2 xb0 xb1 xb2 fb0 fb1 fb2; obtain ⟨xa0, xa1, xa2, fa0, fa1, fa2⟩ := three_cells H0; obtain ⟨xb0, xb1, xb2, fb0, fb1, fb2⟩ := three_cells H1))
    go_ret
    exact ⟨rfl, hB⟩
theorem meqf (A1 A2 A3 A4 : Option Addr) (n1 n2 n3 n4 c1 c2 c3 c4 : Nat) (u1 u2 r1 r2 : Bool) (w : World) (k1 : ∀ W, Below w.heap.size w W → Calls Tryd.prog 86 #[.slice A1 n1 c1, .slice A3 n3 c3] W fun e w' => e = .returned (.bool r1) ∧ Below W.heap.size W w') (k2 : ∀ W, Below w.heap.size w W → Calls Tryd.prog 86 #[.slice A2 n2 c2, .slice A4 n4 c4] W fun e w' => e = .returned (.bool r2) ∧ Below W.heap.size W w') :
    Calls Tryd.prog 52 #[.agg #[.slice A1 n1 c1, .slice A2 n2 c2, .bool u1], .agg #[.slice A3 n3 c3, .slice A4 n4 c4, .bool u2]] w fun e w' => e = .returned (.bool ((u1 == u2) && (r1 && r2))) ∧ Below w.heap.size w w' := by
  cases u1 <;> cases u2
  · exact meqf_false_false A1 A2 A3 A4 n1 n2 n3 n4 c1 c2 c3 c4 r1 r2 w k1 k2
  · exact meqf_false_true A1 A2 A3 A4 n1 n2 n3 n4 c1 c2 c3 c4 r1 r2 w k1 k2
  · exact meqf_true_false A1 A2 A3 A4 n1 n2 n3 n4 c1 c2 c3 c4 r1 r2 w k1 k2
  · exact meqf_true_true A1 A2 A3 A4 n1 n2 n3 n4 c1 c2 c3 c4 r1 r2 w k1 k2
set_option maxRecDepth 100000 in
set_option maxHeartbeats 8000000 in
theorem reqf_true_true (A1 A2 A3 A4 : Option Addr) (n1 n2 n3 n4 c1 c2 c3 c4 : Nat) (r1 r2 : Bool) (w : World) (k1 : ∀ W, Below w.heap.size w W → Calls Tryd.prog 82 #[.slice A1 n1 c1, .slice A3 n3 c3] W fun e w' => e = .returned (.bool r1) ∧ Below W.heap.size W w') (k2 : ∀ W, Below w.heap.size w W → Calls Tryd.prog 82 #[.slice A2 n2 c2, .slice A4 n4 c4] W fun e w' => e = .returned (.bool r2) ∧ Below W.heap.size W w') :
    Calls Tryd.prog 49 #[.agg #[.slice A1 n1 c1, .slice A2 n2 c2, .bool true], .agg #[.slice A3 n3 c3, .slice A4 n4 c4, .bool true]] w fun e w' => e = .returned (.bool ((true == true) && (r1 && r2))) ∧ Below w.heap.size w w' := by
  have K1 := Lib.hid k1
  have K2 := Lib.hid k2
  clear k1 k2
  cases r1 <;> cases r2
  all_goals
    go_enter Tryd.func49, Tryd.ntmps49
    go_upto_region 1 with fail
    obtain ⟨H0, H1, hB⟩ := two_laid w (.cells #[.slice A1 n1 c1, .slice A2 n2 c2, .bool true] 56) (.cells #[.slice A3 n3 c3, .slice A4 n4 c4, .bool true] 56)
    generalize (w.alloc (.cells #[.slice A1 n1 c1, .slice A2 n2 c2, .bool true] 56)).alloc (.cells #[.slice A3 n3 c3, .slice A4 n4 c4, .bool true] 56) = W at H0 H1 hB ⊢
    obtain ⟨xa0, xa1, xa2, fa0, fa1, fa2⟩ := three_cells H0; obtain ⟨xb0, xb1, xb2, fb0, fb1, fb2⟩ := three_cells H1
    go_wp2_with (first | (go_at_call 82; (with_reducible refine (K1.out _ hB).mono ?_); rintro e w1 ⟨rfl, hb1⟩; replace H0 := (hb1.block _ (lt_heap H0)).trans H0; replace H1 := (hb1.block _ (lt_heap H1)).trans H1; replace hB := below_on hB hb1; clear hb1 xa0 xa1 xa2 fa0 fa1 fa2 xb0 xb1 xb2 fb0 fb1 fb2; obtain ⟨xa0, xa1, xa2, fa0, fa1, fa2⟩ := three_cells H0; obtain ⟨xb0, xb1, xb2, fb0, fb1, fb2⟩ := three_cells H1) | (go_at_call 82; (with_reducible refine (K2.out _ hB).mono ?_); rintro e w1 ⟨rfl, hb1⟩; replace H0 := (hb1.block _ (lt_heap H0)).trans H0; replace H1 := (hb1.block _ (lt_heap H1)).trans H1; replace hB := below_on hB hb1; clear hb1 xa0 xa1 xa2 fa0 fa1 fa2 xb0 xb1 xb2 fb0 fb1 fb2; obtain ⟨xa0, xa1, xa2, fa0, fa1, fa2⟩ := three_cells H0; obtain ⟨xb0, xb1, xb2, fb0, fb1, fb2⟩ := three_cells H1))
    go_ret
    exact ⟨rfl, hB⟩
set_option maxRecDepth 100000 in
set_option maxHeartbeats 8000000 in
theorem reqf_true_false (A1 A2 A3 A4 : Option Addr) (n1 n2 n3 n4 c1 c2 c3 c4 : Nat) (r1 r2 : Bool) (w : World) (k1 : ∀ W, Below w.heap.size w W → Calls Tryd.prog 82 #[.slice A1 n1 c1, .slice A3 n3 c3] W fun e w' => e = .returned (.bool r1) ∧ Below W.heap.size W w') (k2 : ∀ W, Below w.heap.size w W → Calls Tryd.prog 82 #[.slice A2 n2 c2, .slice A4 n4 c4] W fun e w' => e = .returned (.bool r2) ∧ Below W.heap.size W w') :
    Calls Tryd.prog 49 #[.agg #[.slice A1 n1 c1, .slice A2 n2 c2, .bool true], .agg #[.slice A3 n3 c3, .slice A4 n4 c4, .bool false]] w fun e w' => e = .returned (.bool ((true == false) && (r1 && r2))) ∧ Below w.heap.size w w' := by
  have K1 := Lib.hid k1
  have K2 := Lib.hid k2
  clear k1 k2
  cases r1 <;> cases r2
  all_goals
    go_enter Tryd.func49, Tryd.ntmps49
    go_upto_region 1 with fail
    obtain ⟨H0, H1, hB⟩ := two_laid w (.cells #[.slice A1 n1 c1, .slice A2 n2 c2, .bool true] 56) (.cells #[.slice A3 n3 c3, .slice A4 n4 c4, .bool false] 56)
    generalize (w.alloc (.cells #[.slice A1 n1 c1, .slice A2 n2 c2, .bool true] 56)).alloc (.cells #[.slice A3 n3 c3, .slice A4 n4 c4, .bool false] 56) = W at H0 H1 hB ⊢
    obtain ⟨xa0, xa1, xa2, fa0, fa1, fa2⟩ := three_cells H0; obtain ⟨xb0, xb1, xb2, fb0, fb1, fb2⟩ := three_cells H1
    go_wp2_with (first | (go_at_call 82; (with_reducible refine (K1.out _ hB).mono ?_); rintro e w1 ⟨rfl, hb1⟩; replace H0 := (hb1.block _ (lt_heap H0)).trans H0; replace H1 := (hb1.block _ (lt_heap H1)).trans H1; replace hB := below_on hB hb1; clear hb1 xa0 xa1 xa2 fa0 fa1 fa2 xb0 xb1 xb2 fb0 fb1 fb2; obtain ⟨xa0, xa1, xa2, fa0, fa1, fa2⟩ := three_cells H0; obtain ⟨xb0, xb1, xb2, fb0, fb1, fb2⟩ := three_cells H1) | (go_at_call 82; (with_reducible refine (K2.out _ hB).mono ?_); rintro e w1 ⟨rfl, hb1⟩; replace H0 := (hb1.block _ (lt_heap H0)).trans H0; replace H1 := (hb1.block _ (lt_heap H1)).trans H1; replace hB := below_on hB hb1; clear hb1 xa0 xa1 xa2 fa0 fa1 fa2 xb0 xb1 xb2 fb0 fb1 fb2; obtain ⟨xa0, xa1, xa2, fa0, fa1, fa2⟩ := three_cells H0; obtain ⟨xb0, xb1, xb2, fb0, fb1, fb2⟩ := three_cells H1))
    go_ret
    exact ⟨rfl, hB⟩
set_option maxRecDepth 100000 in
set_option maxHeartbeats 8000000 in
theorem reqf_false_true (A1 A2 A3 A4 : Option Addr) (n1 n2 n3 n4 c1 c2 c3 c4 : Nat) (r1 r2 : Bool) (w : World) (k1 : ∀ W, Below w.heap.size w W → Calls Tryd.prog 82 #[.slice A1 n1 c1, .slice A3 n3 c3] W fun e w' => e = .returned (.bool r1) ∧ Below W.heap.size W w') (k2 : ∀ W, Below w.heap.size w W → Calls Tryd.prog 82 #[.slice A2 n2 c2, .slice A4 n4 c4] W fun e w' => e = .returned (.bool r2) ∧ Below W.heap.size W w') :
    Calls Tryd.prog 49 #[.agg #[.slice A1 n1 c1, .slice A2 n2 c2, .bool false], .agg #[.slice A3 n3 c3, .slice A4 n4 c4, .bool true]] w fun e w' => e = .returned (.bool ((false == true) && (r1 && r2))) ∧ Below w.heap.size w w' := by
  have K1 := Lib.hid k1
  have K2 := Lib.hid k2
  clear k1 k2
  cases r1 <;> cases r2
  all_goals
    go_enter Tryd.func49, Tryd.ntmps49
    go_upto_region 1 with fail
    obtain ⟨H0, H1, hB⟩ := two_laid w (.cells #[.slice A1 n1 c1, .slice A2 n2 c2, .bool false] 56) (.cells #[.slice A3 n3 c3, .slice A4 n4 c4, .bool true] 56)
    generalize (w.alloc (.cells #[.slice A1 n1 c1, .slice A2 n2 c2, .bool false] 56)).alloc (.cells #[.slice A3 n3 c3, .slice A4 n4 c4, .bool true] 56) = W at H0 H1 hB ⊢
    obtain ⟨xa0, xa1, xa2, fa0, fa1, fa2⟩ := three_cells H0; obtain ⟨xb0, xb1, xb2, fb0, fb1, fb2⟩ := three_cells H1
    go_wp2_with (first | (go_at_call 82; (with_reducible refine (K1.out _ hB).mono ?_); rintro e w1 ⟨rfl, hb1⟩; replace H0 := (hb1.block _ (lt_heap H0)).trans H0; replace H1 := (hb1.block _ (lt_heap H1)).trans H1; replace hB := below_on hB hb1; clear hb1 xa0 xa1 xa2 fa0 fa1 fa2 xb0 xb1 xb2 fb0 fb1 fb2; obtain ⟨xa0, xa1, xa2, fa0, fa1, fa2⟩ := three_cells H0; obtain ⟨xb0, xb1, xb2, fb0, fb1, fb2⟩ := three_cells H1) | (go_at_call 82; (with_reducible refine (K2.out _ hB).mono ?_); rintro e w1 ⟨rfl, hb1⟩; replace H0 := (hb1.block _ (lt_heap H0)).trans H0; replace H1 := (hb1.block _ (lt_heap H1)).trans H1; replace hB := below_on hB hb1; clear hb1 xa0 xa1 xa2 fa0 fa1 fa2 xb0 xb1 xb2 fb0 fb1 fb2; obtain ⟨xa0, xa1, xa2, fa0, fa1, fa2⟩ := three_cells H0; obtain ⟨xb0, xb1, xb2, fb0, fb1, fb2⟩ := three_cells H1))
    go_ret
    exact ⟨rfl, hB⟩
set_option maxRecDepth 100000 in
set_option maxHeartbeats 8000000 in
theorem reqf_false_false (A1 A2 A3 A4 : Option Addr) (n1 n2 n3 n4 c1 c2 c3 c4 : Nat) (r1 r2 : Bool) (w : World) (k1 : ∀ W, Below w.heap.size w W → Calls Tryd.prog 82 #[.slice A1 n1 c1, .slice A3 n3 c3] W fun e w' => e = .returned (.bool r1) ∧ Below W.heap.size W w') (k2 : ∀ W, Below w.heap.size w W → Calls Tryd.prog 82 #[.slice A2 n2 c2, .slice A4 n4 c4] W fun e w' => e = .returned (.bool r2) ∧ Below W.heap.size W w') :
    Calls Tryd.prog 49 #[.agg #[.slice A1 n1 c1, .slice A2 n2 c2, .bool false], .agg #[.slice A3 n3 c3, .slice A4 n4 c4, .bool false]] w fun e w' => e = .returned (.bool ((false == false) && (r1 && r2))) ∧ Below w.heap.size w w' := by
  have K1 := Lib.hid k1
  have K2 := Lib.hid k2
  clear k1 k2
  cases r1 <;> cases r2
  all_goals
    go_enter Tryd.func49, Tryd.ntmps49
    go_upto_region 1 with fail
    obtain ⟨H0, H1, hB⟩ := two_laid w (.cells #[.slice A1 n1 c1, .slice A2 n2 c2, .bool false] 56) (.cells #[.slice A3 n3 c3, .slice A4 n4 c4, .bool false] 56)
    generalize (w.alloc (.cells #[.slice A1 n1 c1, .slice A2 n2 c2, .bool false] 56)).alloc (.cells #[.slice A3 n3 c3, .slice A4 n4 c4, .bool false] 56) = W at H0 H1 hB ⊢
    obtain ⟨xa0, xa1, xa2, fa0, fa1, fa2⟩ := three_cells H0; obtain ⟨xb0, xb1, xb2, fb0, fb1, fb2⟩ := three_cells H1
    go_wp2_with (first | (go_at_call 82; (with_reducible refine (K1.out _ hB).mono ?_); rintro e w1 ⟨rfl, hb1⟩; replace H0 := (hb1.block _ (lt_heap H0)).trans H0; replace H1 := (hb1.block _ (lt_heap H1)).trans H1; replace hB := below_on hB hb1; clear hb1 xa0 xa1 xa2 fa0 fa1 fa2 xb0 xb1 xb2 fb0 fb1 fb2; obtain ⟨xa0, xa1, xa2, fa0, fa1, fa2⟩ := three_cells H0; obtain ⟨xb0, xb1, xb2, fb0, fb1, fb2⟩ := three_cells H1) | (go_at_call 82; (with_reducible refine (K2.out _ hB).mono ?_); rintro e w1 ⟨rfl, hb1⟩; replace H0 := (hb1.block _ (lt_heap H0)).trans H0; replace H1 := (hb1.block _ (lt_heap H1)).trans H1; replace hB := below_on hB hb1; clear hb1 xa0 xa1 xa2 fa0 fa1 fa2 xb0 xb1 xb2 fb0 fb1 fb2; obtain ⟨xa0, xa1, xa2, fa0, fa1, fa2⟩ := three_cells H0; obtain ⟨xb0, xb1, xb2, fb0, fb1, fb2⟩ := three_cells H1))
    go_ret
    exact ⟨rfl, hB⟩
theorem reqf (A1 A2 A3 A4 : Option Addr) (n1 n2 n3 n4 c1 c2 c3 c4 : Nat) (u1 u2 r1 r2 : Bool) (w : World) (k1 : ∀ W, Below w.heap.size w W → Calls Tryd.prog 82 #[.slice A1 n1 c1, .slice A3 n3 c3] W fun e w' => e = .returned (.bool r1) ∧ Below W.heap.size W w') (k2 : ∀ W, Below w.heap.size w W → Calls Tryd.prog 82 #[.slice A2 n2 c2, .slice A4 n4 c4] W fun e w' => e = .returned (.bool r2) ∧ Below W.heap.size W w') :
    Calls Tryd.prog 49 #[.agg #[.slice A1 n1 c1, .slice A2 n2 c2, .bool u1], .agg #[.slice A3 n3 c3, .slice A4 n4 c4, .bool u2]] w fun e w' => e = .returned (.bool ((u1 == u2) && (r1 && r2))) ∧ Below w.heap.size w w' := by
  cases u1 <;> cases u2
  · exact reqf_false_false A1 A2 A3 A4 n1 n2 n3 n4 c1 c2 c3 c4 r1 r2 w k1 k2
  · exact reqf_false_true A1 A2 A3 A4 n1 n2 n3 n4 c1 c2 c3 c4 r1 r2 w k1 k2
  · exact reqf_true_false A1 A2 A3 A4 n1 n2 n3 n4 c1 c2 c3 c4 r1 r2 w k1 k2
  · exact reqf_true_true A1 A2 A3 A4 n1 n2 n3 n4 c1 c2 c3 c4 r1 r2 w k1 k2
set_option maxRecDepth 100000 in
set_option maxHeartbeats 8000000 in
theorem rasf_true_true (V : Value) (A1 A2 A3 A4 : Option Addr) (n1 n2 n3 n4 c1 c2 c3 c4 : Nat) (r1 r2 : Bool) (w : World) (k1 : ∀ W, Below w.heap.size w W → Calls Tryd.prog 85 #[V, .slice A1 n1 c1, .slice A3 n3 c3] W fun e w' => e = .returned (.bool r1) ∧ Below W.heap.size W w') (k2 : ∀ W, Below w.heap.size w W → Calls Tryd.prog 85 #[V, .slice A2 n2 c2, .slice A4 n4 c4] W fun e w' => e = .returned (.bool r2) ∧ Below W.heap.size W w') :
    Calls Tryd.prog 51 #[V, .agg #[.slice A1 n1 c1, .slice A2 n2 c2, .bool true], .agg #[.slice A3 n3 c3, .slice A4 n4 c4, .bool true]] w fun e w' => e = .returned (.bool ((r1 && r2) && (!true || true))) ∧ Below w.heap.size w w' := by
  have K1 := Lib.hid k1
  have K2 := Lib.hid k2
  clear k1 k2
  cases r1 <;> cases r2
  all_goals
    go_enter Tryd.func51, Tryd.ntmps51
    go_upto_region 1 with fail
    obtain ⟨H0, H1, hB⟩ := two_laid w (.cells #[.slice A1 n1 c1, .slice A2 n2 c2, .bool true] 56) (.cells #[.slice A3 n3 c3, .slice A4 n4 c4, .bool true] 56)
    generalize (w.alloc (.cells #[.slice A1 n1 c1, .slice A2 n2 c2, .bool true] 56)).alloc (.cells #[.slice A3 n3 c3, .slice A4 n4 c4, .bool true] 56) = W at H0 H1 hB ⊢
    obtain ⟨xa0, xa1, xa2, fa0, fa1, fa2⟩ := three_cells H0; obtain ⟨xb0, xb1, xb2, fb0, fb1, fb2⟩ := three_cells H1
    go_wp2_with (first | (go_at_call 85; (with_reducible refine (K1.out _ hB).mono ?_); rintro e w1 ⟨rfl, hb1⟩; replace H0 := (hb1.block _ (lt_heap H0)).trans H0; replace H1 := (hb1.block _ (lt_heap H1)).trans H1; replace hB := below_on hB hb1; clear hb1 xa0 xa1 xa2 fa0 fa1 fa2 xb0 xb1 xb2 fb0 fb1 fb2; obtain ⟨xa0, xa1, xa2, fa0, fa1, fa2⟩ := three_cells H0; obtain ⟨xb0, xb1, xb2, fb0, fb1, fb2⟩ := three_cells H1) | (go_at_call 85; (with_reducible refine (K2.out _ hB).mono ?_); rintro e w1 ⟨rfl, hb1⟩; replace H0 := (hb1.block _ (lt_heap H0)).trans H0; replace H1 := (hb1.block _ (lt_heap H1)).trans H1; replace hB := below_on hB hb1; clear hb1 xa0 xa1 xa2 fa0 fa1 fa2 xb0 xb1 xb2 fb0 fb1 fb2; obtain ⟨xa0, xa1, xa2, fa0, fa1, fa2⟩ := three_cells H0; obtain ⟨xb0, xb1, xb2, fb0, fb1, fb2⟩ := three_cells H1))
    go_ret
    exact ⟨rfl, hB⟩
set_option maxRecDepth 100000 in
set_option maxHeartbeats 8000000 in
theorem rasf_true_false (V : Value) (A1 A2 A3 A4 : Option Addr) (n1 n2 n3 n4 c1 c2 c3 c4 : Nat) (r1 r2 : Bool) (w : World) (k1 : ∀ W, Below w.heap.size w W → Calls Tryd.prog 85 #[V, .slice A1 n1 c1, .slice A3 n3 c3] W fun e w' => e = .returned (.bool r1) ∧ Below W.heap.size W w') (k2 : ∀ W, Below w.heap.size w W → Calls Tryd.prog 85 #[V, .slice A2 n2 c2, .slice A4 n4 c4] W fun e w' => e = .returned (.bool r2) ∧ Below W.heap.size W w') :
    Calls Tryd.prog 51 #[V, .agg #[.slice A1 n1 c1, .slice A2 n2 c2, .bool true], .agg #[.slice A3 n3 c3, .slice A4 n4 c4, .bool false]] w fun e w' => e = .returned (.bool ((r1 && r2) && (!true || false))) ∧ Below w.heap.size w w' := by
  have K1 := Lib.hid k1
  have K2 := Lib.hid k2
  clear k1 k2
  cases r1 <;> cases r2
  all_goals
    go_enter Tryd.func51, Tryd.ntmps51
    go_upto_region 1 with fail
    obtain ⟨H0, H1, hB⟩ := two_laid w (.cells #[.slice A1 n1 c1, .slice A2 n2 c2, .bool true] 56) (.cells #[.slice A3 n3 c3, .slice A4 n4 c4, .bool false] 56)
    generalize (w.alloc (.cells #[.slice A1 n1 c1, .slice A2 n2 c2, .bool true] 56)).alloc (.cells #[.slice A3 n3 c3, .slice A4 n4 c4, .bool false] 56) = W at H0 H1 hB ⊢
    obtain ⟨xa0, xa1, xa2, fa0, fa1, fa2⟩ := three_cells H0; obtain ⟨xb0, xb1, xb2, fb0, fb1, fb2⟩ := three_cells H1
    go_wp2_with (first | (go_at_call 85; (with_reducible refine (K1.out _ hB).mono ?_); rintro e w1 ⟨rfl, hb1⟩; replace H0 := (hb1.block _ (lt_heap H0)).trans H0; replace H1 := (hb1.block _ (lt_heap H1)).trans H1; replace hB := below_on hB hb1; clear hb1 xa0 xa1 xa2 fa0 fa1 fa2 xb0 xb1 xb2 fb0 fb1 fb2; obtain ⟨xa0, xa1, xa2, fa0, fa1, fa2⟩ := three_cells H0; obtain ⟨xb0, xb1, xb2, fb0, fb1, fb2⟩ := three_cells H1) | (go_at_call 85; (with_reducible refine (K2.out _ hB).mono ?_); rintro e w1 ⟨rfl, hb1⟩; replace H0 := (hb1.block _ (lt_heap H0)).trans H0; replace H1 := (hb1.block _ (lt_heap H1)).trans H1; replace hB := below_on hB hb1; clear hb1 xa0 xa1 xa2 fa0 fa1 fa2 xb0 xb1 xb2 fb0 fb1 fb2; obtain ⟨xa0, xa1, xa2, fa0, fa1, fa2⟩ := three_cells H0; obtain ⟨xb0, xb1, xb2, fb0, fb1, fb2⟩ := three_cells H1))
    go_ret
    exact ⟨rfl, hB⟩
set_option maxRecDepth 100000 in
set_option maxHeartbeats 8000000 in
theorem rasf_false_true (V : Value) (A1 A2 A3 A4 : Option Addr) (n1 n2 n3 n4 c1 c2 c3 c4 : Nat) (r1 r2 : Bool) (w : World) (k1 : ∀ W, Below w.heap.size w W → Calls Tryd.prog 85 #[V, .slice A1 n1 c1, .slice A3 n3 c3] W fun e w' => e = .returned (.bool r1) ∧ Below W.heap.size W w') (k2 : ∀ W, Below w.heap.size w W → Calls Tryd.prog 85 #[V, .slice A2 n2 c2, .slice A4 n4 c4] W fun e w' => e = .returned (.bool r2) ∧ Below W.heap.size W w') :
    Calls Tryd.prog 51 #[V, .agg #[.slice A1 n1 c1, .slice A2 n2 c2, .bool false], .agg #[.slice A3 n3 c3, .slice A4 n4 c4, .bool true]] w fun e w' => e = .returned (.bool ((r1 && r2) && (!false || true))) ∧ Below w.heap.size w w' := by
  have K1 := Lib.hid k1
  have K2 := Lib.hid k2
  clear k1 k2
  cases r1 <;> cases r2
  all_goals
    go_enter Tryd.func51, Tryd.ntmps51
    go_upto_region 1 with fail
    obtain ⟨H0, H1, hB⟩ := two_laid w (.cells #[.slice A1 n1 c1, .slice A2 n2 c2, .bool false] 56) (.cells #[.slice A3 n3 c3, .slice A4 n4 c4, .bool true] 56)
    generalize (w.alloc (.cells #[.slice A1 n1 c1, .slice A2 n2 c2, .bool false] 56)).alloc (.cells #[.slice A3 n3 c3, .slice A4 n4 c4, .bool true] 56) = W at H0 H1 hB ⊢
    obtain ⟨xa0, xa1, xa2, fa0, fa1, fa2⟩ := three_cells H0; obtain ⟨xb0, xb1, xb2, fb0, fb1, fb2⟩ := three_cells H1
    go_wp2_with (first | (go_at_call 85; (with_reducible refine (K1.out _ hB).mono ?_); rintro e w1 ⟨rfl, hb1⟩; replace H0 := (hb1.block _ (lt_heap H0)).trans H0; replace H1 := (hb1.block _ (lt_heap H1)).trans H1; replace hB := below_on hB hb1; clear hb1 xa0 xa1 xa2 fa0 fa1 fa2 xb0 xb1 xb2 fb0 fb1 fb2; obtain ⟨xa0, xa1, xa2, fa0, fa1, fa2⟩ := three_cells H0; obtain ⟨xb0, xb1, xb2, fb0, fb1, fb2⟩ := three_cells H1) | (go_at_call 85; (with_reducible refine (K2.out _ hB).mono ?_); rintro e w1 ⟨rfl, hb1⟩; replace H0 := (hb1.block _ (lt_heap H0)).trans H0; replace H1 := (hb1.block _ (lt_heap H1)).trans H1; replace hB := below_on hB hb1; clear hb1 xa0 xa1 xa2 fa0 fa1 fa2 xb0 xb1 xb2 fb0 fb1 fb2; obtain ⟨xa0, xa1, xa2, fa0, fa1, fa2⟩ := three_cells H0; obtain ⟨xb0, xb1, xb2, fb0, fb1, fb2⟩ := three_cells H1))
    go_ret
    exact ⟨rfl, hB⟩
set_option maxRecDepth 100000 in
set_option maxHeartbeats 8000000 in
theorem rasf_false_false (V : Value) (A1 A2 A3 A4 : Option Addr) (n1 n2 n3 n4 c1 c2 c3 c4 : Nat) (r1 r2 : Bool) (w : World) (k1 : ∀ W, Below w.heap.size w W → Calls Tryd.prog 85 #[V, .slice A1 n1 c1, .slice A3 n3 c3] W fun e w' => e = .returned (.bool r1) ∧ Below W.heap.size W w') (k2 : ∀ W, Below w.heap.size w W → Calls Tryd.prog 85 #[V, .slice A2 n2 c2, .slice A4 n4 c4] W fun e w' => e = .returned (.bool r2) ∧ Below W.heap.size W w') :
    Calls Tryd.prog 51 #[V, .agg #[.slice A1 n1 c1, .slice A2 n2 c2, .bool false], .agg #[.slice A3 n3 c3, .slice A4 n4 c4, .bool false]] w fun e w' => e = .returned (.bool ((r1 && r2) && (!false || false))) ∧ Below w.heap.size w w' := by
  have K1 := Lib.hid k1
  have K2 := Lib.hid k2
  clear k1 k2
  cases r1 <;> cases r2
  all_goals
    go_enter Tryd.func51, Tryd.ntmps51
    go_upto_region 1 with fail
    obtain ⟨H0, H1, hB⟩ := two_laid w (.cells #[.slice A1 n1 c1, .slice A2 n2 c2, .bool false] 56) (.cells #[.slice A3 n3 c3, .slice A4 n4 c4, .bool false] 56)
    generalize (w.alloc (.cells #[.slice A1 n1 c1, .slice A2 n2 c2, .bool false] 56)).alloc (.cells #[.slice A3 n3 c3, .slice A4 n4 c4, .bool false] 56) = W at H0 H1 hB ⊢
    obtain ⟨xa0, xa1, xa2, fa0, fa1, fa2⟩ := three_cells H0; obtain ⟨xb0, xb1, xb2, fb0, fb1, fb2⟩ := three_cells H1
    go_wp2_with (first | (go_at_call 85; (with_reducible refine (K1.out _ hB).mono ?_); rintro e w1 ⟨rfl, hb1⟩; replace H0 := (hb1.block _ (lt_heap H0)).trans H0; replace H1 := (hb1.block _ (lt_heap H1)).trans H1; replace hB := below_on hB hb1; clear hb1 xa0 xa1 xa2 fa0 fa1 fa2 xb0 xb1 xb2 fb0 fb1 fb2; obtain ⟨xa0, xa1, xa2, fa0, fa1, fa2⟩ := three_cells H0; obtain ⟨xb0, xb1, xb2, fb0, fb1, fb2⟩ := three_cells H1) | (go_at_call 85; (with_reducible refine (K2.out _ hB).mono ?_); rintro e w1 ⟨rfl, hb1⟩; replace H0 := (hb1.block _ (lt_heap H0)).trans H0; replace H1 := (hb1.block _ (lt_heap H1)).trans H1; replace hB := below_on hB hb1; clear hb1 xa0 xa1 xa2 fa0 fa1 fa2 xb0 xb1 xb2 fb0 fb1 fb2; obtain ⟨xa0, xa1, xa2, fa0, fa1, fa2⟩ := three_cells H0; obtain ⟨xb0, xb1, xb2, fb0, fb1, fb2⟩ := three_cells H1))
    go_ret
    exact ⟨rfl, hB⟩
theorem rasf (V : Value) (A1 A2 A3 A4 : Option Addr) (n1 n2 n3 n4 c1 c2 c3 c4 : Nat) (u1 u2 r1 r2 : Bool) (w : World) (k1 : ∀ W, Below w.heap.size w W → Calls Tryd.prog 85 #[V, .slice A1 n1 c1, .slice A3 n3 c3] W fun e w' => e = .returned (.bool r1) ∧ Below W.heap.size W w') (k2 : ∀ W, Below w.heap.size w W → Calls Tryd.prog 85 #[V, .slice A2 n2 c2, .slice A4 n4 c4] W fun e w' => e = .returned (.bool r2) ∧ Below W.heap.size W w') :
    Calls Tryd.prog 51 #[V, .agg #[.slice A1 n1 c1, .slice A2 n2 c2, .bool u1], .agg #[.slice A3 n3 c3, .slice A4 n4 c4, .bool u2]] w fun e w' => e = .returned (.bool ((r1 && r2) && (!u1 || u2))) ∧ Below w.heap.size w w' := by
  cases u1 <;> cases u2
  · exact rasf_false_false V A1 A2 A3 A4 n1 n2 n3 n4 c1 c2 c3 c4 r1 r2 w k1 k2
  · exact rasf_false_true V A1 A2 A3 A4 n1 n2 n3 n4 c1 c2 c3 c4 r1 r2 w k1 k2
  · exact rasf_true_false V A1 A2 A3 A4 n1 n2 n3 n4 c1 c2 c3 c4 r1 r2 w k1 k2
  · exact rasf_true_true V A1 A2 A3 A4 n1 n2 n3 n4 c1 c2 c3 c4 r1 r2 w k1 k2
set_option maxRecDepth 100000 in
set_option maxHeartbeats 8000000 in
theorem masf_true_true (A : Option Addr) (n c : Nat) (A1 A2 A3 A4 : Option Addr) (n1 n2 n3 n4 c1 c2 c3 c4 : Nat) (r1 r2 : Bool) (w : World) (k1 : ∀ W B, W.cell? ⟨B, 0, none⟩ = some (.slice A n c) → Below w.heap.size w W → Calls Tryd.prog 84 #[.slice A1 n1 c1, .slice A3 n3 c3, .func (.func 83) #[] #[.pointer (some ⟨B, 0, none⟩)]] W fun e w' => e = .returned (.bool r1) ∧ Below W.heap.size W w') (k2 : ∀ W B, W.cell? ⟨B, 0, none⟩ = some (.slice A n c) → Below w.heap.size w W → Calls Tryd.prog 84 #[.slice A2 n2 c2, .slice A4 n4 c4, .func (.func 83) #[] #[.pointer (some ⟨B, 0, none⟩)]] W fun e w' => e = .returned (.bool r2) ∧ Below W.heap.size W w') :
    Calls Tryd.prog 50 #[.slice A n c, .agg #[.slice A1 n1 c1, .slice A2 n2 c2, .bool true], .agg #[.slice A3 n3 c3, .slice A4 n4 c4, .bool true]] w fun e w' => e = .returned (.bool ((r1 && r2) && (!true || true))) ∧ Below w.heap.size w w' := by
  have K1 := Lib.hid k1
  have K2 := Lib.hid k2
  clear k1 k2
  cases r1 <;> cases r2
  all_goals
    go_enter Tryd.func50, Tryd.ntmps50
    go_upto_region 1 with fail
    obtain ⟨H2, H0, H1, hB, hz⟩ := three_laid w (.cells #[.slice A n c] 22) (.cells #[.slice A1 n1 c1, .slice A2 n2 c2, .bool true] 56) (.cells #[.slice A3 n3 c3, .slice A4 n4 c4, .bool true] 56)
    generalize ((w.alloc (.cells #[.slice A n c] 22)).alloc (.cells #[.slice A1 n1 c1, .slice A2 n2 c2, .bool true] 56)).alloc (.cells #[.slice A3 n3 c3, .slice A4 n4 c4, .bool true] 56) = W at H0 H1 H2 hB hz ⊢
    obtain ⟨xa0, xa1, xa2, fa0, fa1, fa2⟩ := three_cells H0; obtain ⟨xb0, xb1, xb2, fb0, fb1, fb2⟩ := three_cells H1
    go_wp2_with (first | (go_at_call 84; (with_reducible refine (K1.out _ _ (cells_one H2) hB).mono ?_); rintro e w1 ⟨rfl, hb1⟩; replace H0 := (hb1.block _ (lt_heap H0)).trans H0; replace H1 := (hb1.block _ (lt_heap H1)).trans H1; replace H2 := (hb1.block _ (lt_heap H2)).trans H2; replace hB := below_on hB hb1; clear hb1 xa0 xa1 xa2 fa0 fa1 fa2 xb0 xb1 xb2 fb0 fb1 fb2; obtain ⟨xa0, xa1, xa2, fa0, fa1, fa2⟩ := three_cells H0; obtain ⟨xb0, xb1, xb2, fb0, fb1, fb2⟩ := three_cells H1) | (go_at_call 84; (with_reducible refine (K2.out _ _ (cells_one H2) hB).mono ?_); rintro e w1 ⟨rfl, hb1⟩; replace H0 := (hb1.block _ (lt_heap H0)).trans H0; replace H1 := (hb1.block _ (lt_heap H1)).trans H1; replace H2 := (hb1.block _ (lt_heap H2)).trans H2; replace hB := below_on hB hb1; clear hb1 xa0 xa1 xa2 fa0 fa1 fa2 xb0 xb1 xb2 fb0 fb1 fb2; obtain ⟨xa0, xa1, xa2, fa0, fa1, fa2⟩ := three_cells H0; obtain ⟨xb0, xb1, xb2, fb0, fb1, fb2⟩ := three_cells H1))
    go_ret
    exact ⟨rfl, hB⟩
set_option maxRecDepth 100000 in
set_option maxHeartbeats 8000000 in
theorem masf_true_false (A : Option Addr) (n c : Nat) (A1 A2 A3 A4 : Option Addr) (n1 n2 n3 n4 c1 c2 c3 c4 : Nat) (r1 r2 : Bool) (w : World) (k1 : ∀ W B, W.cell? ⟨B, 0, none⟩ = some (.slice A n c) → Below w.heap.size w W → Calls Tryd.prog 84 #[.slice A1 n1 c1, .slice A3 n3 c3, .func (.func 83) #[] #[.pointer (some ⟨B, 0, none⟩)]] W fun e w' => e = .returned (.bool r1) ∧ Below W.heap.size W w') (k2 : ∀ W B, W.cell? ⟨B, 0, none⟩ = some (.slice A n c) → Below w.heap.size w W → Calls Tryd.prog 84 #[.slice A2 n2 c2, .slice A4 n4 c4, .func (.func 83) #[] #[.pointer (some ⟨B, 0, none⟩)]] W fun e w' => e = .returned (.bool r2) ∧ Below W.heap.size W w') :
    Calls Tryd.prog 50 #[.slice A n c, .agg #[.slice A1 n1 c1, .slice A2 n2 c2, .bool true], .agg #[.slice A3 n3 c3, .slice A4 n4 c4, .bool false]] w fun e w' => e = .returned (.bool ((r1 && r2) && (!true || false))) ∧ Below w.heap.size w w' := by
  have K1 := Lib.hid k1
  have K2 := Lib.hid k2
  clear k1 k2
  cases r1 <;> cases r2
  all_goals
    go_enter Tryd.func50, Tryd.ntmps50
    go_upto_region 1 with fail
    obtain ⟨H2, H0, H1, hB, hz⟩ := three_laid w (.cells #[.slice A n c] 22) (.cells #[.slice A1 n1 c1, .slice A2 n2 c2, .bool true] 56) (.cells #[.slice A3 n3 c3, .slice A4 n4 c4, .bool false] 56)
    generalize ((w.alloc (.cells #[.slice A n c] 22)).alloc (.cells #[.slice A1 n1 c1, .slice A2 n2 c2, .bool true] 56)).alloc (.cells #[.slice A3 n3 c3, .slice A4 n4 c4, .bool false] 56) = W at H0 H1 H2 hB hz ⊢
    obtain ⟨xa0, xa1, xa2, fa0, fa1, fa2⟩ := three_cells H0; obtain ⟨xb0, xb1, xb2, fb0, fb1, fb2⟩ := three_cells H1
    go_wp2_with (first | (go_at_call 84; (with_reducible refine (K1.out _ _ (cells_one H2) hB).mono ?_); rintro e w1 ⟨rfl, hb1⟩; replace H0 := (hb1.block _ (lt_heap H0)).trans H0; replace H1 := (hb1.block _ (lt_heap H1)).trans H1; replace H2 := (hb1.block _ (lt_heap H2)).trans H2; replace hB := below_on hB hb1; clear hb1 xa0 xa1 xa2 fa0 fa1 fa2 xb0 xb1 xb2 fb0 fb1 fb2; obtain ⟨xa0, xa1, xa2, fa0, fa1, fa2⟩ := three_cells H0; obtain ⟨xb0, xb1, xb2, fb0, fb1, fb2⟩ := three_cells H1) | (go_at_call 84; (with_reducible refine (K2.out _ _ (cells_one H2) hB).mono ?_); rintro e w1 ⟨rfl, hb1⟩; replace H0 := (hb1.block _ (lt_heap H0)).trans H0; replace H1 := (hb1.block _ (lt_heap H1)).trans H1; replace H2 := (hb1.block _ (lt_heap H2)).trans H2; replace hB := below_on hB hb1; clear hb1 xa0 xa1 xa2 fa0 fa1 fa2 xb0 xb1 xb2 fb0 fb1 fb2; obtain ⟨xa0, xa1, xa2, fa0, fa1, fa2⟩ := three_cells H0; obtain ⟨xb0, xb1, xb2, fb0, fb1, fb2⟩ := three_cells H1))
    go_ret
    exact ⟨rfl, hB⟩
set_option maxRecDepth 100000 in
set_option maxHeartbeats 8000000 in
theorem masf_false_true (A : Option Addr) (n c : Nat) (A1 A2 A3 A4 : Option Addr) (n1 n2 n3 n4 c1 c2 c3 c4 : Nat) (r1 r2 : Bool) (w : World) (k1 : ∀ W B, W.cell? ⟨B, 0, none⟩ = some (.slice A n c) → Below w.heap.size w W → Calls Tryd.prog 84 #[.slice A1 n1 c1, .slice A3 n3 c3, .func (.func 83) #[] #[.pointer (some ⟨B, 0, none⟩)]] W fun e w' => e = .returned (.bool r1) ∧ Below W.heap.size W w') (k2 : ∀ W B, W.cell? ⟨B, 0, none⟩ = some (.slice A n c) → Below w.heap.size w W → Calls Tryd.prog 84 #[.slice A2 n2 c2, .slice A4 n4 c4, .func (.func 83) #[] #[.pointer (some ⟨B, 0, none⟩)]] W fun e w' => e = .returned (.bool r2) ∧ Below W.heap.size W w') :
    Calls Tryd.prog 50 #[.slice A n c, .agg #[.slice A1 n1 c1, .slice A2 n2 c2, .bool false], .agg #[.slice A3 n3 c3, .slice A4 n4 c4, .bool true]] w fun e w' => e = .returned (.bool ((r1 && r2) && (!false || true))) ∧ Below w.heap.size w w' := by
  have K1 := Lib.hid k1
  have K2 := Lib.hid k2
  clear k1 k2
  cases r1 <;> cases r2
  all_goals
    go_enter Tryd.func50, Tryd.ntmps50
    go_upto_region 1 with fail
    obtain ⟨H2, H0, H1, hB, hz⟩ := three_laid w (.cells #[.slice A n c] 22) (.cells #[.slice A1 n1 c1, .slice A2 n2 c2, .bool false] 56) (.cells #[.slice A3 n3 c3, .slice A4 n4 c4, .bool true] 56)
    generalize ((w.alloc (.cells #[.slice A n c] 22)).alloc (.cells #[.slice A1 n1 c1, .slice A2 n2 c2, .bool false] 56)).alloc (.cells #[.slice A3 n3 c3, .slice A4 n4 c4, .bool true] 56) = W at H0 H1 H2 hB hz ⊢
    obtain ⟨xa0, xa1, xa2, fa0, fa1, fa2⟩ := three_cells H0; obtain ⟨xb0, xb1, xb2, fb0, fb1, fb2⟩ := three_cells H1
    go_wp2_with (first | (go_at_call 84; (with_reducible refine (K1.out _ _ (cells_one H2) hB).mono ?_); rintro e w1 ⟨rfl, hb1⟩; replace H0 := (hb1.block _ (lt_heap H0)).trans H0; replace H1 := (hb1.block _ (lt_heap H1)).trans H1; replace H2 := (hb1.block _ (lt_heap H2)).trans H2; replace hB := below_on hB hb1; clear hb1 xa0 xa1 xa2 fa0 fa1 fa2 xb0 xb1 xb2 fb0 fb1 fb2; obtain ⟨xa0, xa1, xa2, fa0, fa1, fa2⟩ := three_cells H0; obtain ⟨xb0, xb1, xb2, fb0, fb1, fb2⟩ := three_cells H1) | (go_at_call 84; (with_reducible refine (K2.out _ _ (cells_one H2) hB).mono ?_); rintro e w1 ⟨rfl, hb1⟩; replace H0 := (hb1.block _ (lt_heap H0)).trans H0; replace H1 := (hb1.block _ (lt_heap H1)).trans H1; replace H2 := (hb1.block _ (lt_heap H2)).trans H2; replace hB := below_on hB hb1; clear hb1 xa0 xa1 xa2 fa0 fa1 fa2 xb0 xb1 xb2 fb0 fb1 fb2; obtain ⟨xa0, xa1, xa2, fa0, fa1, fa2⟩ := three_cells H0; obtain ⟨xb0, xb1, xb2, fb0, fb1, fb2⟩ := three_cells H1))
    go_ret
    exact ⟨rfl, hB⟩
set_option maxRecDepth 100000 in
set_option maxHeartbeats 8000000 in
theorem masf_false_false (A : Option Addr) (n c : Nat) (A1 A2 A3 A4 : Option Addr) (n1 n2 n3 n4 c1 c2 c3 c4 : Nat) (r1 r2 : Bool) (w : World) (k1 : ∀ W B, W.cell? ⟨B, 0, none⟩ = some (.slice A n c) → Below w.heap.size w W → Calls Tryd.prog 84 #[.slice A1 n1 c1, .slice A3 n3 c3, .func (.func 83) #[] #[.pointer (some ⟨B, 0, none⟩)]] W fun e w' => e = .returned (.bool r1) ∧ Below W.heap.size W w') (k2 : ∀ W B, W.cell? ⟨B, 0, none⟩ = some (.slice A n c) → Below w.heap.size w W → Calls Tryd.prog 84 #[.slice A2 n2 c2, .slice A4 n4 c4, .func (.func 83) #[] #[.pointer (some ⟨B, 0, none⟩)]] W fun e w' => e = .returned (.bool r2) ∧ Below W.heap.size W w') :
    Calls Tryd.prog 50 #[.slice A n c, .agg #[.slice A1 n1 c1, .slice A2 n2 c2, .bool false], .agg #[.slice A3 n3 c3, .slice A4 n4 c4, .bool false]] w fun e w' => e = .returned (.bool ((r1 && r2) && (!false || false))) ∧ Below w.heap.size w w' := by
  have K1 := Lib.hid k1
  have K2 := Lib.hid k2
  clear k1 k2
  cases r1 <;> cases r2
  all_goals
    go_enter Tryd.func50, Tryd.ntmps50
    go_upto_region 1 with fail
    obtain ⟨H2, H0, H1, hB, hz⟩ := three_laid w (.cells #[.slice A n c] 22) (.cells #[.slice A1 n1 c1, .slice A2 n2 c2, .bool false] 56) (.cells #[.slice A3 n3 c3, .slice A4 n4 c4, .bool false] 56)
    generalize ((w.alloc (.cells #[.slice A n c] 22)).alloc (.cells #[.slice A1 n1 c1, .slice A2 n2 c2, .bool false] 56)).alloc (.cells #[.slice A3 n3 c3, .slice A4 n4 c4, .bool false] 56) = W at H0 H1 H2 hB hz ⊢
    obtain ⟨xa0, xa1, xa2, fa0, fa1, fa2⟩ := three_cells H0; obtain ⟨xb0, xb1, xb2, fb0, fb1, fb2⟩ := three_cells H1
    go_wp2_with (first | (go_at_call 84; (with_reducible refine (K1.out _ _ (cells_one H2) hB).mono ?_); rintro e w1 ⟨rfl, hb1⟩; replace H0 := (hb1.block _ (lt_heap H0)).trans H0; replace H1 := (hb1.block _ (lt_heap H1)).trans H1; replace H2 := (hb1.block _ (lt_heap H2)).trans H2; replace hB := below_on hB hb1; clear hb1 xa0 xa1 xa2 fa0 fa1 fa2 xb0 xb1 xb2 fb0 fb1 fb2; obtain ⟨xa0, xa1, xa2, fa0, fa1, fa2⟩ := three_cells H0; obtain ⟨xb0, xb1, xb2, fb0, fb1, fb2⟩ := three_cells H1) | (go_at_call 84; (with_reducible refine (K2.out _ _ (cells_one H2) hB).mono ?_); rintro e w1 ⟨rfl, hb1⟩; replace H0 := (hb1.block _ (lt_heap H0)).trans H0; replace H1 := (hb1.block _ (lt_heap H1)).trans H1; replace H2 := (hb1.block _ (lt_heap H2)).trans H2; replace hB := below_on hB hb1; clear hb1 xa0 xa1 xa2 fa0 fa1 fa2 xb0 xb1 xb2 fb0 fb1 fb2; obtain ⟨xa0, xa1, xa2, fa0, fa1, fa2⟩ := three_cells H0; obtain ⟨xb0, xb1, xb2, fb0, fb1, fb2⟩ := three_cells H1))
    go_ret
    exact ⟨rfl, hB⟩
theorem masf (A : Option Addr) (n c : Nat) (A1 A2 A3 A4 : Option Addr) (n1 n2 n3 n4 c1 c2 c3 c4 : Nat) (u1 u2 r1 r2 : Bool) (w : World) (k1 : ∀ W B, W.cell? ⟨B, 0, none⟩ = some (.slice A n c) → Below w.heap.size w W → Calls Tryd.prog 84 #[.slice A1 n1 c1, .slice A3 n3 c3, .func (.func 83) #[] #[.pointer (some ⟨B, 0, none⟩)]] W fun e w' => e = .returned (.bool r1) ∧ Below W.heap.size W w') (k2 : ∀ W B, W.cell? ⟨B, 0, none⟩ = some (.slice A n c) → Below w.heap.size w W → Calls Tryd.prog 84 #[.slice A2 n2 c2, .slice A4 n4 c4, .func (.func 83) #[] #[.pointer (some ⟨B, 0, none⟩)]] W fun e w' => e = .returned (.bool r2) ∧ Below W.heap.size W w') :
    Calls Tryd.prog 50 #[.slice A n c, .agg #[.slice A1 n1 c1, .slice A2 n2 c2, .bool u1], .agg #[.slice A3 n3 c3, .slice A4 n4 c4, .bool u2]] w fun e w' => e = .returned (.bool ((r1 && r2) && (!u1 || u2))) ∧ Below w.heap.size w w' := by
  cases u1 <;> cases u2
  · exact masf_false_false A n c A1 A2 A3 A4 n1 n2 n3 n4 c1 c2 c3 c4 r1 r2 w k1 k2
  · exact masf_false_true A n c A1 A2 A3 A4 n1 n2 n3 n4 c1 c2 c3 c4 r1 r2 w k1 k2
  · exact masf_true_false A n c A1 A2 A3 A4 n1 n2 n3 n4 c1 c2 c3 c4 r1 r2 w k1 k2
  · exact masf_true_true A n c A1 A2 A3 A4 n1 n2 n3 n4 c1 c2 c3 c4 r1 r2 w k1 k2
end Go.Proofs.YthifmcnemeiphaaDoor

/- My -/
/- Layer 18: small and right (written by gen/my.py). -/
namespace Go.Proofs.YthifmcnemeiphaaDoor
open Go.ChangeShapes Go.WideShapes Go.ChangeAt Go.RowKit Go.PlainAid Go.Maps
set_option linter.unusedSimpArgs false
set_option linter.unusedVariables false

set_option maxRecDepth 100000 in
set_option maxHeartbeats 4000000 in
theorem smf_any (V : Value) (A1 A2 : Option Addr) (n1 n2 c1 c2 : Nat) (u r : Bool) (w : World) (k1 : ∀ W, Below w.heap.size w W → Calls Tryd.prog 40 #[V] W fun e w' => e = .returned (.bool r) ∧ Below W.heap.size W w') :
    Calls Tryd.prog 46 #[V, .agg #[.slice A1 n1 c1, .slice A2 n2 c2, .bool u]] w fun e w' => e = .returned (.bool (r && (decide (n1 ≤ 40) && decide (n2 ≤ 40)))) ∧ Below w.heap.size w w' := by
  have K1 := Lib.hid k1
  clear k1
  cases r
  all_goals by_cases h1 : n1 ≤ 40
  all_goals by_cases h2 : n2 ≤ 40
  all_goals
    have d1 : decide ((n1 : Int) ≤ 40) = decide (n1 ≤ 40) := by rw [decide_eq_decide]; omega
    have d2 : decide ((n2 : Int) ≤ 40) = decide (n2 ≤ 40) := by rw [decide_eq_decide]; omega
    first | rw [decide_eq_true h1] at d1 ⊢ | rw [decide_eq_false h1] at d1 ⊢
    first | rw [decide_eq_true h2] at d2 ⊢ | rw [decide_eq_false h2] at d2 ⊢
    go_enter Tryd.func46, Tryd.ntmps46
    go_upto_region 1 with fail
    have H0 := World.alloc_heap_new w (.cells #[.slice A1 n1 c1, .slice A2 n2 c2, .bool u] 56)
    have hB := below_al (Below.refl w.heap.size w) (.cells #[.slice A1 n1 c1, .slice A2 n2 c2, .bool u] 56)
    generalize w.alloc (.cells #[.slice A1 n1 c1, .slice A2 n2 c2, .bool u] 56) = W at H0 hB ⊢
    obtain ⟨x0, x1, x2, f0, f1, f2⟩ := three_cells H0
    go_wp2_with (go_at_call 40; (with_reducible refine (K1.out _ hB).mono ?_); rintro e w1 ⟨rfl, hb1⟩; replace H0 := (hb1.block _ (lt_heap H0)).trans H0; replace hB := below_on hB hb1; clear hb1 x0 x1 x2 f0 f1 f2; obtain ⟨x0, x1, x2, f0, f1, f2⟩ := three_cells H0)
    go_ret
    exact ⟨rfl, hB⟩
/-- all elements valid -/
def okV (P : List VT) : Bool := P.all VT.ok
theorem okV_at {P : List VT} {i : Nat} {a : VT} (h : P[i]? = some a) (hk : a.ok = false) : okV P = false := by
  unfold okV
  cases hh : P.all VT.ok with
  | false => rfl
  | true => have := List.all_eq_true.1 hh a (List.mem_of_getElem? h); rw [hk] at this; cases this
theorem okV_all {P : List VT} (h : ∀ (j : Nat) (a : VT), P[j]? = some a → a.ok = true) : okV P = true :=
  List.all_eq_true.2 fun x hx => by
    obtain ⟨j, hj, rfl⟩ := List.getElem_of_mem hx
    exact h j _ (List.getElem?_eq_getElem hj)
set_option maxRecDepth 100000 in
set_option maxHeartbeats 8000000 in
theorem rgt_any (A1 A2 : Option Addr) (n1 n2 c1 c2 : Nat) (u : Bool) (P Q : List VT) (w : World) (hm : n1 ≤ 9223372036854775807) (hm2 : n2 ≤ 9223372036854775807) (hP : VS w w.heap.size A1 P) (hQ : VS w w.heap.size A2 Q) (lP : P.length = n1) (lQ : Q.length = n2) (k1 : n1 ≤ c1) (k2 : n2 ≤ c2) :
    Calls Tryd.prog 53 #[.agg #[.slice A1 n1 c1, .slice A2 n2 c2, .bool u]] w fun e w' => e = .returned (.bool (okV P && okV Q)) ∧ Below w.heap.size w w' := by
  have HP := Lib.hid hP
  have HQ := Lib.hid hQ
  have HLP := Lib.hid lP
  have HLQ := Lib.hid lQ
  clear hP hQ lP lQ
  go_enter Tryd.func53, Tryd.ntmps53
  go_upto_region 1 with fail
  have H0 := Lib.hid (World.alloc_heap_new w (.cells #[.slice A1 n1 c1, .slice A2 n2 c2, .bool u] 56))
  have hB := Lib.hid (below_al (Below.refl w.heap.size w) (.cells #[.slice A1 n1 c1, .slice A2 n2 c2, .bool u] 56))
  generalize w.alloc (.cells #[.slice A1 n1 c1, .slice A2 n2 c2, .bool u] 56) = W at H0 hB ⊢
  go_wp2
  go_loopw [3] (fun iv wr => ∃ i : Nat, iv = .int .i64 i ∧ i ≤ n1 ∧ Hid (wr.heap[w.heap.size]? = some (.cells #[.slice A1 n1 c1, .slice A2 n2 c2, .bool u] 56)) ∧ Hid (Below w.heap.size w wr) ∧ Hid (∀ (j : Nat) (a : VT), j < i → P[j]? = some a → a.ok = true)) (fun iv _ => n1 - (intOf iv).toNat)
  case atStart => exact ⟨0, rfl, Nat.zero_le _, H0, hB, Lib.hid fun j a h => absurd h (Nat.not_lt_zero _)⟩
  case round =>
    obtain ⟨i, rfl, him, HX, HB, HG⟩ := hrel
    clear H0 hB
    obtain ⟨x0, x1, x2, f0, f1, f2⟩ := three_cells HX.out
    by_cases hlt : i < n1
    · obtain ⟨a, ha⟩ : ∃ a, P[i]? = some a := ⟨_, List.getElem?_eq_getElem (by rw [HLP.out]; exact hlt)⟩
      have has := HP.out.2 a (List.mem_of_getElem? ha)
      obtain ⟨g1, o1, rfl, hg1, p0, p1, p2, p3, p4, p5⟩ := HP.out.six ha
      have P0 := (HB.out.cell (p := ⟨g1, o1 + i * 6, none⟩) hg1).trans p0
      have P1 := (HB.out.cell (p := ⟨g1, o1 + i * 6 + 1, none⟩) hg1).trans p1
      have P2 := (HB.out.cell (p := ⟨g1, o1 + i * 6 + 2, none⟩) hg1).trans p2
      have P3 := (HB.out.cell (p := ⟨g1, o1 + i * 6 + 3, none⟩) hg1).trans p3
      have P4 := (HB.out.cell (p := ⟨g1, o1 + i * 6 + 4, none⟩) hg1).trans p4
      have P5 := (HB.out.cell (p := ⟨g1, o1 + i * 6 + 5, none⟩) hg1).trans p5
      clear p0 p1 p2 p3 p4 p5
      have hc1 : i < c1 := by omega
      have HKV := Lib.hid (fun (W : World) => rvvalid_any a.k a.n a.d a.b a.s a.p has W)
      cases hE : a.ok with
      | true =>
        have HGN := Lib.hid (show ∀ (j : Nat) (a : VT), j < i + 1 → P[j]? = some a → a.ok = true from fun j x hj hx => by
          rcases Nat.lt_or_ge j i with h | h
          · exact HG.out j x h hx
          · obtain rfl : j = i := by omega
            rw [ha] at hx
            rw [← Option.some.inj hx]; exact hE)
        rw [show vvB a.k a.n a.d a.b a.s a.p = true from hE] at HKV
        clear ha
        go_wp2_with (go_at_call 34; (with_reducible refine (HKV.out _).mono ?_); rintro e w1 ⟨rfl, hb1⟩; have HX1 := Lib.hid ((hb1.block _ (lt_heap HX.out)).trans HX.out); have HB1 := Lib.hid (below_on HB.out hb1); clear hb1 x0 x1 x2 f0 f1 f2 P0 P1 P2 P3 P4 P5)
        go_roundw
        case rel => exact ⟨i + 1, by go_num, by omega, HX1, HB1, HGN⟩
        case measure => simp [intOf]; omega
      | false =>
        have HR := Lib.hid (okV_at ha hE)
        rw [show vvB a.k a.n a.d a.b a.s a.p = false from hE] at HKV
        clear ha
        go_wp2_with (go_at_call 34; (with_reducible refine (HKV.out _).mono ?_); rintro e w1 ⟨rfl, hb1⟩; have HB1 := Lib.hid (below_on HB.out hb1); clear hb1 x0 x1 x2 f0 f1 f2 P0 P1 P2 P3 P4 P5)
        go_ret
        exact ⟨ret_bool (by rw [HR.out]; rfl), HB1.out⟩
    · obtain rfl : n1 = i := by omega
      have HOK := Lib.hid (okV_all (P := P) fun j a ha => HG.out j a (by have := lt_of_some ha; rw [HLP.out] at this; exact this) ha)
      clear HG him hlt
      have HX0 := HX
      have HB0 := HB
      go_wp2
      clear HX HB x0 x1 x2 f0 f1 f2
      go_loopw [4] (fun iv wr => ∃ i : Nat, iv = .int .i64 i ∧ i ≤ n2 ∧ Hid (wr.heap[w.heap.size]? = some (.cells #[.slice A1 n1 c1, .slice A2 n2 c2, .bool u] 56)) ∧ Hid (Below w.heap.size w wr) ∧ Hid (∀ (j : Nat) (a : VT), j < i → Q[j]? = some a → a.ok = true)) (fun iv _ => n2 - (intOf iv).toNat)
      case atStart => exact ⟨0, rfl, Nat.zero_le _, HX0, HB0, Lib.hid fun j a h => absurd h (Nat.not_lt_zero _)⟩
      case round =>
        obtain ⟨i, rfl, him, HX, HB, HG⟩ := hrel
        clear HX0 HB0
        obtain ⟨x0, x1, x2, f0, f1, f2⟩ := three_cells HX.out
        by_cases hlt : i < n2
        · obtain ⟨a, ha⟩ : ∃ a, Q[i]? = some a := ⟨_, List.getElem?_eq_getElem (by rw [HLQ.out]; exact hlt)⟩
          have has := HQ.out.2 a (List.mem_of_getElem? ha)
          obtain ⟨g1, o1, rfl, hg1, p0, p1, p2, p3, p4, p5⟩ := HQ.out.six ha
          have P0 := (HB.out.cell (p := ⟨g1, o1 + i * 6, none⟩) hg1).trans p0
          have P1 := (HB.out.cell (p := ⟨g1, o1 + i * 6 + 1, none⟩) hg1).trans p1
          have P2 := (HB.out.cell (p := ⟨g1, o1 + i * 6 + 2, none⟩) hg1).trans p2
          have P3 := (HB.out.cell (p := ⟨g1, o1 + i * 6 + 3, none⟩) hg1).trans p3
          have P4 := (HB.out.cell (p := ⟨g1, o1 + i * 6 + 4, none⟩) hg1).trans p4
          have P5 := (HB.out.cell (p := ⟨g1, o1 + i * 6 + 5, none⟩) hg1).trans p5
          clear p0 p1 p2 p3 p4 p5
          have hc1 : i < c2 := by omega
          have HKV := Lib.hid (fun (W : World) => rvvalid_any a.k a.n a.d a.b a.s a.p has W)
          cases hE : a.ok with
          | true =>
            have HGN := Lib.hid (show ∀ (j : Nat) (a : VT), j < i + 1 → Q[j]? = some a → a.ok = true from fun j x hj hx => by
              rcases Nat.lt_or_ge j i with h | h
              · exact HG.out j x h hx
              · obtain rfl : j = i := by omega
                rw [ha] at hx
                rw [← Option.some.inj hx]; exact hE)
            rw [show vvB a.k a.n a.d a.b a.s a.p = true from hE] at HKV
            clear ha
            go_wp2_with (go_at_call 34; (with_reducible refine (HKV.out _).mono ?_); rintro e w1 ⟨rfl, hb1⟩; have HX1 := Lib.hid ((hb1.block _ (lt_heap HX.out)).trans HX.out); have HB1 := Lib.hid (below_on HB.out hb1); clear hb1 x0 x1 x2 f0 f1 f2 P0 P1 P2 P3 P4 P5)
            go_roundw
            case rel => exact ⟨i + 1, by go_num, by omega, HX1, HB1, HGN⟩
            case measure => simp [intOf]; omega
          | false =>
            have HR := Lib.hid (okV_at ha hE)
            rw [show vvB a.k a.n a.d a.b a.s a.p = false from hE] at HKV
            clear ha
            go_wp2_with (go_at_call 34; (with_reducible refine (HKV.out _).mono ?_); rintro e w1 ⟨rfl, hb1⟩; have HB1 := Lib.hid (below_on HB.out hb1); clear hb1 x0 x1 x2 f0 f1 f2 P0 P1 P2 P3 P4 P5)
            go_ret
            exact ⟨ret_bool (by rw [HOK.out, HR.out]; rfl), HB1.out⟩
        · obtain rfl : i = n2 := by omega
          have HOK2 := Lib.hid (okV_all (P := Q) fun j a ha => HG.out j a (by have := lt_of_some ha; rw [HLQ.out] at this; exact this) ha)
          go_wp2
          go_ret
          exact ⟨ret_bool (by rw [HOK.out, HOK2.out]; rfl), HB.out⟩
end Go.Proofs.YthifmcnemeiphaaDoor

/- Mz -/
/- Layer 18: frames in memory, and what each function answers about them. -/
namespace Go.Proofs.YthifmcnemeiphaaDoor
open Go.ChangeShapes Go.WideShapes Go.ChangeAt Go.RowKit Go.PlainAid Go.Maps
set_option linter.unusedSimpArgs false
set_option linter.unusedVariables false

/-- a frame: its two rows and their elements -/
structure FM where
  A1 : Option Addr
  n1 : Nat
  c1 : Nat
  A2 : Option Addr
  n2 : Nat
  c2 : Nat
  u : Bool
  P : List VT
  Q : List VT
structure FM.ok (w : World) (f : FM) : Prop where
  vp : VS w w.heap.size f.A1 f.P
  vq : VS w w.heap.size f.A2 f.Q
  lp : f.P.length = f.n1
  lq : f.Q.length = f.n2
  l1 : f.n1 ≤ f.c1
  x1 : f.c1 ≤ 9223372036854775807
  l2 : f.n2 ≤ f.c2
  x2 : f.c2 ≤ 9223372036854775807
theorem FM.ok.up {w w' : World} {f : FM} (h : FM.ok w f) (hb : Below w.heap.size w w') : FM.ok w' f := ⟨h.vp.up hb, h.vq.up hb, h.lp, h.lq, h.l1, h.x1, h.l2, h.x2⟩
def fmZ : FM := ⟨none, 0, 0, none, 0, 0, false, [], []⟩
theorem fmZ_ok (w : World) : FM.ok w fmZ := ⟨⟨Or.inl rfl, fun v h => by cases h⟩, ⟨Or.inl rfl, fun v h => by cases h⟩, rfl, rfl, Nat.le_refl _, by decide, Nat.le_refl _, by decide⟩
noncomputable def eqM (f g : FM) : Bool := (f.u == g.u) && (allB vtE f.P g.P && allB vtE f.Q g.Q)
noncomputable def asM (L : List CI) (f g : FM) : Bool := (allB (asB L) f.P g.P && allB (asB L) f.Q g.Q) && (!f.u || g.u)
def smM (r : Bool) (f : FM) : Bool := r && (decide (f.n1 ≤ 40) && decide (f.n2 ≤ 40))
def rgM (f : FM) : Bool := okV f.P && okV f.Q
def shape (f g : FM) : Prop := f.n1 = g.n1 ∧ f.n2 = g.n2
theorem meqM (f g : FM) (w : World) (hf : f.ok w) (hg : g.ok w) : Calls Tryd.prog 52 #[(Value.agg #[Value.slice (FM.A1 f) (FM.n1 f) (FM.c1 f), Value.slice (FM.A2 f) (FM.n2 f) (FM.c2 f), Value.bool (FM.u f)]), (Value.agg #[Value.slice (FM.A1 g) (FM.n1 g) (FM.c1 g), Value.slice (FM.A2 g) (FM.n2 g) (FM.c2 g), Value.bool (FM.u g)])] w fun e w' => e = .returned (.bool (eqM f g)) ∧ Below w.heap.size w w' :=
  meqf f.A1 f.A2 g.A1 g.A2 f.n1 f.n2 g.n1 g.n2 f.c1 f.c2 g.c1 g.c2 f.u g.u _ _ w
    (fun W hW => eql_any f.A1 g.A1 f.n1 f.c1 g.n1 g.c1 f.P g.P W (Nat.le_trans hf.l1 hf.x1) (hf.up hW).vp (hg.up hW).vp hf.lp hg.lp hf.l1 hg.l1)
    (fun W hW => eql_any f.A2 g.A2 f.n2 f.c2 g.n2 g.c2 f.Q g.Q W (Nat.le_trans hf.l2 hf.x2) (hf.up hW).vq (hg.up hW).vq hf.lq hg.lq hf.l2 hg.l2)
theorem reqM (f g : FM) (w : World) (hf : f.ok w) (hg : g.ok w) : Calls Tryd.prog 49 #[(Value.agg #[Value.slice (FM.A1 f) (FM.n1 f) (FM.c1 f), Value.slice (FM.A2 f) (FM.n2 f) (FM.c2 f), Value.bool (FM.u f)]), (Value.agg #[Value.slice (FM.A1 g) (FM.n1 g) (FM.c1 g), Value.slice (FM.A2 g) (FM.n2 g) (FM.c2 g), Value.bool (FM.u g)])] w fun e w' => e = .returned (.bool (eqM f g)) ∧ Below w.heap.size w w' :=
  reqf f.A1 f.A2 g.A1 g.A2 f.n1 f.n2 g.n1 g.n2 f.c1 f.c2 g.c1 g.c2 f.u g.u _ _ w
    (fun W hW => alike_any f.A1 g.A1 f.n1 f.c1 g.n1 g.c1 f.P g.P W (Nat.le_trans hf.l1 hf.x1) (hf.up hW).vp (hg.up hW).vp hf.lp hg.lp hf.l1 hg.l1)
    (fun W hW => alike_any f.A2 g.A2 f.n2 f.c2 g.n2 g.c2 f.Q g.Q W (Nat.le_trans hf.l2 hf.x2) (hf.up hW).vq (hg.up hW).vq hf.lq hg.lq hf.l2 hg.l2)
theorem masM (A : Option Addr) (n c : Nat) (L : List CI) (f g : FM) (w : World) (hn : L.length = n) (hc : n ≤ 1000000) (h : CIs w w.heap.size A L) (hf : f.ok w) (hg : g.ok w) : Calls Tryd.prog 50 #[.slice A n c, (Value.agg #[Value.slice (FM.A1 f) (FM.n1 f) (FM.c1 f), Value.slice (FM.A2 f) (FM.n2 f) (FM.c2 f), Value.bool (FM.u f)]), (Value.agg #[Value.slice (FM.A1 g) (FM.n1 g) (FM.c1 g), Value.slice (FM.A2 g) (FM.n2 g) (FM.c2 g), Value.bool (FM.u g)])] w fun e w' => e = .returned (.bool (asM L f g)) ∧ Below w.heap.size w w' :=
  masf A n c f.A1 f.A2 g.A1 g.A2 f.n1 f.n2 g.n1 g.n2 f.c1 f.c2 g.c1 g.c2 f.u g.u _ _ w
    (fun W B hB hW => eqf_any A n c L B f.A1 g.A1 f.n1 f.c1 g.n1 g.c1 f.P g.P W hB hn hc (h.up hW) (Nat.le_trans hf.l1 hf.x1) (hf.up hW).vp (hg.up hW).vp hf.lp hg.lp hf.l1 hg.l1)
    (fun W B hB hW => eqf_any A n c L B f.A2 g.A2 f.n2 f.c2 g.n2 g.c2 f.Q g.Q W hB hn hc (h.up hW) (Nat.le_trans hf.l2 hf.x2) (hf.up hW).vq (hg.up hW).vq hf.lq hg.lq hf.l2 hg.l2)
theorem rasM (A : Option Addr) (n c : Nat) (L : List CI) (f g : FM) (w : World) (hn : L.length = n) (hc : n ≤ 1000000) (hs : Mid L) (hv : VH L) (h : CIs w w.heap.size A L) (hf : f.ok w) (hg : g.ok w) : Calls Tryd.prog 51 #[.slice A n c, (Value.agg #[Value.slice (FM.A1 f) (FM.n1 f) (FM.c1 f), Value.slice (FM.A2 f) (FM.n2 f) (FM.c2 f), Value.bool (FM.u f)]), (Value.agg #[Value.slice (FM.A1 g) (FM.n1 g) (FM.c1 g), Value.slice (FM.A2 g) (FM.n2 g) (FM.c2 g), Value.bool (FM.u g)])] w fun e w' => e = .returned (.bool (asM L f g)) ∧ Below w.heap.size w w' :=
  rasf (.slice A n c) f.A1 f.A2 g.A1 g.A2 f.n1 f.n2 g.n1 g.n2 f.c1 f.c2 g.c1 g.c2 f.u g.u _ _ w
    (fun W hW => fit_any A n c L f.A1 g.A1 f.n1 f.c1 g.n1 g.c1 f.P g.P W hn hc hs hv (h.up hW) (Nat.le_trans hf.l1 hf.x1) (hf.up hW).vp (hg.up hW).vp hf.lp hg.lp hf.l1 hg.l1)
    (fun W hW => fit_any A n c L f.A2 g.A2 f.n2 f.c2 g.n2 g.c2 f.Q g.Q W hn hc hs hv (h.up hW) (Nat.le_trans hf.l2 hf.x2) (hf.up hW).vq (hg.up hW).vq hf.lq hg.lq hf.l2 hg.l2)
theorem smM_any (A : Option Addr) (n c : Nat) (L : List CI) (f : FM) (w : World) (hn : L.length = n) (hcap : n ≤ c) (hcm : c ≤ 9223372036854775807) (hM : (names L).length ≤ 2000000) (h : CIs w w.heap.size A L) : Calls Tryd.prog 46 #[.slice A n c, (Value.agg #[Value.slice (FM.A1 f) (FM.n1 f) (FM.c1 f), Value.slice (FM.A2 f) (FM.n2 f) (FM.c2 f), Value.bool (FM.u f)])] w fun e w' => e = .returned (.bool (smM (accB L) f)) ∧ Below w.heap.size w w' :=
  smf_any (.slice A n c) f.A1 f.A2 f.n1 f.n2 f.c1 f.c2 f.u _ w (fun W hW => acc_any A n c L W hn hcap hcm hM (h.up hW))
theorem rgM_any (f : FM) (w : World) (hf : f.ok w) : Calls Tryd.prog 53 #[(Value.agg #[Value.slice (FM.A1 f) (FM.n1 f) (FM.c1 f), Value.slice (FM.A2 f) (FM.n2 f) (FM.c2 f), Value.bool (FM.u f)])] w fun e w' => e = .returned (.bool (rgM f)) ∧ Below w.heap.size w w' :=
  rgt_any f.A1 f.A2 f.n1 f.n2 f.c1 f.c2 f.u f.P f.Q w (Nat.le_trans hf.l1 hf.x1) (Nat.le_trans hf.l2 hf.x2) hf.vp hf.vq hf.lp hf.lq hf.l1 hf.l2
/-- the join of two frames of one shape -/
def isJn (L : List CI) (f g h : FM) : Prop := h.P = jnL L f.P g.P ∧ h.Q = jnL L f.Q g.Q ∧ h.u = (f.u || g.u) ∧ h.n1 = f.n1 ∧ h.n2 = f.n2
theorem frs_ret {J1 J2 : List VT} {m1 m2 : Nat} {u : Bool} {w : World} {e : Ending} {w' : World} (h : FrsRet J1 J2 m1 m2 u w e w') : ∃ f : FM, e = .returned (.tuple #[(Value.agg #[Value.slice (FM.A1 f) (FM.n1 f) (FM.c1 f), Value.slice (FM.A2 f) (FM.n2 f) (FM.c2 f), Value.bool (FM.u f)]), .int .i64 0]) ∧ f.ok w' ∧ f.P = J1 ∧ f.Q = J2 ∧ f.u = u ∧ f.n1 = m1 ∧ f.n2 = m2 ∧ Below w.heap.size w w' := by
  obtain ⟨A1, c1, A2, c2, rfl, h1, h2, hb⟩ := h
  exact ⟨⟨A1, m1, c1, A2, m2, c2, u, J1, J2⟩, rfl, ⟨h1.vs, h2.vs, h1.len, h2.len, h1.le, h1.mx, h2.le, h2.mx⟩, rfl, rfl, rfl, rfl, rfl, hb⟩
theorem mfrM (A : Option Addr) (n c : Nat) (L : List CI) (f g : FM) (w : World) (hn : L.length = n) (hc : n ≤ 1000000) (hv : VH L) (h : CIs w w.heap.size A L) (hf : f.ok w) (hg : g.ok w) (hm1 : f.n1 ≤ 1000) (hm2 : f.n2 ≤ 1000) (hsh : shape f g) :
    Calls Tryd.prog 47 #[.slice A n c, (Value.agg #[Value.slice (FM.A1 f) (FM.n1 f) (FM.c1 f), Value.slice (FM.A2 f) (FM.n2 f) (FM.c2 f), Value.bool (FM.u f)]), (Value.agg #[Value.slice (FM.A1 g) (FM.n1 g) (FM.c1 g), Value.slice (FM.A2 g) (FM.n2 g) (FM.c2 g), Value.bool (FM.u g)])] w fun e w' => ∃ h : FM, e = .returned (.tuple #[(Value.agg #[Value.slice (FM.A1 h) (FM.n1 h) (FM.c1 h), Value.slice (FM.A2 h) (FM.n2 h) (FM.c2 h), Value.bool (FM.u h)]), .int .i64 0]) ∧ h.ok w' ∧ isJn L f g h ∧ Below w.heap.size w w' := by
  obtain ⟨fA1, fn1, fc1, fA2, fn2, fc2, fu, fP, fQ⟩ := f
  obtain ⟨gA1, gn1, gc1, gA2, gn2, gc2, gu, gP, gQ⟩ := g
  obtain ⟨e1, e2⟩ := hsh
  simp only at e1 e2 hm1 hm2
  subst e1 e2
  have k1 := fun (W : World) (hW : Below w.heap.size w W) => jn_ret A n c L fA1 gA1 fn1 fc1 gc1 fP gP W hn hc hv (h.up hW) hm1 (hf.up hW).vp (hg.up hW).vp hf.lp hg.lp hf.l1 hg.l1
  have k2 := fun (W : World) (hW : Below w.heap.size w W) => jn_ret A n c L fA2 gA2 fn2 fc2 gc2 fQ gQ W hn hc hv (h.up hW) hm2 (hf.up hW).vq (hg.up hW).vq hf.lq hg.lq hf.l2 hg.l2
  cases fu with
  | true =>
    refine (mfs_true _ fA1 fA2 gA1 gA2 fn1 fn2 fc1 fc2 gc1 gc2 gu _ _ w k1 k2).mono fun e w' h => ?_
    obtain ⟨q, e1, e2, e3, e4, e5, e6, e7, e8⟩ := frs_ret h
    exact ⟨q, e1, e2, ⟨e3, e4, e5.trans (Bool.true_or _).symm, e6, e7⟩, e8⟩
  | false =>
    refine (mfs_false _ fA1 fA2 gA1 gA2 fn1 fn2 fc1 fc2 gc1 gc2 gu _ _ w k1 k2).mono fun e w' h => ?_
    obtain ⟨q, e1, e2, e3, e4, e5, e6, e7, e8⟩ := frs_ret h
    exact ⟨q, e1, e2, ⟨e3, e4, e5.trans (Bool.false_or _).symm, e6, e7⟩, e8⟩
theorem rfrM (A : Option Addr) (n c : Nat) (L : List CI) (f g : FM) (w : World) (hn : L.length = n) (hc : n ≤ 1000000) (hv : VH L) (h : CIs w w.heap.size A L) (hf : f.ok w) (hg : g.ok w) (hm1 : f.n1 ≤ 1000) (hm2 : f.n2 ≤ 1000) (hsh : shape f g) :
    Calls Tryd.prog 48 #[.slice A n c, (Value.agg #[Value.slice (FM.A1 f) (FM.n1 f) (FM.c1 f), Value.slice (FM.A2 f) (FM.n2 f) (FM.c2 f), Value.bool (FM.u f)]), (Value.agg #[Value.slice (FM.A1 g) (FM.n1 g) (FM.c1 g), Value.slice (FM.A2 g) (FM.n2 g) (FM.c2 g), Value.bool (FM.u g)])] w fun e w' => ∃ h : FM, e = .returned (.tuple #[(Value.agg #[Value.slice (FM.A1 h) (FM.n1 h) (FM.c1 h), Value.slice (FM.A2 h) (FM.n2 h) (FM.c2 h), Value.bool (FM.u h)]), .int .i64 0]) ∧ h.ok w' ∧ isJn L f g h ∧ Below w.heap.size w w' := by
  obtain ⟨fA1, fn1, fc1, fA2, fn2, fc2, fu, fP, fQ⟩ := f
  obtain ⟨gA1, gn1, gc1, gA2, gn2, gc2, gu, gP, gQ⟩ := g
  obtain ⟨e1, e2⟩ := hsh
  simp only at e1 e2 hm1 hm2
  subst e1 e2
  have k1 := fun (W : World) (hW : Below w.heap.size w W) => all_ret A n c L fA1 gA1 fn1 fc1 gc1 fP gP W hn hc hv (h.up hW) hm1 (hf.up hW).vp (hg.up hW).vp hf.lp hg.lp hf.l1 hg.l1
  have k2 := fun (W : World) (hW : Below w.heap.size w W) => all_ret A n c L fA2 gA2 fn2 fc2 gc2 fQ gQ W hn hc hv (h.up hW) hm2 (hf.up hW).vq (hg.up hW).vq hf.lq hg.lq hf.l2 hg.l2
  cases fu with
  | true =>
    refine (rfs_true _ fA1 fA2 gA1 gA2 fn1 fn2 fc1 fc2 gc1 gc2 gu _ _ w k1 k2).mono fun e w' h => ?_
    obtain ⟨q, e1, e2, e3, e4, e5, e6, e7, e8⟩ := frs_ret h
    exact ⟨q, e1, e2, ⟨e3, e4, e5.trans (Bool.true_or _).symm, e6, e7⟩, e8⟩
  | false =>
    refine (rfs_false _ fA1 fA2 gA1 gA2 fn1 fn2 fc1 fc2 gc1 gc2 gu _ _ w k1 k2).mono fun e w' h => ?_
    obtain ⟨q, e1, e2, e3, e4, e5, e6, e7, e8⟩ := frs_ret h
    exact ⟨q, e1, e2, ⟨e3, e4, e5.trans (Bool.false_or _).symm, e6, e7⟩, e8⟩
theorem unshape {f g : FM} (h : ¬ shape f g) : ((f.n1 : Int) != g.n1) = true ∨ (((f.n1 : Int) != g.n1) = false ∧ ((f.n2 : Int) != g.n2) = true) := by
  by_cases h1 : f.n1 = g.n1
  · right
    have h2 : ¬ f.n2 = g.n2 := fun e => h ⟨h1, e⟩
    refine ⟨?_, ?_⟩
    · rw [bne_eq_false_iff_eq]; omega
    · rw [bne_iff_ne]; omega
  · left; rw [bne_iff_ne]; omega
theorem mfrB (V : Value) (f g : FM) (w : World) (h : ¬ shape f g) : Calls Tryd.prog 47 #[V, (Value.agg #[Value.slice (FM.A1 f) (FM.n1 f) (FM.c1 f), Value.slice (FM.A2 f) (FM.n2 f) (FM.c2 f), Value.bool (FM.u f)]), (Value.agg #[Value.slice (FM.A1 g) (FM.n1 g) (FM.c1 g), Value.slice (FM.A2 g) (FM.n2 g) (FM.c2 g), Value.bool (FM.u g)])] w fun e w' => e = .returned (.tuple #[frZ, .int .i64 23]) ∧ Below w.heap.size w w' :=
  mfr_bad V f.A1 f.A2 g.A1 g.A2 f.n1 f.n2 g.n1 g.n2 f.c1 f.c2 g.c1 g.c2 f.u g.u w (unshape h)
theorem rfrB (V : Value) (f g : FM) (w : World) (h : ¬ shape f g) : Calls Tryd.prog 48 #[V, (Value.agg #[Value.slice (FM.A1 f) (FM.n1 f) (FM.c1 f), Value.slice (FM.A2 f) (FM.n2 f) (FM.c2 f), Value.bool (FM.u f)]), (Value.agg #[Value.slice (FM.A1 g) (FM.n1 g) (FM.c1 g), Value.slice (FM.A2 g) (FM.n2 g) (FM.c2 g), Value.bool (FM.u g)])] w fun e w' => e = .returned (.tuple #[frZ, .int .i64 23]) ∧ Below w.heap.size w w' :=
  rfr_bad V f.A1 f.A2 g.A1 g.A2 f.n1 f.n2 g.n1 g.n2 f.c1 f.c2 g.c1 g.c2 f.u g.u w (unshape h)
end Go.Proofs.YthifmcnemeiphaaDoor

/- Nc -/
/- Layer 18: frames, opened. -/
namespace Go.Proofs.YthifmcnemeiphaaDoor
open Go.ChangeShapes Go.WideShapes Go.ChangeAt Go.RowKit Go.Deep
set_option linter.unusedSimpArgs false
set_option linter.unusedVariables false

theorem cellsF3 : Tryd.prog.cellsOf 56 = 3 := by kernel_rfl
theorem cellsVs : Tryd.prog.cellsOf 54 = 1 := by kernel_rfl
section
variable {H : Type} {enc : TypeId × Value → H} {w : World} {base : Nat} {spare : Nat → Bool} {held : Bool}
set_option maxRecDepth 100000 in
theorem open_vs {fuel : Nat} {cs : List Value} {x : DataW H × List MemPlace} (h : DataW.trod enc Tryd.prog w base spare held fuel 54 cs = some x) :
    ∃ (A : Option Addr) (n c : Nat) (P : List VT), cs = [.slice A n c] ∧ P.length = n ∧ n ≤ c ∧ c ≤ 9223372036854775807 ∧ VS w w.heap.size A P := by
  rcases open_slice Tryd.underlying54 h with ⟨rfl, _⟩ | ⟨a, len, cap, m, n, D, Pl, rfl, hb, hl, hm, hmm, hx, hi⟩
  · exact ⟨none, 0, 0, [], rfl, rfl, Nat.le_refl _, by omega, Or.inl rfl, fun v hv => by cases hv⟩
  · have hlm : len ≤ m := by rw [hmm]; split <;> omega
    have key : ∀ i, i < len → ∃ p : VT, (∀ j v, (vcs p)[j]? = some v → w.cell? (a.add (i * 6 + j)) = some v) ∧ p.s.size ≤ 9223372036854775807 := by
      intro i hil
      obtain ⟨cs', hc, ht⟩ := hi i (by omega)
      rw [cellsV6] at hc
      obtain ⟨k, n, d, b, s, p, rfl, hs, _⟩ := open_vt ht
      obtain ⟨_, _, hat⟩ := World.cells?_some hc
      refine ⟨⟨k, n, d, b, s, p⟩, fun j v hv => ?_, hs⟩
      have := hat j (by simpa using vcs_lt hv)
      rw [add_add] at this
      rw [this]
      exact hv
    obtain ⟨f, hf⟩ : ∃ f : Nat → VT, ∀ i, i < len → (∀ j v, (vcs (f i))[j]? = some v → w.cell? (a.add (i * 6 + j)) = some v) ∧ (f i).s.size ≤ 9223372036854775807 :=
      ⟨fun i => if hi : i < len then (key i hi).choose else vtZ, fun i hi => by
        simp only [dif_pos hi]
        exact (key i hi).choose_spec⟩
    refine ⟨some a, len, cap, (List.range len).map f, rfl, by simp, hl, by unfold maxLen at hm; exact hm, ?_, ?_⟩
    · rcases Nat.eq_zero_or_pos len with h0 | h0
      · exact Or.inl (by rw [h0]; rfl)
      · have c0 := (hf 0 h0).1 0 _ rfl
        obtain ⟨g, o, sp⟩ := a
        have hsp : sp = none := by
          have := World.cell?_spot c0
          simpa [Addr.add] using this
        subst hsp
        refine Or.inr ⟨g, o, rfl, ?_, fun i p hp q v hv => ?_⟩
        · have := cell_lt c0
          rw [Addr.add_lit] at this
          exact this
        · have hil : i < len := by
            have := lt_of_some hp
            simpa using this
          rw [List.getElem?_map, List.getElem?_range hil] at hp
          obtain rfl : f i = p := Option.some.inj hp
          have := (hf i hil).1 q v hv
          rw [Addr.add_lit] at this
          rw [show o + i * 6 + q = o + (i * 6 + q) by omega]
          exact this
    · intro v hv
      obtain ⟨j, hj, rfl⟩ := List.mem_map.1 hv
      exact (hf j (List.mem_range.1 hj)).2
set_option maxRecDepth 100000 in
theorem open_fm {fuel : Nat} {cs : List Value} {x : DataW H × List MemPlace} (h : DataW.trod enc Tryd.prog w base spare held fuel 56 cs = some x) :
    ∃ f : FM, cs = [.slice f.A1 f.n1 f.c1, .slice f.A2 f.n2 f.c2, .bool f.u] ∧ f.ok w := by
  obtain ⟨xs, n, _, _, hl, hxl, hg⟩ := DataW.trod_struct Tryd.underlying56 h
  have h0 := hg 0 _ rfl
  have h1 := hg 1 _ rfl
  have h2 := hg 2 _ rfl
  rw [cellsF3] at hl
  obtain ⟨v0, v1, v2, rfl⟩ := list3 cs hl
  obtain ⟨y0, y1, y2, rfl⟩ := list3 xs hxl
  change DataW.trod enc Tryd.prog w base spare held n 54 (List.take (Tryd.prog.cellsOf 54) [v0, v1, v2]) = some y0 at h0
  change DataW.trod enc Tryd.prog w base spare held n 54 (List.take (Tryd.prog.cellsOf 54) [v1, v2]) = some y1 at h1
  change DataW.trod enc Tryd.prog w base spare held n 4 (List.take (Tryd.prog.cellsOf 4) [v2]) = some y2 at h2
  rw [cellsVs] at h0 h1
  rw [cellsBo] at h2
  obtain ⟨A1, n1, c1, P, e0, l1, m1, q1, r1⟩ := open_vs h0
  obtain ⟨A2, n2, c2, Q, e1, l2, m2, q2, r2⟩ := open_vs h1
  obtain ⟨b, e2, _⟩ := DataW.trod_bool Tryd.underlying4 h2
  simp at e0 e1 e2
  subst e0 e1 e2
  exact ⟨⟨A1, n1, c1, A2, n2, c2, b, P, Q⟩, rfl, r1, r2, l1, l2, m1, q1, m2, q2⟩
set_option maxRecDepth 100000 in
theorem open_fm_of {r : Reach} {b0 : Nat} {v : Value} {d : DataW H} {q : List MemPlace} (hv : Value.okWide Tryd.prog w r b0 56 v) (h : DataW.Trod enc Tryd.prog w base spare held 56 v d q) :
    ∃ f : FM, v = (Value.agg #[Value.slice (FM.A1 f) (FM.n1 f) (FM.c1 f), Value.slice (FM.A2 f) (FM.n2 f) (FM.c2 f), Value.bool (FM.u f)]) ∧ f.ok w := by
  obtain ⟨cs, rfl, hsz⟩ := okWide_struct Tryd.underlying56 hv
  obtain ⟨fuel, hf⟩ := h
  obtain ⟨f, e, hs⟩ := open_fm hf
  refine ⟨f, ?_, hs⟩
  have e' : cs.toList = [.slice f.A1 f.n1 f.c1, .slice f.A2 f.n2 f.c2, .bool f.u] := by simpa [Value.cells] using e
  rw [show cs = _ from (Array.toArray_toList (xs := cs)).symm, e']
end
end Go.Proofs.YthifmcnemeiphaaDoor

/- Nj -/
/- Layer 18: two frames, opened. -/
namespace Go.Proofs.YthifmcnemeiphaaDoor
open Go.ChangeShapes Go.WideShapes Go.ChangeAt Go.RowKit Go.Deep
set_option linter.unusedSimpArgs false
set_option linter.unusedVariables false

theorem cells6f : Tryd.prog.cellsOf 63 = 6 := by kernel_rfl
section
variable {H : Type} {enc : TypeId × Value → H} {w : World} {base : Nat} {spare : Nat → Bool} {held : Bool}
set_option maxRecDepth 100000 in
theorem open_ff_of {r : Reach} {b0 : Nat} {v : Value} {d : DataW H} {q : List MemPlace} (hv : Value.okWide Tryd.prog w r b0 63 v) (h : DataW.Trod enc Tryd.prog w base spare held 63 v d q) :
    ∃ f g : FM, v = .agg #[.slice f.A1 f.n1 f.c1, .slice f.A2 f.n2 f.c2, .bool f.u, .slice g.A1 g.n1 g.c1, .slice g.A2 g.n2 g.c2, .bool g.u] ∧ f.ok w ∧ g.ok w := by
  unfold Value.okWide at hv
  rw [Tryd.underlying63] at hv
  obtain ⟨cs, rfl, hsz, _⟩ := hv
  obtain ⟨fuel, hf⟩ := h
  obtain ⟨xs, m, _, ex, hl, hxl, hg⟩ := DataW.trod_array Tryd.underlying63 hf
  rw [cells6f] at hl
  have e0 : (Value.agg cs).cells = cs := rfl
  rw [e0] at hl hg
  obtain ⟨c0, c1, c2, c3, c4, c5, hc⟩ := list6 cs.toList hl
  obtain ⟨y0, y1, rfl⟩ : ∃ y0 y1, xs = [y0, y1] := by
    match xs, hxl with
    | [y0, y1], _ => exact ⟨y0, y1, rfl⟩
  have g0 := hg 0 (by decide)
  have g1 := hg 1 (by decide)
  rw [hc, cellsF3] at g0 g1
  obtain ⟨f, f0, z0⟩ := open_fm (x := y0) g0
  obtain ⟨g, f1, z1⟩ := open_fm (x := y1) g1
  simp at f0 f1
  obtain ⟨rfl, rfl, rfl⟩ := f0
  obtain ⟨rfl, rfl, rfl⟩ := f1
  refine ⟨f, g, ?_, z0, z1⟩
  rw [show cs = _ from (Array.toArray_toList (xs := cs)).symm, hc]
end
end Go.Proofs.YthifmcnemeiphaaDoor
