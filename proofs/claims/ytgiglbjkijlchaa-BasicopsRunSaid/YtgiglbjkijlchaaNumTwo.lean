/- Contracts of package num: Compute and Condition. -/
import Derived.Test.YtgiglbjkijlchaaNum
namespace Go.Proofs.Ytgiglbjkijlchaa
open Go.ChangeShapes Go.WideShapes Go.ChangeAt Go.RowKit
set_option linter.unusedSimpArgs false
set_option linter.unusedVariables false

def c64V (op a b : Int) : Int :=
  if op = 27 then wrap64 (a + b) else if op = 28 then wrap64 (a - b) else if op = 29 then wrap64 (a * b)
  else if op = 30 then (if b = 0 then 0 else wrap64 (a.tdiv b)) else if op = 31 then (if b = 0 then 0 else a.tmod b)
  else if op = 32 then wrap64 (-a) else cmpI a b
def c64E (op b : Int) : Int := if (op = 30 ∨ op = 31) ∧ b = 0 then 52 else 0

theorem c64_any (op a b : Int) (h15 : 27 ≤ op) (h26 : op ≤ 33) (w : World) :
    Calls Try.prog 51 #[.int .i64 op, .int .i64 a, .int .i64 b] w fun e w' => e = .returned (.tuple #[.int .i64 (c64V op a b), .int .i64 (c64E op b)]) ∧ w = w' := by
  rcases (by omega : op = 27 ∨ op = 28 ∨ op = 29 ∨ op = 30 ∨ op = 31 ∨ op = 32 ∨ op = 33) with rfl | rfl | rfl | rfl | rfl | rfl | rfl
  · go_enter Try.func51, Try.ntmps51
    go_wp2
    go_ret2
    exact ⟨ret_ii rfl rfl, rfl⟩
  · go_enter Try.func51, Try.ntmps51
    go_wp2
    go_ret2
    exact ⟨ret_ii rfl rfl, rfl⟩
  · go_enter Try.func51, Try.ntmps51
    go_wp2
    go_ret2
    exact ⟨ret_ii rfl rfl, rfl⟩
  · by_cases hb : b = 0
    · subst hb
      go_enter Try.func51, Try.ntmps51
      go_wp2
      go_ret2
      exact ⟨ret_ii rfl rfl, rfl⟩
    · go_enter Try.func51, Try.ntmps51
      go_wp2
      go_ret2
      exact ⟨ret_ii (by simp [c64V, hb]) (by simp [c64E, hb]), rfl⟩
  · by_cases hb : b = 0
    · subst hb
      go_enter Try.func51, Try.ntmps51
      go_wp2
      go_ret2
      exact ⟨ret_ii rfl rfl, rfl⟩
    · go_enter Try.func51, Try.ntmps51
      go_wp2
      go_ret2
      exact ⟨ret_ii (by simp [c64V, hb]) (by simp [c64E, hb]), rfl⟩
  · go_enter Try.func51, Try.ntmps51
    go_wp2
    go_ret2
    exact ⟨ret_ii rfl rfl, rfl⟩
  · go_enter Try.func51, Try.ntmps51
    go_wp2_with (go_at_call 48; refine (cmp_any _ _ _).mono ?_; rintro e w' ⟨rfl, rfl⟩)
    go_ret2
    exact ⟨ret_ii rfl rfl, rfl⟩

def compV (op a b : Int) : Int :=
  if 15 ≤ op ∧ op ≤ 26 then c32V op (wrap32 a) (wrap32 b) else if 27 ≤ op ∧ op ≤ 33 then c64V op a b else if op = 34 ∨ op = 35 then wrap32 a else 0
def compE (op b : Int) : Int :=
  if 15 ≤ op ∧ op ≤ 26 then c32E op (wrap32 b) else if 27 ≤ op ∧ op ≤ 33 then c64E op b else if op = 34 ∨ op = 35 then 0 else 15

theorem beqF {a b : Int} (h : a ≠ b) : (a == b) = false := by simpa using h

theorem comp_any (op a b : Int) (w : World) :
    Calls Try.prog 31 #[.int .i64 op, .int .i64 a, .int .i64 b] w fun e w' => e = .returned (.tuple #[.int .i64 (compV op a b), .int .i64 (compE op b)]) ∧ w = w' := by
  have hA := Lib.hid (wrap32_bd a)
  have hB := Lib.hid (wrap32_bd b)
  by_cases h1 : op < 15
  · have e1 := beqF (show op ≠ 34 by omega)
    have e2 := beqF (show op ≠ 35 by omega)
    go_enter Try.func31, Try.ntmps31
    go_wp2
    go_ret2
    exact ⟨ret_ii (by unfold compV; rw [if_neg (by omega), if_neg (by omega), if_neg (by omega)]) (by unfold compE; rw [if_neg (by omega), if_neg (by omega), if_neg (by omega)]), rfl⟩
  by_cases h2 : op ≤ 26
  · go_enter Try.func31, Try.ntmps31
    go_wp2_with (first | (go_at_call 49; refine (wrap_any _ _).mono ?_; rintro e w' ⟨rfl, rfl⟩) | (go_at_call 50; refine (c32_any op (wrap32 a) (wrap32 b) (by omega) h2 hA.out.1 hA.out.2 hB.out.1 hB.out.2 _).mono ?_; rintro e w' ⟨rfl, rfl⟩))
    go_ret2
    exact ⟨ret_ii (by unfold compV; rw [if_pos (by omega)]) (by unfold compE; rw [if_pos (by omega)]), rfl⟩
  by_cases h3 : op ≤ 33
  · go_enter Try.func31, Try.ntmps31
    go_wp2_with (go_at_call 51; refine (c64_any op a b (by omega) h3 _).mono ?_; rintro e w' ⟨rfl, rfl⟩)
    go_ret2
    exact ⟨ret_ii (by unfold compV; rw [if_neg (by omega), if_pos (by omega)]) (by unfold compE; rw [if_neg (by omega), if_pos (by omega)]), rfl⟩
  by_cases h4 : op = 34
  · subst h4
    go_enter Try.func31, Try.ntmps31
    go_wp2_with (go_at_call 49; refine (wrap_any _ _).mono ?_; rintro e w' ⟨rfl, rfl⟩)
    go_ret2
    exact ⟨ret_ii rfl rfl, rfl⟩
  by_cases h5 : op = 35
  · subst h5
    go_enter Try.func31, Try.ntmps31
    go_wp2_with (go_at_call 49; refine (wrap_any _ _).mono ?_; rintro e w' ⟨rfl, rfl⟩)
    go_ret2
    exact ⟨ret_ii rfl rfl, rfl⟩
  · have e1 := beqF h4
    have e2 := beqF h5
    go_enter Try.func31, Try.ntmps31
    go_wp2
    go_ret2
    exact ⟨ret_ii (by unfold compV; rw [if_neg (by omega), if_neg (by omega), if_neg (by omega)]) (by unfold compE; rw [if_neg (by omega), if_neg (by omega), if_neg (by omega)]), rfl⟩

/-- the condition at a place in the order eq, ne, lt, ge, gt, le -/
def holdsB (p o : Int) : Bool :=
  if p = 0 then o == 0 else if p = 1 then o != 0 else if p = 2 then decide (o < 0) else if p = 3 then decide (0 ≤ o) else if p = 4 then decide (0 < o) else decide (o ≤ 0)

theorem holds_any (p o : Int) (w : World) (h0 : 0 ≤ p) (h5 : p ≤ 5) :
    Calls Try.prog 47 #[.int .i64 p, .int .i64 o] w fun e w' => e = .returned (.bool (holdsB p o)) ∧ w = w' := by
  rcases (by omega : p = 0 ∨ p = 1 ∨ p = 2 ∨ p = 3 ∨ p = 4 ∨ p = 5) with rfl | rfl | rfl | rfl | rfl | rfl
  all_goals
    go_enter Try.func47, Try.ntmps47
    go_wp2
    go_ret
    exact ⟨ret_bool rfl, rfl⟩

def condV (op a b : Int) : Bool :=
  if op < 36 ∨ 47 < op then false else if op ≤ 41 then holdsB (op - 36) (cmpI (wrap32 a) 0) else holdsB (op - 42) (cmpI (wrap32 a) (wrap32 b))
def condE (op : Int) : Int := if op < 36 ∨ 47 < op then 15 else 0

theorem cond_any (op a b : Int) (w : World) :
    Calls Try.prog 30 #[.int .i64 op, .int .i64 a, .int .i64 b] w fun e w' => e = .returned (.tuple #[.bool (condV op a b), .int .i64 (condE op)]) ∧ w = w' := by
  by_cases h1 : op < 36
  · go_enter Try.func30, Try.ntmps30
    go_wp2
    go_ret2
    exact ⟨ret_bi (by unfold condV; rw [if_pos (by omega)]) (by unfold condE; rw [if_pos (by omega)]), rfl⟩
  by_cases h2 : op ≤ 41
  · go_enter Try.func30, Try.ntmps30
    go_wp2_with (first | (go_at_call 49; refine (wrap_any _ _).mono ?_; rintro e w' ⟨rfl, rfl⟩) | (go_at_call 48; refine (cmp_any _ _ _).mono ?_; rintro e w' ⟨rfl, rfl⟩) | (go_at_call 47; refine (holds_any _ _ _ (by omega) (by omega)).mono ?_; rintro e w' ⟨rfl, rfl⟩))
    go_ret2
    exact ⟨ret_bi (by unfold condV; rw [if_neg (by omega), if_pos (by omega)]) (by unfold condE; rw [if_neg (by omega)]), rfl⟩
  by_cases h3 : op ≤ 47
  · go_enter Try.func30, Try.ntmps30
    go_wp2_with (first | (go_at_call 49; refine (wrap_any _ _).mono ?_; rintro e w' ⟨rfl, rfl⟩) | (go_at_call 48; refine (cmp_any _ _ _).mono ?_; rintro e w' ⟨rfl, rfl⟩) | (go_at_call 47; refine (holds_any _ _ _ (by omega) (by omega)).mono ?_; rintro e w' ⟨rfl, rfl⟩))
    go_ret2
    exact ⟨ret_bi (by unfold condV; rw [if_neg (by omega), if_neg (by omega)]) (by unfold condE; rw [if_neg (by omega)]), rfl⟩
  · go_enter Try.func30, Try.ntmps30
    go_wp2
    go_ret2
    exact ⟨ret_bi (by unfold condV; rw [if_pos (by omega)]) (by unfold condE; rw [if_pos (by omega)]), rfl⟩

end Go.Proofs.Ytgiglbjkijlchaa
