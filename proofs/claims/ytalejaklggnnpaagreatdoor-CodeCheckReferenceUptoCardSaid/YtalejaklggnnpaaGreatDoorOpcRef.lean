import Derived.Test.YtalejaklggnnpaaGreatDoorOpcName
import Derived.Deep.QuietTactic
import Derived.BigQuiet
/- Contracts of the reference of layer 7, class by class of opcodes. (Written by wip/gen/opcref.py.) -/
namespace Go.Proofs.YtalejaklggnnpaaGreatDoor.I
open Go.ChangeShapes Go.WideShapes Go.ChangeAt Go.RowKit
set_option linter.unusedSimpArgs false
set_option linter.unusedVariables false
theorem rkind_any (o : Int) (w : World) :
  Calls Tryz.prog 71 #[.int .i64 o] w fun e w' => e = .returned (.int .i64 (kindV o)) ∧ w = w' := by
 rcases opc_cases o with h1 | ⟨h0, h1⟩ | ⟨h0, h1⟩ | ⟨h0, h1⟩ | ⟨h0, h1⟩ | ⟨h0, h1⟩ | ⟨h0, h1⟩ | ⟨h0, h1⟩ | ⟨h0, h1⟩ | ⟨h0, h1⟩ | ⟨h0, h1⟩ | ⟨h0, h1⟩ | ⟨h0, h1⟩ | ⟨h0, h1⟩ | ⟨h0, h1⟩ | ⟨h0, h1⟩ | ⟨h0, h1⟩ | ⟨h0, h1⟩ | ⟨h0, h1⟩ | ⟨h0, h1⟩ | ⟨h0, h1⟩ | ⟨h0, h1⟩ | h0
 ·
  obtain ⟨vk, vs, vt, ve, vb, va⟩ := vals_l o (by omega)
  have hne : ∀ c : Int, 0 ≤ c → (o == c) = false := fun c (h : 0 ≤ c) => beqF (by omega)
  have hin : ∀ a b : Int, 0 ≤ a → inB a b o = false := fun a b h => inB_no (by omega)
  rw [vk]; clear vk vs vt ve vb va
  go_enter Tryz.func71, Tryz.ntmps71
  go_wp2_with (first | (go_at_call 120; refine (is_any _ _).mono ?_; rintro e w' ⟨rfl, rfl⟩) | (go_at_call 73; refine (btw_any _ _ _ _).mono ?_; rintro e w' ⟨rfl, rfl⟩))
  all_goals
   go_ret
   exact ⟨rfl, rfl⟩
 ·
  obtain ⟨vk, vs, vt, ve, vb, va⟩ := vals_c0 o h0 h1
  have hne : ∀ c : Int, c < 0 ∨ 1 < c → (o == c) = false := fun c (h : c < 0 ∨ 1 < c) => beqF (by omega)
  have hin : ∀ a b : Int, a ≤ 0 → 1 ≤ b → inB a b o = true := fun a b h h' => inB_yes (by omega)
  have hout : ∀ a b : Int, b < 0 ∨ 1 < a → inB a b o = false := fun a b h => inB_no (by omega)
  rw [vk]; clear vk vs vt ve vb va
  go_enter Tryz.func71, Tryz.ntmps71
  go_wp2_with (first | (go_at_call 120; refine (is_any _ _).mono ?_; rintro e w' ⟨rfl, rfl⟩) | (go_at_call 73; refine (btw_any _ _ _ _).mono ?_; rintro e w' ⟨rfl, rfl⟩))
  all_goals
   go_ret
   exact ⟨rfl, rfl⟩
 ·
  obtain ⟨vk, vs, vt, ve, vb, va⟩ := vals_c2 o h0 h1
  have hne : ∀ c : Int, c < 2 ∨ 2 < c → (o == c) = false := fun c (h : c < 2 ∨ 2 < c) => beqF (by omega)
  have hin : ∀ a b : Int, a ≤ 2 → 2 ≤ b → inB a b 2 = true := fun a b h h' => inB_yes (by omega)
  have hout : ∀ a b : Int, b < 2 ∨ 2 < a → inB a b 2 = false := fun a b h => inB_no (by omega)
  obtain rfl : o = 2 := by omega
  clear hne h0 h1
  rw [vk]; clear vk vs vt ve vb va
  go_enter Tryz.func71, Tryz.ntmps71
  go_wp2_with (first | (go_at_call 120; refine (is_any _ _).mono ?_; rintro e w' ⟨rfl, rfl⟩) | (go_at_call 73; refine (btw_any _ _ _ _).mono ?_; rintro e w' ⟨rfl, rfl⟩))
  all_goals
   go_ret
   exact ⟨rfl, rfl⟩
 ·
  obtain ⟨vk, vs, vt, ve, vb, va⟩ := vals_c3 o h0 h1
  have hne : ∀ c : Int, c < 3 ∨ 3 < c → (o == c) = false := fun c (h : c < 3 ∨ 3 < c) => beqF (by omega)
  have hin : ∀ a b : Int, a ≤ 3 → 3 ≤ b → inB a b 3 = true := fun a b h h' => inB_yes (by omega)
  have hout : ∀ a b : Int, b < 3 ∨ 3 < a → inB a b 3 = false := fun a b h => inB_no (by omega)
  obtain rfl : o = 3 := by omega
  clear hne h0 h1
  rw [vk]; clear vk vs vt ve vb va
  go_enter Tryz.func71, Tryz.ntmps71
  go_wp2_with (first | (go_at_call 120; refine (is_any _ _).mono ?_; rintro e w' ⟨rfl, rfl⟩) | (go_at_call 73; refine (btw_any _ _ _ _).mono ?_; rintro e w' ⟨rfl, rfl⟩))
  all_goals
   go_ret
   exact ⟨rfl, rfl⟩
 ·
  obtain ⟨vk, vs, vt, ve, vb, va⟩ := vals_c4 o h0 h1
  have hne : ∀ c : Int, c < 4 ∨ 9 < c → (o == c) = false := fun c (h : c < 4 ∨ 9 < c) => beqF (by omega)
  have hin : ∀ a b : Int, a ≤ 4 → 9 ≤ b → inB a b o = true := fun a b h h' => inB_yes (by omega)
  have hout : ∀ a b : Int, b < 4 ∨ 9 < a → inB a b o = false := fun a b h => inB_no (by omega)
  rw [vk]; clear vk vs vt ve vb va
  go_enter Tryz.func71, Tryz.ntmps71
  go_wp2_with (first | (go_at_call 120; refine (is_any _ _).mono ?_; rintro e w' ⟨rfl, rfl⟩) | (go_at_call 73; refine (btw_any _ _ _ _).mono ?_; rintro e w' ⟨rfl, rfl⟩))
  all_goals
   go_ret
   exact ⟨rfl, rfl⟩
 ·
  obtain ⟨vk, vs, vt, ve, vb, va⟩ := vals_c10 o h0 h1
  have hne : ∀ c : Int, c < 10 ∨ 10 < c → (o == c) = false := fun c (h : c < 10 ∨ 10 < c) => beqF (by omega)
  have hin : ∀ a b : Int, a ≤ 10 → 10 ≤ b → inB a b 10 = true := fun a b h h' => inB_yes (by omega)
  have hout : ∀ a b : Int, b < 10 ∨ 10 < a → inB a b 10 = false := fun a b h => inB_no (by omega)
  obtain rfl : o = 10 := by omega
  clear hne h0 h1
  rw [vk]; clear vk vs vt ve vb va
  go_enter Tryz.func71, Tryz.ntmps71
  go_wp2_with (first | (go_at_call 120; refine (is_any _ _).mono ?_; rintro e w' ⟨rfl, rfl⟩) | (go_at_call 73; refine (btw_any _ _ _ _).mono ?_; rintro e w' ⟨rfl, rfl⟩))
  all_goals
   go_ret
   exact ⟨rfl, rfl⟩
 ·
  obtain ⟨vk, vs, vt, ve, vb, va⟩ := vals_c11 o h0 h1
  have hne : ∀ c : Int, c < 11 ∨ 35 < c → (o == c) = false := fun c (h : c < 11 ∨ 35 < c) => beqF (by omega)
  have hin : ∀ a b : Int, a ≤ 11 → 35 ≤ b → inB a b o = true := fun a b h h' => inB_yes (by omega)
  have hout : ∀ a b : Int, b < 11 ∨ 35 < a → inB a b o = false := fun a b h => inB_no (by omega)
  rw [vk]; clear vk vs vt ve vb va
  go_enter Tryz.func71, Tryz.ntmps71
  go_wp2_with (first | (go_at_call 120; refine (is_any _ _).mono ?_; rintro e w' ⟨rfl, rfl⟩) | (go_at_call 73; refine (btw_any _ _ _ _).mono ?_; rintro e w' ⟨rfl, rfl⟩))
  all_goals
   go_ret
   exact ⟨rfl, rfl⟩
 ·
  obtain ⟨vk, vs, vt, ve, vb, va⟩ := vals_c36 o h0 h1
  have hne : ∀ c : Int, c < 36 ∨ 51 < c → (o == c) = false := fun c (h : c < 36 ∨ 51 < c) => beqF (by omega)
  have hin : ∀ a b : Int, a ≤ 36 → 51 ≤ b → inB a b o = true := fun a b h h' => inB_yes (by omega)
  have hout : ∀ a b : Int, b < 36 ∨ 51 < a → inB a b o = false := fun a b h => inB_no (by omega)
  rw [vk]; clear vk vs vt ve vb va
  go_enter Tryz.func71, Tryz.ntmps71
  go_wp2_with (first | (go_at_call 120; refine (is_any _ _).mono ?_; rintro e w' ⟨rfl, rfl⟩) | (go_at_call 73; refine (btw_any _ _ _ _).mono ?_; rintro e w' ⟨rfl, rfl⟩))
  all_goals
   go_ret
   exact ⟨rfl, rfl⟩
 ·
  obtain ⟨vk, vs, vt, ve, vb, va⟩ := vals_c52 o h0 h1
  have hne : ∀ c : Int, c < 52 ∨ 52 < c → (o == c) = false := fun c (h : c < 52 ∨ 52 < c) => beqF (by omega)
  have hin : ∀ a b : Int, a ≤ 52 → 52 ≤ b → inB a b 52 = true := fun a b h h' => inB_yes (by omega)
  have hout : ∀ a b : Int, b < 52 ∨ 52 < a → inB a b 52 = false := fun a b h => inB_no (by omega)
  obtain rfl : o = 52 := by omega
  clear hne h0 h1
  rw [vk]; clear vk vs vt ve vb va
  go_enter Tryz.func71, Tryz.ntmps71
  go_wp2_with (first | (go_at_call 120; refine (is_any _ _).mono ?_; rintro e w' ⟨rfl, rfl⟩) | (go_at_call 73; refine (btw_any _ _ _ _).mono ?_; rintro e w' ⟨rfl, rfl⟩))
  all_goals
   go_ret
   exact ⟨rfl, rfl⟩
 ·
  obtain ⟨vk, vs, vt, ve, vb, va⟩ := vals_c53 o h0 h1
  have hne : ∀ c : Int, c < 53 ∨ 53 < c → (o == c) = false := fun c (h : c < 53 ∨ 53 < c) => beqF (by omega)
  have hin : ∀ a b : Int, a ≤ 53 → 53 ≤ b → inB a b 53 = true := fun a b h h' => inB_yes (by omega)
  have hout : ∀ a b : Int, b < 53 ∨ 53 < a → inB a b 53 = false := fun a b h => inB_no (by omega)
  obtain rfl : o = 53 := by omega
  clear hne h0 h1
  rw [vk]; clear vk vs vt ve vb va
  go_enter Tryz.func71, Tryz.ntmps71
  go_wp2_with (first | (go_at_call 120; refine (is_any _ _).mono ?_; rintro e w' ⟨rfl, rfl⟩) | (go_at_call 73; refine (btw_any _ _ _ _).mono ?_; rintro e w' ⟨rfl, rfl⟩))
  all_goals
   go_ret
   exact ⟨rfl, rfl⟩
 ·
  obtain ⟨vk, vs, vt, ve, vb, va⟩ := vals_c54 o h0 h1
  have hne : ∀ c : Int, c < 54 ∨ 54 < c → (o == c) = false := fun c (h : c < 54 ∨ 54 < c) => beqF (by omega)
  have hin : ∀ a b : Int, a ≤ 54 → 54 ≤ b → inB a b 54 = true := fun a b h h' => inB_yes (by omega)
  have hout : ∀ a b : Int, b < 54 ∨ 54 < a → inB a b 54 = false := fun a b h => inB_no (by omega)
  obtain rfl : o = 54 := by omega
  clear hne h0 h1
  rw [vk]; clear vk vs vt ve vb va
  go_enter Tryz.func71, Tryz.ntmps71
  go_wp2_with (first | (go_at_call 120; refine (is_any _ _).mono ?_; rintro e w' ⟨rfl, rfl⟩) | (go_at_call 73; refine (btw_any _ _ _ _).mono ?_; rintro e w' ⟨rfl, rfl⟩))
  all_goals
   go_ret
   exact ⟨rfl, rfl⟩
 ·
  obtain ⟨vk, vs, vt, ve, vb, va⟩ := vals_c55 o h0 h1
  have hne : ∀ c : Int, c < 55 ∨ 58 < c → (o == c) = false := fun c (h : c < 55 ∨ 58 < c) => beqF (by omega)
  have hin : ∀ a b : Int, a ≤ 55 → 58 ≤ b → inB a b o = true := fun a b h h' => inB_yes (by omega)
  have hout : ∀ a b : Int, b < 55 ∨ 58 < a → inB a b o = false := fun a b h => inB_no (by omega)
  rw [vk]; clear vk vs vt ve vb va
  go_enter Tryz.func71, Tryz.ntmps71
  go_wp2_with (first | (go_at_call 120; refine (is_any _ _).mono ?_; rintro e w' ⟨rfl, rfl⟩) | (go_at_call 73; refine (btw_any _ _ _ _).mono ?_; rintro e w' ⟨rfl, rfl⟩))
  all_goals
   go_ret
   exact ⟨rfl, rfl⟩
 ·
  obtain ⟨vk, vs, vt, ve, vb, va⟩ := vals_c59 o h0 h1
  have hne : ∀ c : Int, c < 59 ∨ 62 < c → (o == c) = false := fun c (h : c < 59 ∨ 62 < c) => beqF (by omega)
  have hin : ∀ a b : Int, a ≤ 59 → 62 ≤ b → inB a b o = true := fun a b h h' => inB_yes (by omega)
  have hout : ∀ a b : Int, b < 59 ∨ 62 < a → inB a b o = false := fun a b h => inB_no (by omega)
  rw [vk]; clear vk vs vt ve vb va
  go_enter Tryz.func71, Tryz.ntmps71
  go_wp2_with (first | (go_at_call 120; refine (is_any _ _).mono ?_; rintro e w' ⟨rfl, rfl⟩) | (go_at_call 73; refine (btw_any _ _ _ _).mono ?_; rintro e w' ⟨rfl, rfl⟩))
  all_goals
   go_ret
   exact ⟨rfl, rfl⟩
 ·
  obtain ⟨vk, vs, vt, ve, vb, va⟩ := vals_c63 o h0 h1
  have hne : ∀ c : Int, c < 63 ∨ 63 < c → (o == c) = false := fun c (h : c < 63 ∨ 63 < c) => beqF (by omega)
  have hin : ∀ a b : Int, a ≤ 63 → 63 ≤ b → inB a b 63 = true := fun a b h h' => inB_yes (by omega)
  have hout : ∀ a b : Int, b < 63 ∨ 63 < a → inB a b 63 = false := fun a b h => inB_no (by omega)
  obtain rfl : o = 63 := by omega
  clear hne h0 h1
  rw [vk]; clear vk vs vt ve vb va
  go_enter Tryz.func71, Tryz.ntmps71
  go_wp2_with (first | (go_at_call 120; refine (is_any _ _).mono ?_; rintro e w' ⟨rfl, rfl⟩) | (go_at_call 73; refine (btw_any _ _ _ _).mono ?_; rintro e w' ⟨rfl, rfl⟩))
  all_goals
   go_ret
   exact ⟨rfl, rfl⟩
 ·
  obtain ⟨vk, vs, vt, ve, vb, va⟩ := vals_c64 o h0 h1
  have hne : ∀ c : Int, c < 64 ∨ 65 < c → (o == c) = false := fun c (h : c < 64 ∨ 65 < c) => beqF (by omega)
  have hin : ∀ a b : Int, a ≤ 64 → 65 ≤ b → inB a b o = true := fun a b h h' => inB_yes (by omega)
  have hout : ∀ a b : Int, b < 64 ∨ 65 < a → inB a b o = false := fun a b h => inB_no (by omega)
  rw [vk]; clear vk vs vt ve vb va
  go_enter Tryz.func71, Tryz.ntmps71
  go_wp2_with (first | (go_at_call 120; refine (is_any _ _).mono ?_; rintro e w' ⟨rfl, rfl⟩) | (go_at_call 73; refine (btw_any _ _ _ _).mono ?_; rintro e w' ⟨rfl, rfl⟩))
  all_goals
   go_ret
   exact ⟨rfl, rfl⟩
 ·
  obtain ⟨vk, vs, vt, ve, vb, va⟩ := vals_c66 o h0 h1
  have hne : ∀ c : Int, c < 66 ∨ 66 < c → (o == c) = false := fun c (h : c < 66 ∨ 66 < c) => beqF (by omega)
  have hin : ∀ a b : Int, a ≤ 66 → 66 ≤ b → inB a b 66 = true := fun a b h h' => inB_yes (by omega)
  have hout : ∀ a b : Int, b < 66 ∨ 66 < a → inB a b 66 = false := fun a b h => inB_no (by omega)
  obtain rfl : o = 66 := by omega
  clear hne h0 h1
  rw [vk]; clear vk vs vt ve vb va
  go_enter Tryz.func71, Tryz.ntmps71
  go_wp2_with (first | (go_at_call 120; refine (is_any _ _).mono ?_; rintro e w' ⟨rfl, rfl⟩) | (go_at_call 73; refine (btw_any _ _ _ _).mono ?_; rintro e w' ⟨rfl, rfl⟩))
  all_goals
   go_ret
   exact ⟨rfl, rfl⟩
 ·
  obtain ⟨vk, vs, vt, ve, vb, va⟩ := vals_c67 o h0 h1
  have hne : ∀ c : Int, c < 67 ∨ 67 < c → (o == c) = false := fun c (h : c < 67 ∨ 67 < c) => beqF (by omega)
  have hin : ∀ a b : Int, a ≤ 67 → 67 ≤ b → inB a b 67 = true := fun a b h h' => inB_yes (by omega)
  have hout : ∀ a b : Int, b < 67 ∨ 67 < a → inB a b 67 = false := fun a b h => inB_no (by omega)
  obtain rfl : o = 67 := by omega
  clear hne h0 h1
  rw [vk]; clear vk vs vt ve vb va
  go_enter Tryz.func71, Tryz.ntmps71
  go_wp2_with (first | (go_at_call 120; refine (is_any _ _).mono ?_; rintro e w' ⟨rfl, rfl⟩) | (go_at_call 73; refine (btw_any _ _ _ _).mono ?_; rintro e w' ⟨rfl, rfl⟩))
  all_goals
   go_ret
   exact ⟨rfl, rfl⟩
 ·
  obtain ⟨vk, vs, vt, ve, vb, va⟩ := vals_c68 o h0 h1
  have hne : ∀ c : Int, c < 68 ∨ 68 < c → (o == c) = false := fun c (h : c < 68 ∨ 68 < c) => beqF (by omega)
  have hin : ∀ a b : Int, a ≤ 68 → 68 ≤ b → inB a b 68 = true := fun a b h h' => inB_yes (by omega)
  have hout : ∀ a b : Int, b < 68 ∨ 68 < a → inB a b 68 = false := fun a b h => inB_no (by omega)
  obtain rfl : o = 68 := by omega
  clear hne h0 h1
  rw [vk]; clear vk vs vt ve vb va
  go_enter Tryz.func71, Tryz.ntmps71
  go_wp2_with (first | (go_at_call 120; refine (is_any _ _).mono ?_; rintro e w' ⟨rfl, rfl⟩) | (go_at_call 73; refine (btw_any _ _ _ _).mono ?_; rintro e w' ⟨rfl, rfl⟩))
  all_goals
   go_ret
   exact ⟨rfl, rfl⟩
 ·
  obtain ⟨vk, vs, vt, ve, vb, va⟩ := vals_c69 o h0 h1
  have hne : ∀ c : Int, c < 69 ∨ 75 < c → (o == c) = false := fun c (h : c < 69 ∨ 75 < c) => beqF (by omega)
  have hin : ∀ a b : Int, a ≤ 69 → 75 ≤ b → inB a b o = true := fun a b h h' => inB_yes (by omega)
  have hout : ∀ a b : Int, b < 69 ∨ 75 < a → inB a b o = false := fun a b h => inB_no (by omega)
  rw [vk]; clear vk vs vt ve vb va
  go_enter Tryz.func71, Tryz.ntmps71
  go_wp2_with (first | (go_at_call 120; refine (is_any _ _).mono ?_; rintro e w' ⟨rfl, rfl⟩) | (go_at_call 73; refine (btw_any _ _ _ _).mono ?_; rintro e w' ⟨rfl, rfl⟩))
  all_goals
   go_ret
   exact ⟨rfl, rfl⟩
 ·
  obtain ⟨vk, vs, vt, ve, vb, va⟩ := vals_c76 o h0 h1
  have hne : ∀ c : Int, c < 76 ∨ 77 < c → (o == c) = false := fun c (h : c < 76 ∨ 77 < c) => beqF (by omega)
  have hin : ∀ a b : Int, a ≤ 76 → 77 ≤ b → inB a b o = true := fun a b h h' => inB_yes (by omega)
  have hout : ∀ a b : Int, b < 76 ∨ 77 < a → inB a b o = false := fun a b h => inB_no (by omega)
  rw [vk]; clear vk vs vt ve vb va
  go_enter Tryz.func71, Tryz.ntmps71
  go_wp2_with (first | (go_at_call 120; refine (is_any _ _).mono ?_; rintro e w' ⟨rfl, rfl⟩) | (go_at_call 73; refine (btw_any _ _ _ _).mono ?_; rintro e w' ⟨rfl, rfl⟩))
  all_goals
   go_ret
   exact ⟨rfl, rfl⟩
 ·
  obtain ⟨vk, vs, vt, ve, vb, va⟩ := vals_c78 o h0 h1
  have hne : ∀ c : Int, c < 78 ∨ 78 < c → (o == c) = false := fun c (h : c < 78 ∨ 78 < c) => beqF (by omega)
  have hin : ∀ a b : Int, a ≤ 78 → 78 ≤ b → inB a b 78 = true := fun a b h h' => inB_yes (by omega)
  have hout : ∀ a b : Int, b < 78 ∨ 78 < a → inB a b 78 = false := fun a b h => inB_no (by omega)
  obtain rfl : o = 78 := by omega
  clear hne h0 h1
  rw [vk]; clear vk vs vt ve vb va
  go_enter Tryz.func71, Tryz.ntmps71
  go_wp2_with (first | (go_at_call 120; refine (is_any _ _).mono ?_; rintro e w' ⟨rfl, rfl⟩) | (go_at_call 73; refine (btw_any _ _ _ _).mono ?_; rintro e w' ⟨rfl, rfl⟩))
  all_goals
   go_ret
   exact ⟨rfl, rfl⟩
 ·
  obtain ⟨vk, vs, vt, ve, vb, va⟩ := vals_c79 o h0 h1
  have hne : ∀ c : Int, c < 79 ∨ 80 < c → (o == c) = false := fun c (h : c < 79 ∨ 80 < c) => beqF (by omega)
  have hin : ∀ a b : Int, a ≤ 79 → 80 ≤ b → inB a b o = true := fun a b h h' => inB_yes (by omega)
  have hout : ∀ a b : Int, b < 79 ∨ 80 < a → inB a b o = false := fun a b h => inB_no (by omega)
  rw [vk]; clear vk vs vt ve vb va
  go_enter Tryz.func71, Tryz.ntmps71
  go_wp2_with (first | (go_at_call 120; refine (is_any _ _).mono ?_; rintro e w' ⟨rfl, rfl⟩) | (go_at_call 73; refine (btw_any _ _ _ _).mono ?_; rintro e w' ⟨rfl, rfl⟩))
  all_goals
   go_ret
   exact ⟨rfl, rfl⟩
 ·
  obtain ⟨vk, vs, vt, ve, vb, va⟩ := vals_g o (by omega)
  have hne : ∀ c : Int, c ≤ 80 → (o == c) = false := fun c (h : c ≤ 80) => beqF (by omega)
  have hin : ∀ a b : Int, b ≤ 80 → inB a b o = false := fun a b h => inB_no (by omega)
  rw [vk]; clear vk vs vt ve vb va
  go_enter Tryz.func71, Tryz.ntmps71
  go_wp2_with (first | (go_at_call 120; refine (is_any _ _).mono ?_; rintro e w' ⟨rfl, rfl⟩) | (go_at_call 73; refine (btw_any _ _ _ _).mono ?_; rintro e w' ⟨rfl, rfl⟩))
  all_goals
   go_ret
   exact ⟨rfl, rfl⟩
theorem rsize_any (o : Int) (w : World) :
  Calls Tryz.prog 133 #[.int .i64 o] w fun e w' => e = .returned (.int .i64 (sizeV o)) ∧ w = w' := by
 rcases opc_cases o with h1 | ⟨h0, h1⟩ | ⟨h0, h1⟩ | ⟨h0, h1⟩ | ⟨h0, h1⟩ | ⟨h0, h1⟩ | ⟨h0, h1⟩ | ⟨h0, h1⟩ | ⟨h0, h1⟩ | ⟨h0, h1⟩ | ⟨h0, h1⟩ | ⟨h0, h1⟩ | ⟨h0, h1⟩ | ⟨h0, h1⟩ | ⟨h0, h1⟩ | ⟨h0, h1⟩ | ⟨h0, h1⟩ | ⟨h0, h1⟩ | ⟨h0, h1⟩ | ⟨h0, h1⟩ | ⟨h0, h1⟩ | ⟨h0, h1⟩ | h0
 ·
  obtain ⟨vk, vs, vt, ve, vb, va⟩ := vals_l o (by omega)
  have hne : ∀ c : Int, 0 ≤ c → (o == c) = false := fun c (h : 0 ≤ c) => beqF (by omega)
  have hin : ∀ a b : Int, 0 ≤ a → inB a b o = false := fun a b h => inB_no (by omega)
  rw [vs]; clear vs vt ve vb va
  go_enter Tryz.func133, Tryz.ntmps133
  go_wp2_with (go_at_call 71; refine (rkind_any _ _).mono ?_; rintro e w' ⟨rfl, rfl⟩)
  all_goals
   go_ret
   exact ⟨rfl, rfl⟩
 ·
  obtain ⟨vk, vs, vt, ve, vb, va⟩ := vals_c0 o h0 h1
  have hne : ∀ c : Int, c < 0 ∨ 1 < c → (o == c) = false := fun c (h : c < 0 ∨ 1 < c) => beqF (by omega)
  have hin : ∀ a b : Int, a ≤ 0 → 1 ≤ b → inB a b o = true := fun a b h h' => inB_yes (by omega)
  have hout : ∀ a b : Int, b < 0 ∨ 1 < a → inB a b o = false := fun a b h => inB_no (by omega)
  rw [vs]; clear vs vt ve vb va
  go_enter Tryz.func133, Tryz.ntmps133
  go_wp2_with (go_at_call 71; refine (rkind_any _ _).mono ?_; rintro e w' ⟨rfl, rfl⟩)
  all_goals
   go_ret
   exact ⟨rfl, rfl⟩
 ·
  obtain ⟨vk, vs, vt, ve, vb, va⟩ := vals_c2 o h0 h1
  have hne : ∀ c : Int, c < 2 ∨ 2 < c → (o == c) = false := fun c (h : c < 2 ∨ 2 < c) => beqF (by omega)
  have hin : ∀ a b : Int, a ≤ 2 → 2 ≤ b → inB a b 2 = true := fun a b h h' => inB_yes (by omega)
  have hout : ∀ a b : Int, b < 2 ∨ 2 < a → inB a b 2 = false := fun a b h => inB_no (by omega)
  obtain rfl : o = 2 := by omega
  clear hne h0 h1
  rw [vs]; clear vs vt ve vb va
  go_enter Tryz.func133, Tryz.ntmps133
  go_wp2_with (go_at_call 71; refine (rkind_any _ _).mono ?_; rintro e w' ⟨rfl, rfl⟩)
  all_goals
   go_ret
   exact ⟨rfl, rfl⟩
 ·
  obtain ⟨vk, vs, vt, ve, vb, va⟩ := vals_c3 o h0 h1
  have hne : ∀ c : Int, c < 3 ∨ 3 < c → (o == c) = false := fun c (h : c < 3 ∨ 3 < c) => beqF (by omega)
  have hin : ∀ a b : Int, a ≤ 3 → 3 ≤ b → inB a b 3 = true := fun a b h h' => inB_yes (by omega)
  have hout : ∀ a b : Int, b < 3 ∨ 3 < a → inB a b 3 = false := fun a b h => inB_no (by omega)
  obtain rfl : o = 3 := by omega
  clear hne h0 h1
  rw [vs]; clear vs vt ve vb va
  go_enter Tryz.func133, Tryz.ntmps133
  go_wp2_with (go_at_call 71; refine (rkind_any _ _).mono ?_; rintro e w' ⟨rfl, rfl⟩)
  all_goals
   go_ret
   exact ⟨rfl, rfl⟩
 ·
  obtain ⟨vk, vs, vt, ve, vb, va⟩ := vals_c4 o h0 h1
  have hne : ∀ c : Int, c < 4 ∨ 9 < c → (o == c) = false := fun c (h : c < 4 ∨ 9 < c) => beqF (by omega)
  have hin : ∀ a b : Int, a ≤ 4 → 9 ≤ b → inB a b o = true := fun a b h h' => inB_yes (by omega)
  have hout : ∀ a b : Int, b < 4 ∨ 9 < a → inB a b o = false := fun a b h => inB_no (by omega)
  rw [vs]; clear vs vt ve vb va
  go_enter Tryz.func133, Tryz.ntmps133
  go_wp2_with (go_at_call 71; refine (rkind_any _ _).mono ?_; rintro e w' ⟨rfl, rfl⟩)
  all_goals
   go_ret
   exact ⟨rfl, rfl⟩
 ·
  obtain ⟨vk, vs, vt, ve, vb, va⟩ := vals_c10 o h0 h1
  have hne : ∀ c : Int, c < 10 ∨ 10 < c → (o == c) = false := fun c (h : c < 10 ∨ 10 < c) => beqF (by omega)
  have hin : ∀ a b : Int, a ≤ 10 → 10 ≤ b → inB a b 10 = true := fun a b h h' => inB_yes (by omega)
  have hout : ∀ a b : Int, b < 10 ∨ 10 < a → inB a b 10 = false := fun a b h => inB_no (by omega)
  obtain rfl : o = 10 := by omega
  clear hne h0 h1
  rw [vs]; clear vs vt ve vb va
  go_enter Tryz.func133, Tryz.ntmps133
  go_wp2_with (go_at_call 71; refine (rkind_any _ _).mono ?_; rintro e w' ⟨rfl, rfl⟩)
  all_goals
   go_ret
   exact ⟨rfl, rfl⟩
 ·
  obtain ⟨vk, vs, vt, ve, vb, va⟩ := vals_c11 o h0 h1
  have hne : ∀ c : Int, c < 11 ∨ 35 < c → (o == c) = false := fun c (h : c < 11 ∨ 35 < c) => beqF (by omega)
  have hin : ∀ a b : Int, a ≤ 11 → 35 ≤ b → inB a b o = true := fun a b h h' => inB_yes (by omega)
  have hout : ∀ a b : Int, b < 11 ∨ 35 < a → inB a b o = false := fun a b h => inB_no (by omega)
  rw [vs]; clear vs vt ve vb va
  go_enter Tryz.func133, Tryz.ntmps133
  go_wp2_with (go_at_call 71; refine (rkind_any _ _).mono ?_; rintro e w' ⟨rfl, rfl⟩)
  all_goals
   go_ret
   exact ⟨rfl, rfl⟩
 ·
  obtain ⟨vk, vs, vt, ve, vb, va⟩ := vals_c36 o h0 h1
  have hne : ∀ c : Int, c < 36 ∨ 51 < c → (o == c) = false := fun c (h : c < 36 ∨ 51 < c) => beqF (by omega)
  have hin : ∀ a b : Int, a ≤ 36 → 51 ≤ b → inB a b o = true := fun a b h h' => inB_yes (by omega)
  have hout : ∀ a b : Int, b < 36 ∨ 51 < a → inB a b o = false := fun a b h => inB_no (by omega)
  rw [vs]; clear vs vt ve vb va
  go_enter Tryz.func133, Tryz.ntmps133
  go_wp2_with (go_at_call 71; refine (rkind_any _ _).mono ?_; rintro e w' ⟨rfl, rfl⟩)
  all_goals
   go_ret
   exact ⟨rfl, rfl⟩
 ·
  obtain ⟨vk, vs, vt, ve, vb, va⟩ := vals_c52 o h0 h1
  have hne : ∀ c : Int, c < 52 ∨ 52 < c → (o == c) = false := fun c (h : c < 52 ∨ 52 < c) => beqF (by omega)
  have hin : ∀ a b : Int, a ≤ 52 → 52 ≤ b → inB a b 52 = true := fun a b h h' => inB_yes (by omega)
  have hout : ∀ a b : Int, b < 52 ∨ 52 < a → inB a b 52 = false := fun a b h => inB_no (by omega)
  obtain rfl : o = 52 := by omega
  clear hne h0 h1
  rw [vs]; clear vs vt ve vb va
  go_enter Tryz.func133, Tryz.ntmps133
  go_wp2_with (go_at_call 71; refine (rkind_any _ _).mono ?_; rintro e w' ⟨rfl, rfl⟩)
  all_goals
   go_ret
   exact ⟨rfl, rfl⟩
 ·
  obtain ⟨vk, vs, vt, ve, vb, va⟩ := vals_c53 o h0 h1
  have hne : ∀ c : Int, c < 53 ∨ 53 < c → (o == c) = false := fun c (h : c < 53 ∨ 53 < c) => beqF (by omega)
  have hin : ∀ a b : Int, a ≤ 53 → 53 ≤ b → inB a b 53 = true := fun a b h h' => inB_yes (by omega)
  have hout : ∀ a b : Int, b < 53 ∨ 53 < a → inB a b 53 = false := fun a b h => inB_no (by omega)
  obtain rfl : o = 53 := by omega
  clear hne h0 h1
  rw [vs]; clear vs vt ve vb va
  go_enter Tryz.func133, Tryz.ntmps133
  go_wp2_with (go_at_call 71; refine (rkind_any _ _).mono ?_; rintro e w' ⟨rfl, rfl⟩)
  all_goals
   go_ret
   exact ⟨rfl, rfl⟩
 ·
  obtain ⟨vk, vs, vt, ve, vb, va⟩ := vals_c54 o h0 h1
  have hne : ∀ c : Int, c < 54 ∨ 54 < c → (o == c) = false := fun c (h : c < 54 ∨ 54 < c) => beqF (by omega)
  have hin : ∀ a b : Int, a ≤ 54 → 54 ≤ b → inB a b 54 = true := fun a b h h' => inB_yes (by omega)
  have hout : ∀ a b : Int, b < 54 ∨ 54 < a → inB a b 54 = false := fun a b h => inB_no (by omega)
  obtain rfl : o = 54 := by omega
  clear hne h0 h1
  rw [vs]; clear vs vt ve vb va
  go_enter Tryz.func133, Tryz.ntmps133
  go_wp2_with (go_at_call 71; refine (rkind_any _ _).mono ?_; rintro e w' ⟨rfl, rfl⟩)
  all_goals
   go_ret
   exact ⟨rfl, rfl⟩
 ·
  obtain ⟨vk, vs, vt, ve, vb, va⟩ := vals_c55 o h0 h1
  have hne : ∀ c : Int, c < 55 ∨ 58 < c → (o == c) = false := fun c (h : c < 55 ∨ 58 < c) => beqF (by omega)
  have hin : ∀ a b : Int, a ≤ 55 → 58 ≤ b → inB a b o = true := fun a b h h' => inB_yes (by omega)
  have hout : ∀ a b : Int, b < 55 ∨ 58 < a → inB a b o = false := fun a b h => inB_no (by omega)
  rw [vs]; clear vs vt ve vb va
  go_enter Tryz.func133, Tryz.ntmps133
  go_wp2_with (go_at_call 71; refine (rkind_any _ _).mono ?_; rintro e w' ⟨rfl, rfl⟩)
  all_goals
   go_ret
   exact ⟨rfl, rfl⟩
 ·
  obtain ⟨vk, vs, vt, ve, vb, va⟩ := vals_c59 o h0 h1
  have hne : ∀ c : Int, c < 59 ∨ 62 < c → (o == c) = false := fun c (h : c < 59 ∨ 62 < c) => beqF (by omega)
  have hin : ∀ a b : Int, a ≤ 59 → 62 ≤ b → inB a b o = true := fun a b h h' => inB_yes (by omega)
  have hout : ∀ a b : Int, b < 59 ∨ 62 < a → inB a b o = false := fun a b h => inB_no (by omega)
  rw [vs]; clear vs vt ve vb va
  go_enter Tryz.func133, Tryz.ntmps133
  go_wp2_with (go_at_call 71; refine (rkind_any _ _).mono ?_; rintro e w' ⟨rfl, rfl⟩)
  all_goals
   go_ret
   exact ⟨rfl, rfl⟩
 ·
  obtain ⟨vk, vs, vt, ve, vb, va⟩ := vals_c63 o h0 h1
  have hne : ∀ c : Int, c < 63 ∨ 63 < c → (o == c) = false := fun c (h : c < 63 ∨ 63 < c) => beqF (by omega)
  have hin : ∀ a b : Int, a ≤ 63 → 63 ≤ b → inB a b 63 = true := fun a b h h' => inB_yes (by omega)
  have hout : ∀ a b : Int, b < 63 ∨ 63 < a → inB a b 63 = false := fun a b h => inB_no (by omega)
  obtain rfl : o = 63 := by omega
  clear hne h0 h1
  rw [vs]; clear vs vt ve vb va
  go_enter Tryz.func133, Tryz.ntmps133
  go_wp2_with (go_at_call 71; refine (rkind_any _ _).mono ?_; rintro e w' ⟨rfl, rfl⟩)
  all_goals
   go_ret
   exact ⟨rfl, rfl⟩
 ·
  obtain ⟨vk, vs, vt, ve, vb, va⟩ := vals_c64 o h0 h1
  have hne : ∀ c : Int, c < 64 ∨ 65 < c → (o == c) = false := fun c (h : c < 64 ∨ 65 < c) => beqF (by omega)
  have hin : ∀ a b : Int, a ≤ 64 → 65 ≤ b → inB a b o = true := fun a b h h' => inB_yes (by omega)
  have hout : ∀ a b : Int, b < 64 ∨ 65 < a → inB a b o = false := fun a b h => inB_no (by omega)
  rw [vs]; clear vs vt ve vb va
  go_enter Tryz.func133, Tryz.ntmps133
  go_wp2_with (go_at_call 71; refine (rkind_any _ _).mono ?_; rintro e w' ⟨rfl, rfl⟩)
  all_goals
   go_ret
   exact ⟨rfl, rfl⟩
 ·
  obtain ⟨vk, vs, vt, ve, vb, va⟩ := vals_c66 o h0 h1
  have hne : ∀ c : Int, c < 66 ∨ 66 < c → (o == c) = false := fun c (h : c < 66 ∨ 66 < c) => beqF (by omega)
  have hin : ∀ a b : Int, a ≤ 66 → 66 ≤ b → inB a b 66 = true := fun a b h h' => inB_yes (by omega)
  have hout : ∀ a b : Int, b < 66 ∨ 66 < a → inB a b 66 = false := fun a b h => inB_no (by omega)
  obtain rfl : o = 66 := by omega
  clear hne h0 h1
  rw [vs]; clear vs vt ve vb va
  go_enter Tryz.func133, Tryz.ntmps133
  go_wp2_with (go_at_call 71; refine (rkind_any _ _).mono ?_; rintro e w' ⟨rfl, rfl⟩)
  all_goals
   go_ret
   exact ⟨rfl, rfl⟩
 ·
  obtain ⟨vk, vs, vt, ve, vb, va⟩ := vals_c67 o h0 h1
  have hne : ∀ c : Int, c < 67 ∨ 67 < c → (o == c) = false := fun c (h : c < 67 ∨ 67 < c) => beqF (by omega)
  have hin : ∀ a b : Int, a ≤ 67 → 67 ≤ b → inB a b 67 = true := fun a b h h' => inB_yes (by omega)
  have hout : ∀ a b : Int, b < 67 ∨ 67 < a → inB a b 67 = false := fun a b h => inB_no (by omega)
  obtain rfl : o = 67 := by omega
  clear hne h0 h1
  rw [vs]; clear vs vt ve vb va
  go_enter Tryz.func133, Tryz.ntmps133
  go_wp2_with (go_at_call 71; refine (rkind_any _ _).mono ?_; rintro e w' ⟨rfl, rfl⟩)
  all_goals
   go_ret
   exact ⟨rfl, rfl⟩
 ·
  obtain ⟨vk, vs, vt, ve, vb, va⟩ := vals_c68 o h0 h1
  have hne : ∀ c : Int, c < 68 ∨ 68 < c → (o == c) = false := fun c (h : c < 68 ∨ 68 < c) => beqF (by omega)
  have hin : ∀ a b : Int, a ≤ 68 → 68 ≤ b → inB a b 68 = true := fun a b h h' => inB_yes (by omega)
  have hout : ∀ a b : Int, b < 68 ∨ 68 < a → inB a b 68 = false := fun a b h => inB_no (by omega)
  obtain rfl : o = 68 := by omega
  clear hne h0 h1
  rw [vs]; clear vs vt ve vb va
  go_enter Tryz.func133, Tryz.ntmps133
  go_wp2_with (go_at_call 71; refine (rkind_any _ _).mono ?_; rintro e w' ⟨rfl, rfl⟩)
  all_goals
   go_ret
   exact ⟨rfl, rfl⟩
 ·
  obtain ⟨vk, vs, vt, ve, vb, va⟩ := vals_c69 o h0 h1
  have hne : ∀ c : Int, c < 69 ∨ 75 < c → (o == c) = false := fun c (h : c < 69 ∨ 75 < c) => beqF (by omega)
  have hin : ∀ a b : Int, a ≤ 69 → 75 ≤ b → inB a b o = true := fun a b h h' => inB_yes (by omega)
  have hout : ∀ a b : Int, b < 69 ∨ 75 < a → inB a b o = false := fun a b h => inB_no (by omega)
  rw [vs]; clear vs vt ve vb va
  go_enter Tryz.func133, Tryz.ntmps133
  go_wp2_with (go_at_call 71; refine (rkind_any _ _).mono ?_; rintro e w' ⟨rfl, rfl⟩)
  all_goals
   go_ret
   exact ⟨rfl, rfl⟩
 ·
  obtain ⟨vk, vs, vt, ve, vb, va⟩ := vals_c76 o h0 h1
  have hne : ∀ c : Int, c < 76 ∨ 77 < c → (o == c) = false := fun c (h : c < 76 ∨ 77 < c) => beqF (by omega)
  have hin : ∀ a b : Int, a ≤ 76 → 77 ≤ b → inB a b o = true := fun a b h h' => inB_yes (by omega)
  have hout : ∀ a b : Int, b < 76 ∨ 77 < a → inB a b o = false := fun a b h => inB_no (by omega)
  rw [vs]; clear vs vt ve vb va
  go_enter Tryz.func133, Tryz.ntmps133
  go_wp2_with (go_at_call 71; refine (rkind_any _ _).mono ?_; rintro e w' ⟨rfl, rfl⟩)
  all_goals
   go_ret
   exact ⟨rfl, rfl⟩
 ·
  obtain ⟨vk, vs, vt, ve, vb, va⟩ := vals_c78 o h0 h1
  have hne : ∀ c : Int, c < 78 ∨ 78 < c → (o == c) = false := fun c (h : c < 78 ∨ 78 < c) => beqF (by omega)
  have hin : ∀ a b : Int, a ≤ 78 → 78 ≤ b → inB a b 78 = true := fun a b h h' => inB_yes (by omega)
  have hout : ∀ a b : Int, b < 78 ∨ 78 < a → inB a b 78 = false := fun a b h => inB_no (by omega)
  obtain rfl : o = 78 := by omega
  clear hne h0 h1
  rw [vs]; clear vs vt ve vb va
  go_enter Tryz.func133, Tryz.ntmps133
  go_wp2_with (go_at_call 71; refine (rkind_any _ _).mono ?_; rintro e w' ⟨rfl, rfl⟩)
  all_goals
   go_ret
   exact ⟨rfl, rfl⟩
 ·
  obtain ⟨vk, vs, vt, ve, vb, va⟩ := vals_c79 o h0 h1
  have hne : ∀ c : Int, c < 79 ∨ 80 < c → (o == c) = false := fun c (h : c < 79 ∨ 80 < c) => beqF (by omega)
  have hin : ∀ a b : Int, a ≤ 79 → 80 ≤ b → inB a b o = true := fun a b h h' => inB_yes (by omega)
  have hout : ∀ a b : Int, b < 79 ∨ 80 < a → inB a b o = false := fun a b h => inB_no (by omega)
  rw [vs]; clear vs vt ve vb va
  go_enter Tryz.func133, Tryz.ntmps133
  go_wp2_with (go_at_call 71; refine (rkind_any _ _).mono ?_; rintro e w' ⟨rfl, rfl⟩)
  all_goals
   go_ret
   exact ⟨rfl, rfl⟩
 ·
  obtain ⟨vk, vs, vt, ve, vb, va⟩ := vals_g o (by omega)
  have hne : ∀ c : Int, c ≤ 80 → (o == c) = false := fun c (h : c ≤ 80) => beqF (by omega)
  have hin : ∀ a b : Int, b ≤ 80 → inB a b o = false := fun a b h => inB_no (by omega)
  rw [vs]; clear vs vt ve vb va
  go_enter Tryz.func133, Tryz.ntmps133
  go_wp2_with (go_at_call 71; refine (rkind_any _ _).mono ?_; rintro e w' ⟨rfl, rfl⟩)
  all_goals
   go_ret
   exact ⟨rfl, rfl⟩
theorem rterm_any (o : Int) (w : World) :
  Calls Tryz.prog 31 #[.int .i64 o] w fun e w' => e = .returned (.bool (termB o)) ∧ w = w' := by
 rcases opc_cases o with h1 | ⟨h0, h1⟩ | ⟨h0, h1⟩ | ⟨h0, h1⟩ | ⟨h0, h1⟩ | ⟨h0, h1⟩ | ⟨h0, h1⟩ | ⟨h0, h1⟩ | ⟨h0, h1⟩ | ⟨h0, h1⟩ | ⟨h0, h1⟩ | ⟨h0, h1⟩ | ⟨h0, h1⟩ | ⟨h0, h1⟩ | ⟨h0, h1⟩ | ⟨h0, h1⟩ | ⟨h0, h1⟩ | ⟨h0, h1⟩ | ⟨h0, h1⟩ | ⟨h0, h1⟩ | ⟨h0, h1⟩ | ⟨h0, h1⟩ | h0
 ·
  obtain ⟨vk, vs, vt, ve, vb, va⟩ := vals_l o (by omega)
  have hne : ∀ c : Int, 0 ≤ c → (o == c) = false := fun c (h : 0 ≤ c) => beqF (by omega)
  have hin : ∀ a b : Int, 0 ≤ a → inB a b o = false := fun a b h => inB_no (by omega)
  rw [ve]; clear vk vs vt ve vb va
  go_enter Tryz.func31, Tryz.ntmps31
  go_wp2_with (go_at_call 73; refine (btw_any _ _ _ _).mono ?_; rintro e w' ⟨rfl, rfl⟩)
  all_goals
   go_ret
   exact ⟨ret_bool rfl, rfl⟩
 ·
  obtain ⟨vk, vs, vt, ve, vb, va⟩ := vals_c0 o h0 h1
  have hne : ∀ c : Int, c < 0 ∨ 1 < c → (o == c) = false := fun c (h : c < 0 ∨ 1 < c) => beqF (by omega)
  have hin : ∀ a b : Int, a ≤ 0 → 1 ≤ b → inB a b o = true := fun a b h h' => inB_yes (by omega)
  have hout : ∀ a b : Int, b < 0 ∨ 1 < a → inB a b o = false := fun a b h => inB_no (by omega)
  rw [ve]; clear vk vs vt ve vb va
  go_enter Tryz.func31, Tryz.ntmps31
  go_wp2_with (go_at_call 73; refine (btw_any _ _ _ _).mono ?_; rintro e w' ⟨rfl, rfl⟩)
  all_goals
   go_ret
   exact ⟨ret_bool rfl, rfl⟩
 ·
  obtain ⟨vk, vs, vt, ve, vb, va⟩ := vals_c2 o h0 h1
  have hne : ∀ c : Int, c < 2 ∨ 2 < c → (o == c) = false := fun c (h : c < 2 ∨ 2 < c) => beqF (by omega)
  have hin : ∀ a b : Int, a ≤ 2 → 2 ≤ b → inB a b 2 = true := fun a b h h' => inB_yes (by omega)
  have hout : ∀ a b : Int, b < 2 ∨ 2 < a → inB a b 2 = false := fun a b h => inB_no (by omega)
  obtain rfl : o = 2 := by omega
  clear hne h0 h1
  rw [ve]; clear vk vs vt ve vb va
  go_enter Tryz.func31, Tryz.ntmps31
  go_wp2_with (go_at_call 73; refine (btw_any _ _ _ _).mono ?_; rintro e w' ⟨rfl, rfl⟩)
  all_goals
   go_ret
   exact ⟨ret_bool rfl, rfl⟩
 ·
  obtain ⟨vk, vs, vt, ve, vb, va⟩ := vals_c3 o h0 h1
  have hne : ∀ c : Int, c < 3 ∨ 3 < c → (o == c) = false := fun c (h : c < 3 ∨ 3 < c) => beqF (by omega)
  have hin : ∀ a b : Int, a ≤ 3 → 3 ≤ b → inB a b 3 = true := fun a b h h' => inB_yes (by omega)
  have hout : ∀ a b : Int, b < 3 ∨ 3 < a → inB a b 3 = false := fun a b h => inB_no (by omega)
  obtain rfl : o = 3 := by omega
  clear hne h0 h1
  rw [ve]; clear vk vs vt ve vb va
  go_enter Tryz.func31, Tryz.ntmps31
  go_wp2_with (go_at_call 73; refine (btw_any _ _ _ _).mono ?_; rintro e w' ⟨rfl, rfl⟩)
  all_goals
   go_ret
   exact ⟨ret_bool rfl, rfl⟩
 ·
  obtain ⟨vk, vs, vt, ve, vb, va⟩ := vals_c4 o h0 h1
  have hne : ∀ c : Int, c < 4 ∨ 9 < c → (o == c) = false := fun c (h : c < 4 ∨ 9 < c) => beqF (by omega)
  have hin : ∀ a b : Int, a ≤ 4 → 9 ≤ b → inB a b o = true := fun a b h h' => inB_yes (by omega)
  have hout : ∀ a b : Int, b < 4 ∨ 9 < a → inB a b o = false := fun a b h => inB_no (by omega)
  rw [ve]; clear vk vs vt ve vb va
  go_enter Tryz.func31, Tryz.ntmps31
  go_wp2_with (go_at_call 73; refine (btw_any _ _ _ _).mono ?_; rintro e w' ⟨rfl, rfl⟩)
  all_goals
   go_ret
   exact ⟨ret_bool rfl, rfl⟩
 ·
  obtain ⟨vk, vs, vt, ve, vb, va⟩ := vals_c10 o h0 h1
  have hne : ∀ c : Int, c < 10 ∨ 10 < c → (o == c) = false := fun c (h : c < 10 ∨ 10 < c) => beqF (by omega)
  have hin : ∀ a b : Int, a ≤ 10 → 10 ≤ b → inB a b 10 = true := fun a b h h' => inB_yes (by omega)
  have hout : ∀ a b : Int, b < 10 ∨ 10 < a → inB a b 10 = false := fun a b h => inB_no (by omega)
  obtain rfl : o = 10 := by omega
  clear hne h0 h1
  rw [ve]; clear vk vs vt ve vb va
  go_enter Tryz.func31, Tryz.ntmps31
  go_wp2_with (go_at_call 73; refine (btw_any _ _ _ _).mono ?_; rintro e w' ⟨rfl, rfl⟩)
  all_goals
   go_ret
   exact ⟨ret_bool rfl, rfl⟩
 ·
  obtain ⟨vk, vs, vt, ve, vb, va⟩ := vals_c11 o h0 h1
  have hne : ∀ c : Int, c < 11 ∨ 35 < c → (o == c) = false := fun c (h : c < 11 ∨ 35 < c) => beqF (by omega)
  have hin : ∀ a b : Int, a ≤ 11 → 35 ≤ b → inB a b o = true := fun a b h h' => inB_yes (by omega)
  have hout : ∀ a b : Int, b < 11 ∨ 35 < a → inB a b o = false := fun a b h => inB_no (by omega)
  rw [ve]; clear vk vs vt ve vb va
  go_enter Tryz.func31, Tryz.ntmps31
  go_wp2_with (go_at_call 73; refine (btw_any _ _ _ _).mono ?_; rintro e w' ⟨rfl, rfl⟩)
  all_goals
   go_ret
   exact ⟨ret_bool rfl, rfl⟩
 ·
  obtain ⟨vk, vs, vt, ve, vb, va⟩ := vals_c36 o h0 h1
  have hne : ∀ c : Int, c < 36 ∨ 51 < c → (o == c) = false := fun c (h : c < 36 ∨ 51 < c) => beqF (by omega)
  have hin : ∀ a b : Int, a ≤ 36 → 51 ≤ b → inB a b o = true := fun a b h h' => inB_yes (by omega)
  have hout : ∀ a b : Int, b < 36 ∨ 51 < a → inB a b o = false := fun a b h => inB_no (by omega)
  rw [ve]; clear vk vs vt ve vb va
  go_enter Tryz.func31, Tryz.ntmps31
  go_wp2_with (go_at_call 73; refine (btw_any _ _ _ _).mono ?_; rintro e w' ⟨rfl, rfl⟩)
  all_goals
   go_ret
   exact ⟨ret_bool rfl, rfl⟩
 ·
  obtain ⟨vk, vs, vt, ve, vb, va⟩ := vals_c52 o h0 h1
  have hne : ∀ c : Int, c < 52 ∨ 52 < c → (o == c) = false := fun c (h : c < 52 ∨ 52 < c) => beqF (by omega)
  have hin : ∀ a b : Int, a ≤ 52 → 52 ≤ b → inB a b 52 = true := fun a b h h' => inB_yes (by omega)
  have hout : ∀ a b : Int, b < 52 ∨ 52 < a → inB a b 52 = false := fun a b h => inB_no (by omega)
  obtain rfl : o = 52 := by omega
  clear hne h0 h1
  rw [ve]; clear vk vs vt ve vb va
  go_enter Tryz.func31, Tryz.ntmps31
  go_wp2_with (go_at_call 73; refine (btw_any _ _ _ _).mono ?_; rintro e w' ⟨rfl, rfl⟩)
  all_goals
   go_ret
   exact ⟨ret_bool rfl, rfl⟩
 ·
  obtain ⟨vk, vs, vt, ve, vb, va⟩ := vals_c53 o h0 h1
  have hne : ∀ c : Int, c < 53 ∨ 53 < c → (o == c) = false := fun c (h : c < 53 ∨ 53 < c) => beqF (by omega)
  have hin : ∀ a b : Int, a ≤ 53 → 53 ≤ b → inB a b 53 = true := fun a b h h' => inB_yes (by omega)
  have hout : ∀ a b : Int, b < 53 ∨ 53 < a → inB a b 53 = false := fun a b h => inB_no (by omega)
  obtain rfl : o = 53 := by omega
  clear hne h0 h1
  rw [ve]; clear vk vs vt ve vb va
  go_enter Tryz.func31, Tryz.ntmps31
  go_wp2_with (go_at_call 73; refine (btw_any _ _ _ _).mono ?_; rintro e w' ⟨rfl, rfl⟩)
  all_goals
   go_ret
   exact ⟨ret_bool rfl, rfl⟩
 ·
  obtain ⟨vk, vs, vt, ve, vb, va⟩ := vals_c54 o h0 h1
  have hne : ∀ c : Int, c < 54 ∨ 54 < c → (o == c) = false := fun c (h : c < 54 ∨ 54 < c) => beqF (by omega)
  have hin : ∀ a b : Int, a ≤ 54 → 54 ≤ b → inB a b 54 = true := fun a b h h' => inB_yes (by omega)
  have hout : ∀ a b : Int, b < 54 ∨ 54 < a → inB a b 54 = false := fun a b h => inB_no (by omega)
  obtain rfl : o = 54 := by omega
  clear hne h0 h1
  rw [ve]; clear vk vs vt ve vb va
  go_enter Tryz.func31, Tryz.ntmps31
  go_wp2_with (go_at_call 73; refine (btw_any _ _ _ _).mono ?_; rintro e w' ⟨rfl, rfl⟩)
  all_goals
   go_ret
   exact ⟨ret_bool rfl, rfl⟩
 ·
  obtain ⟨vk, vs, vt, ve, vb, va⟩ := vals_c55 o h0 h1
  have hne : ∀ c : Int, c < 55 ∨ 58 < c → (o == c) = false := fun c (h : c < 55 ∨ 58 < c) => beqF (by omega)
  have hin : ∀ a b : Int, a ≤ 55 → 58 ≤ b → inB a b o = true := fun a b h h' => inB_yes (by omega)
  have hout : ∀ a b : Int, b < 55 ∨ 58 < a → inB a b o = false := fun a b h => inB_no (by omega)
  rw [ve]; clear vk vs vt ve vb va
  go_enter Tryz.func31, Tryz.ntmps31
  go_wp2_with (go_at_call 73; refine (btw_any _ _ _ _).mono ?_; rintro e w' ⟨rfl, rfl⟩)
  all_goals
   go_ret
   exact ⟨ret_bool rfl, rfl⟩
 ·
  obtain ⟨vk, vs, vt, ve, vb, va⟩ := vals_c59 o h0 h1
  have hne : ∀ c : Int, c < 59 ∨ 62 < c → (o == c) = false := fun c (h : c < 59 ∨ 62 < c) => beqF (by omega)
  have hin : ∀ a b : Int, a ≤ 59 → 62 ≤ b → inB a b o = true := fun a b h h' => inB_yes (by omega)
  have hout : ∀ a b : Int, b < 59 ∨ 62 < a → inB a b o = false := fun a b h => inB_no (by omega)
  rw [ve]; clear vk vs vt ve vb va
  go_enter Tryz.func31, Tryz.ntmps31
  go_wp2_with (go_at_call 73; refine (btw_any _ _ _ _).mono ?_; rintro e w' ⟨rfl, rfl⟩)
  all_goals
   go_ret
   exact ⟨ret_bool rfl, rfl⟩
 ·
  obtain ⟨vk, vs, vt, ve, vb, va⟩ := vals_c63 o h0 h1
  have hne : ∀ c : Int, c < 63 ∨ 63 < c → (o == c) = false := fun c (h : c < 63 ∨ 63 < c) => beqF (by omega)
  have hin : ∀ a b : Int, a ≤ 63 → 63 ≤ b → inB a b 63 = true := fun a b h h' => inB_yes (by omega)
  have hout : ∀ a b : Int, b < 63 ∨ 63 < a → inB a b 63 = false := fun a b h => inB_no (by omega)
  obtain rfl : o = 63 := by omega
  clear hne h0 h1
  rw [ve]; clear vk vs vt ve vb va
  go_enter Tryz.func31, Tryz.ntmps31
  go_wp2_with (go_at_call 73; refine (btw_any _ _ _ _).mono ?_; rintro e w' ⟨rfl, rfl⟩)
  all_goals
   go_ret
   exact ⟨ret_bool rfl, rfl⟩
 ·
  obtain ⟨vk, vs, vt, ve, vb, va⟩ := vals_c64 o h0 h1
  have hne : ∀ c : Int, c < 64 ∨ 65 < c → (o == c) = false := fun c (h : c < 64 ∨ 65 < c) => beqF (by omega)
  have hin : ∀ a b : Int, a ≤ 64 → 65 ≤ b → inB a b o = true := fun a b h h' => inB_yes (by omega)
  have hout : ∀ a b : Int, b < 64 ∨ 65 < a → inB a b o = false := fun a b h => inB_no (by omega)
  rw [ve]; clear vk vs vt ve vb va
  go_enter Tryz.func31, Tryz.ntmps31
  go_wp2_with (go_at_call 73; refine (btw_any _ _ _ _).mono ?_; rintro e w' ⟨rfl, rfl⟩)
  all_goals
   go_ret
   exact ⟨ret_bool rfl, rfl⟩
 ·
  obtain ⟨vk, vs, vt, ve, vb, va⟩ := vals_c66 o h0 h1
  have hne : ∀ c : Int, c < 66 ∨ 66 < c → (o == c) = false := fun c (h : c < 66 ∨ 66 < c) => beqF (by omega)
  have hin : ∀ a b : Int, a ≤ 66 → 66 ≤ b → inB a b 66 = true := fun a b h h' => inB_yes (by omega)
  have hout : ∀ a b : Int, b < 66 ∨ 66 < a → inB a b 66 = false := fun a b h => inB_no (by omega)
  obtain rfl : o = 66 := by omega
  clear hne h0 h1
  rw [ve]; clear vk vs vt ve vb va
  go_enter Tryz.func31, Tryz.ntmps31
  go_wp2_with (go_at_call 73; refine (btw_any _ _ _ _).mono ?_; rintro e w' ⟨rfl, rfl⟩)
  all_goals
   go_ret
   exact ⟨ret_bool rfl, rfl⟩
 ·
  obtain ⟨vk, vs, vt, ve, vb, va⟩ := vals_c67 o h0 h1
  have hne : ∀ c : Int, c < 67 ∨ 67 < c → (o == c) = false := fun c (h : c < 67 ∨ 67 < c) => beqF (by omega)
  have hin : ∀ a b : Int, a ≤ 67 → 67 ≤ b → inB a b 67 = true := fun a b h h' => inB_yes (by omega)
  have hout : ∀ a b : Int, b < 67 ∨ 67 < a → inB a b 67 = false := fun a b h => inB_no (by omega)
  obtain rfl : o = 67 := by omega
  clear hne h0 h1
  rw [ve]; clear vk vs vt ve vb va
  go_enter Tryz.func31, Tryz.ntmps31
  go_wp2_with (go_at_call 73; refine (btw_any _ _ _ _).mono ?_; rintro e w' ⟨rfl, rfl⟩)
  all_goals
   go_ret
   exact ⟨ret_bool rfl, rfl⟩
 ·
  obtain ⟨vk, vs, vt, ve, vb, va⟩ := vals_c68 o h0 h1
  have hne : ∀ c : Int, c < 68 ∨ 68 < c → (o == c) = false := fun c (h : c < 68 ∨ 68 < c) => beqF (by omega)
  have hin : ∀ a b : Int, a ≤ 68 → 68 ≤ b → inB a b 68 = true := fun a b h h' => inB_yes (by omega)
  have hout : ∀ a b : Int, b < 68 ∨ 68 < a → inB a b 68 = false := fun a b h => inB_no (by omega)
  obtain rfl : o = 68 := by omega
  clear hne h0 h1
  rw [ve]; clear vk vs vt ve vb va
  go_enter Tryz.func31, Tryz.ntmps31
  go_wp2_with (go_at_call 73; refine (btw_any _ _ _ _).mono ?_; rintro e w' ⟨rfl, rfl⟩)
  all_goals
   go_ret
   exact ⟨ret_bool rfl, rfl⟩
 ·
  obtain ⟨vk, vs, vt, ve, vb, va⟩ := vals_c69 o h0 h1
  have hne : ∀ c : Int, c < 69 ∨ 75 < c → (o == c) = false := fun c (h : c < 69 ∨ 75 < c) => beqF (by omega)
  have hin : ∀ a b : Int, a ≤ 69 → 75 ≤ b → inB a b o = true := fun a b h h' => inB_yes (by omega)
  have hout : ∀ a b : Int, b < 69 ∨ 75 < a → inB a b o = false := fun a b h => inB_no (by omega)
  rw [ve]; clear vk vs vt ve vb va
  go_enter Tryz.func31, Tryz.ntmps31
  go_wp2_with (go_at_call 73; refine (btw_any _ _ _ _).mono ?_; rintro e w' ⟨rfl, rfl⟩)
  all_goals
   go_ret
   exact ⟨ret_bool rfl, rfl⟩
 ·
  obtain ⟨vk, vs, vt, ve, vb, va⟩ := vals_c76 o h0 h1
  have hne : ∀ c : Int, c < 76 ∨ 77 < c → (o == c) = false := fun c (h : c < 76 ∨ 77 < c) => beqF (by omega)
  have hin : ∀ a b : Int, a ≤ 76 → 77 ≤ b → inB a b o = true := fun a b h h' => inB_yes (by omega)
  have hout : ∀ a b : Int, b < 76 ∨ 77 < a → inB a b o = false := fun a b h => inB_no (by omega)
  rw [ve]; clear vk vs vt ve vb va
  go_enter Tryz.func31, Tryz.ntmps31
  go_wp2_with (go_at_call 73; refine (btw_any _ _ _ _).mono ?_; rintro e w' ⟨rfl, rfl⟩)
  all_goals
   go_ret
   exact ⟨ret_bool rfl, rfl⟩
 ·
  obtain ⟨vk, vs, vt, ve, vb, va⟩ := vals_c78 o h0 h1
  have hne : ∀ c : Int, c < 78 ∨ 78 < c → (o == c) = false := fun c (h : c < 78 ∨ 78 < c) => beqF (by omega)
  have hin : ∀ a b : Int, a ≤ 78 → 78 ≤ b → inB a b 78 = true := fun a b h h' => inB_yes (by omega)
  have hout : ∀ a b : Int, b < 78 ∨ 78 < a → inB a b 78 = false := fun a b h => inB_no (by omega)
  obtain rfl : o = 78 := by omega
  clear hne h0 h1
  rw [ve]; clear vk vs vt ve vb va
  go_enter Tryz.func31, Tryz.ntmps31
  go_wp2_with (go_at_call 73; refine (btw_any _ _ _ _).mono ?_; rintro e w' ⟨rfl, rfl⟩)
  all_goals
   go_ret
   exact ⟨ret_bool rfl, rfl⟩
 ·
  obtain ⟨vk, vs, vt, ve, vb, va⟩ := vals_c79 o h0 h1
  have hne : ∀ c : Int, c < 79 ∨ 80 < c → (o == c) = false := fun c (h : c < 79 ∨ 80 < c) => beqF (by omega)
  have hin : ∀ a b : Int, a ≤ 79 → 80 ≤ b → inB a b o = true := fun a b h h' => inB_yes (by omega)
  have hout : ∀ a b : Int, b < 79 ∨ 80 < a → inB a b o = false := fun a b h => inB_no (by omega)
  rw [ve]; clear vk vs vt ve vb va
  go_enter Tryz.func31, Tryz.ntmps31
  go_wp2_with (go_at_call 73; refine (btw_any _ _ _ _).mono ?_; rintro e w' ⟨rfl, rfl⟩)
  all_goals
   go_ret
   exact ⟨ret_bool rfl, rfl⟩
 ·
  obtain ⟨vk, vs, vt, ve, vb, va⟩ := vals_g o (by omega)
  have hne : ∀ c : Int, c ≤ 80 → (o == c) = false := fun c (h : c ≤ 80) => beqF (by omega)
  have hin : ∀ a b : Int, b ≤ 80 → inB a b o = false := fun a b h => inB_no (by omega)
  rw [ve]; clear vk vs vt ve vb va
  go_enter Tryz.func31, Tryz.ntmps31
  go_wp2_with (go_at_call 73; refine (btw_any _ _ _ _).mono ?_; rintro e w' ⟨rfl, rfl⟩)
  all_goals
   go_ret
   exact ⟨ret_bool rfl, rfl⟩
theorem rbr_any (o : Int) (w : World) :
  Calls Tryz.prog 94 #[.int .i64 o] w fun e w' => e = .returned (.bool (brB o)) ∧ w = w' := by
 go_enter Tryz.func94, Tryz.ntmps94
 go_wp2_with (go_at_call 73; refine (btw_any _ _ _ _).mono ?_; rintro e w' ⟨rfl, rfl⟩)
 go_ret
 exact ⟨rfl, rfl⟩
theorem rtags_any (o : Int) (w : World) :
  Calls Tryz.prog 123 #[.int .i64 o] w fun e w' => e = .returned (tagsV w (tagsL o)) ∧ w' = tagsW w (tagsL o) := by
 rcases opc_cases o with h1 | ⟨h0, h1⟩ | ⟨h0, h1⟩ | ⟨h0, h1⟩ | ⟨h0, h1⟩ | ⟨h0, h1⟩ | ⟨h0, h1⟩ | ⟨h0, h1⟩ | ⟨h0, h1⟩ | ⟨h0, h1⟩ | ⟨h0, h1⟩ | ⟨h0, h1⟩ | ⟨h0, h1⟩ | ⟨h0, h1⟩ | ⟨h0, h1⟩ | ⟨h0, h1⟩ | ⟨h0, h1⟩ | ⟨h0, h1⟩ | ⟨h0, h1⟩ | ⟨h0, h1⟩ | ⟨h0, h1⟩ | ⟨h0, h1⟩ | h0
 ·
  obtain ⟨vk, vs, vt, ve, vb, va⟩ := vals_l o (by omega)
  have hne : ∀ c : Int, 0 ≤ c → (o == c) = false := fun c (h : 0 ≤ c) => beqF (by omega)
  have hin : ∀ a b : Int, 0 ≤ a → inB a b o = false := fun a b h => inB_no (by omega)
  rw [vt]; clear vk vs vt ve vb va
  go_enter Tryz.func123, Tryz.ntmps123
  go_wp2_with (go_at_call 73; refine (btw_any _ _ _ _).mono ?_; rintro e w' ⟨rfl, rfl⟩)
  all_goals
   go_ret
   exact ⟨rfl, rfl⟩
 ·
  obtain ⟨vk, vs, vt, ve, vb, va⟩ := vals_c0 o h0 h1
  have hne : ∀ c : Int, c < 0 ∨ 1 < c → (o == c) = false := fun c (h : c < 0 ∨ 1 < c) => beqF (by omega)
  have hin : ∀ a b : Int, a ≤ 0 → 1 ≤ b → inB a b o = true := fun a b h h' => inB_yes (by omega)
  have hout : ∀ a b : Int, b < 0 ∨ 1 < a → inB a b o = false := fun a b h => inB_no (by omega)
  rw [vt]; clear vk vs vt ve vb va
  go_enter Tryz.func123, Tryz.ntmps123
  go_wp2_with (go_at_call 73; refine (btw_any _ _ _ _).mono ?_; rintro e w' ⟨rfl, rfl⟩)
  all_goals
   go_ret
   exact ⟨rfl, rfl⟩
 ·
  obtain ⟨vk, vs, vt, ve, vb, va⟩ := vals_c2 o h0 h1
  have hne : ∀ c : Int, c < 2 ∨ 2 < c → (o == c) = false := fun c (h : c < 2 ∨ 2 < c) => beqF (by omega)
  have hin : ∀ a b : Int, a ≤ 2 → 2 ≤ b → inB a b 2 = true := fun a b h h' => inB_yes (by omega)
  have hout : ∀ a b : Int, b < 2 ∨ 2 < a → inB a b 2 = false := fun a b h => inB_no (by omega)
  obtain rfl : o = 2 := by omega
  clear hne h0 h1
  rw [vt]; clear vk vs vt ve vb va
  go_enter Tryz.func123, Tryz.ntmps123
  go_wp2_with (go_at_call 73; refine (btw_any _ _ _ _).mono ?_; rintro e w' ⟨rfl, rfl⟩)
  all_goals
   go_ret
   exact ⟨rfl, rfl⟩
 ·
  obtain ⟨vk, vs, vt, ve, vb, va⟩ := vals_c3 o h0 h1
  have hne : ∀ c : Int, c < 3 ∨ 3 < c → (o == c) = false := fun c (h : c < 3 ∨ 3 < c) => beqF (by omega)
  have hin : ∀ a b : Int, a ≤ 3 → 3 ≤ b → inB a b 3 = true := fun a b h h' => inB_yes (by omega)
  have hout : ∀ a b : Int, b < 3 ∨ 3 < a → inB a b 3 = false := fun a b h => inB_no (by omega)
  obtain rfl : o = 3 := by omega
  clear hne h0 h1
  rw [vt]; clear vk vs vt ve vb va
  go_enter Tryz.func123, Tryz.ntmps123
  go_wp2_with (go_at_call 73; refine (btw_any _ _ _ _).mono ?_; rintro e w' ⟨rfl, rfl⟩)
  all_goals
   go_ret
   exact ⟨rfl, rfl⟩
 ·
  obtain ⟨vk, vs, vt, ve, vb, va⟩ := vals_c4 o h0 h1
  have hne : ∀ c : Int, c < 4 ∨ 9 < c → (o == c) = false := fun c (h : c < 4 ∨ 9 < c) => beqF (by omega)
  have hin : ∀ a b : Int, a ≤ 4 → 9 ≤ b → inB a b o = true := fun a b h h' => inB_yes (by omega)
  have hout : ∀ a b : Int, b < 4 ∨ 9 < a → inB a b o = false := fun a b h => inB_no (by omega)
  rw [vt]; clear vk vs vt ve vb va
  go_enter Tryz.func123, Tryz.ntmps123
  go_wp2_with (go_at_call 73; refine (btw_any _ _ _ _).mono ?_; rintro e w' ⟨rfl, rfl⟩)
  all_goals
   go_ret
   exact ⟨rfl, rfl⟩
 ·
  obtain ⟨vk, vs, vt, ve, vb, va⟩ := vals_c10 o h0 h1
  have hne : ∀ c : Int, c < 10 ∨ 10 < c → (o == c) = false := fun c (h : c < 10 ∨ 10 < c) => beqF (by omega)
  have hin : ∀ a b : Int, a ≤ 10 → 10 ≤ b → inB a b 10 = true := fun a b h h' => inB_yes (by omega)
  have hout : ∀ a b : Int, b < 10 ∨ 10 < a → inB a b 10 = false := fun a b h => inB_no (by omega)
  obtain rfl : o = 10 := by omega
  clear hne h0 h1
  rw [vt]; clear vk vs vt ve vb va
  go_enter Tryz.func123, Tryz.ntmps123
  go_wp2_with (go_at_call 73; refine (btw_any _ _ _ _).mono ?_; rintro e w' ⟨rfl, rfl⟩)
  all_goals
   go_ret
   exact ⟨rfl, rfl⟩
 ·
  obtain ⟨vk, vs, vt, ve, vb, va⟩ := vals_c11 o h0 h1
  have hne : ∀ c : Int, c < 11 ∨ 35 < c → (o == c) = false := fun c (h : c < 11 ∨ 35 < c) => beqF (by omega)
  have hin : ∀ a b : Int, a ≤ 11 → 35 ≤ b → inB a b o = true := fun a b h h' => inB_yes (by omega)
  have hout : ∀ a b : Int, b < 11 ∨ 35 < a → inB a b o = false := fun a b h => inB_no (by omega)
  rw [vt]; clear vk vs vt ve vb va
  go_enter Tryz.func123, Tryz.ntmps123
  go_wp2_with (go_at_call 73; refine (btw_any _ _ _ _).mono ?_; rintro e w' ⟨rfl, rfl⟩)
  all_goals
   go_ret
   exact ⟨rfl, rfl⟩
 ·
  obtain ⟨vk, vs, vt, ve, vb, va⟩ := vals_c36 o h0 h1
  have hne : ∀ c : Int, c < 36 ∨ 51 < c → (o == c) = false := fun c (h : c < 36 ∨ 51 < c) => beqF (by omega)
  have hin : ∀ a b : Int, a ≤ 36 → 51 ≤ b → inB a b o = true := fun a b h h' => inB_yes (by omega)
  have hout : ∀ a b : Int, b < 36 ∨ 51 < a → inB a b o = false := fun a b h => inB_no (by omega)
  rw [vt]; clear vk vs vt ve vb va
  go_enter Tryz.func123, Tryz.ntmps123
  go_wp2_with (go_at_call 73; refine (btw_any _ _ _ _).mono ?_; rintro e w' ⟨rfl, rfl⟩)
  all_goals
   go_ret
   exact ⟨rfl, rfl⟩
 ·
  obtain ⟨vk, vs, vt, ve, vb, va⟩ := vals_c52 o h0 h1
  have hne : ∀ c : Int, c < 52 ∨ 52 < c → (o == c) = false := fun c (h : c < 52 ∨ 52 < c) => beqF (by omega)
  have hin : ∀ a b : Int, a ≤ 52 → 52 ≤ b → inB a b 52 = true := fun a b h h' => inB_yes (by omega)
  have hout : ∀ a b : Int, b < 52 ∨ 52 < a → inB a b 52 = false := fun a b h => inB_no (by omega)
  obtain rfl : o = 52 := by omega
  clear hne h0 h1
  rw [vt]; clear vk vs vt ve vb va
  go_enter Tryz.func123, Tryz.ntmps123
  go_wp2_with (go_at_call 73; refine (btw_any _ _ _ _).mono ?_; rintro e w' ⟨rfl, rfl⟩)
  all_goals
   go_ret
   exact ⟨rfl, rfl⟩
 ·
  obtain ⟨vk, vs, vt, ve, vb, va⟩ := vals_c53 o h0 h1
  have hne : ∀ c : Int, c < 53 ∨ 53 < c → (o == c) = false := fun c (h : c < 53 ∨ 53 < c) => beqF (by omega)
  have hin : ∀ a b : Int, a ≤ 53 → 53 ≤ b → inB a b 53 = true := fun a b h h' => inB_yes (by omega)
  have hout : ∀ a b : Int, b < 53 ∨ 53 < a → inB a b 53 = false := fun a b h => inB_no (by omega)
  obtain rfl : o = 53 := by omega
  clear hne h0 h1
  rw [vt]; clear vk vs vt ve vb va
  go_enter Tryz.func123, Tryz.ntmps123
  go_wp2_with (go_at_call 73; refine (btw_any _ _ _ _).mono ?_; rintro e w' ⟨rfl, rfl⟩)
  all_goals
   go_ret
   exact ⟨rfl, rfl⟩
 ·
  obtain ⟨vk, vs, vt, ve, vb, va⟩ := vals_c54 o h0 h1
  have hne : ∀ c : Int, c < 54 ∨ 54 < c → (o == c) = false := fun c (h : c < 54 ∨ 54 < c) => beqF (by omega)
  have hin : ∀ a b : Int, a ≤ 54 → 54 ≤ b → inB a b 54 = true := fun a b h h' => inB_yes (by omega)
  have hout : ∀ a b : Int, b < 54 ∨ 54 < a → inB a b 54 = false := fun a b h => inB_no (by omega)
  obtain rfl : o = 54 := by omega
  clear hne h0 h1
  rw [vt]; clear vk vs vt ve vb va
  go_enter Tryz.func123, Tryz.ntmps123
  go_wp2_with (go_at_call 73; refine (btw_any _ _ _ _).mono ?_; rintro e w' ⟨rfl, rfl⟩)
  all_goals
   go_ret
   exact ⟨rfl, rfl⟩
 ·
  obtain ⟨vk, vs, vt, ve, vb, va⟩ := vals_c55 o h0 h1
  have hne : ∀ c : Int, c < 55 ∨ 58 < c → (o == c) = false := fun c (h : c < 55 ∨ 58 < c) => beqF (by omega)
  have hin : ∀ a b : Int, a ≤ 55 → 58 ≤ b → inB a b o = true := fun a b h h' => inB_yes (by omega)
  have hout : ∀ a b : Int, b < 55 ∨ 58 < a → inB a b o = false := fun a b h => inB_no (by omega)
  rw [vt]; clear vk vs vt ve vb va
  go_enter Tryz.func123, Tryz.ntmps123
  go_wp2_with (go_at_call 73; refine (btw_any _ _ _ _).mono ?_; rintro e w' ⟨rfl, rfl⟩)
  all_goals
   go_ret
   exact ⟨rfl, rfl⟩
 ·
  obtain ⟨vk, vs, vt, ve, vb, va⟩ := vals_c59 o h0 h1
  have hne : ∀ c : Int, c < 59 ∨ 62 < c → (o == c) = false := fun c (h : c < 59 ∨ 62 < c) => beqF (by omega)
  have hin : ∀ a b : Int, a ≤ 59 → 62 ≤ b → inB a b o = true := fun a b h h' => inB_yes (by omega)
  have hout : ∀ a b : Int, b < 59 ∨ 62 < a → inB a b o = false := fun a b h => inB_no (by omega)
  rw [vt]; clear vk vs vt ve vb va
  go_enter Tryz.func123, Tryz.ntmps123
  go_wp2_with (go_at_call 73; refine (btw_any _ _ _ _).mono ?_; rintro e w' ⟨rfl, rfl⟩)
  all_goals
   go_ret
   exact ⟨rfl, rfl⟩
 ·
  obtain ⟨vk, vs, vt, ve, vb, va⟩ := vals_c63 o h0 h1
  have hne : ∀ c : Int, c < 63 ∨ 63 < c → (o == c) = false := fun c (h : c < 63 ∨ 63 < c) => beqF (by omega)
  have hin : ∀ a b : Int, a ≤ 63 → 63 ≤ b → inB a b 63 = true := fun a b h h' => inB_yes (by omega)
  have hout : ∀ a b : Int, b < 63 ∨ 63 < a → inB a b 63 = false := fun a b h => inB_no (by omega)
  obtain rfl : o = 63 := by omega
  clear hne h0 h1
  rw [vt]; clear vk vs vt ve vb va
  go_enter Tryz.func123, Tryz.ntmps123
  go_wp2_with (go_at_call 73; refine (btw_any _ _ _ _).mono ?_; rintro e w' ⟨rfl, rfl⟩)
  all_goals
   go_ret
   exact ⟨rfl, rfl⟩
 ·
  obtain ⟨vk, vs, vt, ve, vb, va⟩ := vals_c64 o h0 h1
  have hne : ∀ c : Int, c < 64 ∨ 65 < c → (o == c) = false := fun c (h : c < 64 ∨ 65 < c) => beqF (by omega)
  have hin : ∀ a b : Int, a ≤ 64 → 65 ≤ b → inB a b o = true := fun a b h h' => inB_yes (by omega)
  have hout : ∀ a b : Int, b < 64 ∨ 65 < a → inB a b o = false := fun a b h => inB_no (by omega)
  rw [vt]; clear vk vs vt ve vb va
  go_enter Tryz.func123, Tryz.ntmps123
  go_wp2_with (go_at_call 73; refine (btw_any _ _ _ _).mono ?_; rintro e w' ⟨rfl, rfl⟩)
  all_goals
   go_ret
   exact ⟨rfl, rfl⟩
 ·
  obtain ⟨vk, vs, vt, ve, vb, va⟩ := vals_c66 o h0 h1
  have hne : ∀ c : Int, c < 66 ∨ 66 < c → (o == c) = false := fun c (h : c < 66 ∨ 66 < c) => beqF (by omega)
  have hin : ∀ a b : Int, a ≤ 66 → 66 ≤ b → inB a b 66 = true := fun a b h h' => inB_yes (by omega)
  have hout : ∀ a b : Int, b < 66 ∨ 66 < a → inB a b 66 = false := fun a b h => inB_no (by omega)
  obtain rfl : o = 66 := by omega
  clear hne h0 h1
  rw [vt]; clear vk vs vt ve vb va
  go_enter Tryz.func123, Tryz.ntmps123
  go_wp2_with (go_at_call 73; refine (btw_any _ _ _ _).mono ?_; rintro e w' ⟨rfl, rfl⟩)
  all_goals
   go_ret
   exact ⟨rfl, rfl⟩
 ·
  obtain ⟨vk, vs, vt, ve, vb, va⟩ := vals_c67 o h0 h1
  have hne : ∀ c : Int, c < 67 ∨ 67 < c → (o == c) = false := fun c (h : c < 67 ∨ 67 < c) => beqF (by omega)
  have hin : ∀ a b : Int, a ≤ 67 → 67 ≤ b → inB a b 67 = true := fun a b h h' => inB_yes (by omega)
  have hout : ∀ a b : Int, b < 67 ∨ 67 < a → inB a b 67 = false := fun a b h => inB_no (by omega)
  obtain rfl : o = 67 := by omega
  clear hne h0 h1
  rw [vt]; clear vk vs vt ve vb va
  go_enter Tryz.func123, Tryz.ntmps123
  go_wp2_with (go_at_call 73; refine (btw_any _ _ _ _).mono ?_; rintro e w' ⟨rfl, rfl⟩)
  all_goals
   go_ret
   exact ⟨rfl, rfl⟩
 ·
  obtain ⟨vk, vs, vt, ve, vb, va⟩ := vals_c68 o h0 h1
  have hne : ∀ c : Int, c < 68 ∨ 68 < c → (o == c) = false := fun c (h : c < 68 ∨ 68 < c) => beqF (by omega)
  have hin : ∀ a b : Int, a ≤ 68 → 68 ≤ b → inB a b 68 = true := fun a b h h' => inB_yes (by omega)
  have hout : ∀ a b : Int, b < 68 ∨ 68 < a → inB a b 68 = false := fun a b h => inB_no (by omega)
  obtain rfl : o = 68 := by omega
  clear hne h0 h1
  rw [vt]; clear vk vs vt ve vb va
  go_enter Tryz.func123, Tryz.ntmps123
  go_wp2_with (go_at_call 73; refine (btw_any _ _ _ _).mono ?_; rintro e w' ⟨rfl, rfl⟩)
  all_goals
   go_ret
   exact ⟨rfl, rfl⟩
 ·
  obtain ⟨vk, vs, vt, ve, vb, va⟩ := vals_c69 o h0 h1
  have hne : ∀ c : Int, c < 69 ∨ 75 < c → (o == c) = false := fun c (h : c < 69 ∨ 75 < c) => beqF (by omega)
  have hin : ∀ a b : Int, a ≤ 69 → 75 ≤ b → inB a b o = true := fun a b h h' => inB_yes (by omega)
  have hout : ∀ a b : Int, b < 69 ∨ 75 < a → inB a b o = false := fun a b h => inB_no (by omega)
  rw [vt]; clear vk vs vt ve vb va
  go_enter Tryz.func123, Tryz.ntmps123
  go_wp2_with (go_at_call 73; refine (btw_any _ _ _ _).mono ?_; rintro e w' ⟨rfl, rfl⟩)
  all_goals
   go_ret
   exact ⟨rfl, rfl⟩
 ·
  obtain ⟨vk, vs, vt, ve, vb, va⟩ := vals_c76 o h0 h1
  have hne : ∀ c : Int, c < 76 ∨ 77 < c → (o == c) = false := fun c (h : c < 76 ∨ 77 < c) => beqF (by omega)
  have hin : ∀ a b : Int, a ≤ 76 → 77 ≤ b → inB a b o = true := fun a b h h' => inB_yes (by omega)
  have hout : ∀ a b : Int, b < 76 ∨ 77 < a → inB a b o = false := fun a b h => inB_no (by omega)
  rw [vt]; clear vk vs vt ve vb va
  go_enter Tryz.func123, Tryz.ntmps123
  go_wp2_with (go_at_call 73; refine (btw_any _ _ _ _).mono ?_; rintro e w' ⟨rfl, rfl⟩)
  all_goals
   go_ret
   exact ⟨rfl, rfl⟩
 ·
  obtain ⟨vk, vs, vt, ve, vb, va⟩ := vals_c78 o h0 h1
  have hne : ∀ c : Int, c < 78 ∨ 78 < c → (o == c) = false := fun c (h : c < 78 ∨ 78 < c) => beqF (by omega)
  have hin : ∀ a b : Int, a ≤ 78 → 78 ≤ b → inB a b 78 = true := fun a b h h' => inB_yes (by omega)
  have hout : ∀ a b : Int, b < 78 ∨ 78 < a → inB a b 78 = false := fun a b h => inB_no (by omega)
  obtain rfl : o = 78 := by omega
  clear hne h0 h1
  rw [vt]; clear vk vs vt ve vb va
  go_enter Tryz.func123, Tryz.ntmps123
  go_wp2_with (go_at_call 73; refine (btw_any _ _ _ _).mono ?_; rintro e w' ⟨rfl, rfl⟩)
  all_goals
   go_ret
   exact ⟨rfl, rfl⟩
 ·
  obtain ⟨vk, vs, vt, ve, vb, va⟩ := vals_c79 o h0 h1
  have hne : ∀ c : Int, c < 79 ∨ 80 < c → (o == c) = false := fun c (h : c < 79 ∨ 80 < c) => beqF (by omega)
  have hin : ∀ a b : Int, a ≤ 79 → 80 ≤ b → inB a b o = true := fun a b h h' => inB_yes (by omega)
  have hout : ∀ a b : Int, b < 79 ∨ 80 < a → inB a b o = false := fun a b h => inB_no (by omega)
  rw [vt]; clear vk vs vt ve vb va
  go_enter Tryz.func123, Tryz.ntmps123
  go_wp2_with (go_at_call 73; refine (btw_any _ _ _ _).mono ?_; rintro e w' ⟨rfl, rfl⟩)
  all_goals
   go_ret
   exact ⟨rfl, rfl⟩
 ·
  obtain ⟨vk, vs, vt, ve, vb, va⟩ := vals_g o (by omega)
  have hne : ∀ c : Int, c ≤ 80 → (o == c) = false := fun c (h : c ≤ 80) => beqF (by omega)
  have hin : ∀ a b : Int, b ≤ 80 → inB a b o = false := fun a b h => inB_no (by omega)
  rw [vt]; clear vk vs vt ve vb va
  go_enter Tryz.func123, Tryz.ntmps123
  go_wp2_with (go_at_call 73; refine (btw_any _ _ _ _).mono ?_; rintro e w' ⟨rfl, rfl⟩)
  all_goals
   go_ret
   exact ⟨rfl, rfl⟩
end Go.Proofs.YtalejaklggnnpaaGreatDoor.I
