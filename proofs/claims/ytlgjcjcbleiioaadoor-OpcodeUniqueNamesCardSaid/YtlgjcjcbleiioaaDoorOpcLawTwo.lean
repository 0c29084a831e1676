/- The statements of layer 7. (Written by wip/gen/opclawb.py.) -/
import Derived.Test.YtlgjcjcbleiioaaDoorOpcLaw
namespace Go.Proofs.YtlgjcjcbleiioaaDoor
open Go.ChangeShapes Go.WideShapes Go.ChangeAt Go.RowKit
set_option linter.unusedSimpArgs false
set_option linter.unusedVariables false

theorem look_names : ∀ k, k < 81 → lookK (nm k) = some k := by decide +kernel
theorem look_empty : lookK ⟨#[]⟩ = none := by decide +kernel
theorem nm_apart : ∀ i, i < 81 → ∀ j, j < 81 → i ≠ j → ((nm i).toList == (nm j).toList) = false := by decide +kernel
theorem nm_some : ∀ i, i < 81 → (nm i).toList ≠ [] := by decide +kernel

theorem onames_any (o : Int) (s : ByteArray) (w : World) (hN : NamesAt w) :
    Calls Tryd.prog 3 #[.int .i64 o, .string s] w fun e w' => e = .returned (.bool true) ∧ Below w.heap.size w w' := by
  by_cases h : 0 ≤ o ∧ o ≤ 80
  · have hi := inB_yes (a := 0) (b := 80) (o := o) h
    have hl := look_names o.toNat (by omega)
    have en : nameS o = nm o.toNat := by unfold nameS; rw [if_pos h]
    have h1 : lookB (nameS o) = true := by rw [en]; unfold lookB; rw [hl]
    have h2 : lookV (nameS o) = o := by rw [en]; unfold lookV; rw [hl]; show ((o.toNat : Nat) : Int) = o; omega
    clear hl en
    go_enter Tryd.func3, Tryd.ntmps3
    go_wp2_with (first | (go_at_call 7; (with_reducible refine (name_any _ _ hN).mono ?_); rintro e w' ⟨rfl, rfl⟩) | (go_at_call 8; (with_reducible refine (look_any _ _ hN).mono ?_); rintro e w' ⟨rfl, rfl⟩) | (go_at_call 9; refine (rlook_any _ _).mono ?_; rintro e wL ⟨rfl, hbL⟩) | (go_at_call 8; (with_reducible refine (look_any _ _ (hN.below hbL)).mono ?_); rintro e w' ⟨rfl, rfl⟩) | (go_at_call 10; refine (rname_any _ _).mono ?_; rintro e wN ⟨rfl, hbN⟩) | (go_at_call 11; refine (is_any _ _).mono ?_; rintro e w' ⟨rfl, rfl⟩) | (go_at_call 12; (with_reducible refine (awake_any _ ((hN.below hbL).below hbN)).mono ?_); rintro e w1 ⟨rfl, hb1⟩))
    go_returns
    exact ⟨rfl, below_then hbL (below_then hbN hb1)⟩
  · have hi := inB_no (a := 0) (b := 80) (o := o) h
    have en : nameS o = ⟨#[]⟩ := by unfold nameS; rw [if_neg h]
    have h1 : lookB ⟨#[]⟩ = false := by unfold lookB; rw [look_empty]
    have h2 : lookV ⟨#[]⟩ = 0 := by unfold lookV; rw [look_empty]
    go_enter Tryd.func3, Tryd.ntmps3
    go_wp2_with (first | (go_at_call 7; (with_reducible refine (name_any _ _ hN).mono ?_); rintro e w' ⟨rfl, rfl⟩) | (go_at_call 8; (with_reducible refine (look_any _ _ hN).mono ?_); rintro e w' ⟨rfl, rfl⟩) | (go_at_call 9; refine (rlook_any _ _).mono ?_; rintro e wL ⟨rfl, hbL⟩) | (go_at_call 8; (with_reducible refine (look_any _ _ (hN.below hbL)).mono ?_); rintro e w' ⟨rfl, rfl⟩) | (go_at_call 10; refine (rname_any _ _).mono ?_; rintro e wN ⟨rfl, hbN⟩) | (go_at_call 11; refine (is_any _ _).mono ?_; rintro e w' ⟨rfl, rfl⟩) | (go_at_call 12; (with_reducible refine (awake_any _ ((hN.below hbL).below hbN)).mono ?_); rintro e w1 ⟨rfl, hb1⟩))
    go_returns
    exact ⟨rfl, below_then hbL (below_then hbN hb1)⟩

theorem ounique_any (a b : Int) (w0 : (Lit.int .u8 a).wf = true) (w1 : (Lit.int .u8 b).wf = true) (w : World) (hN : NamesAt w) :
    Calls Tryd.prog 5 #[.int .u8 a, .int .u8 b] w fun e w' => e = .returned (.bool true) ∧ Below w.heap.size w w' := by
  have ha := bounds_u8 w0
  have hb := bounds_u8 w1
  have ma : 0 ≤ a % 81 ∧ a % 81 ≤ 80 := by omega
  have mb : 0 ≤ b % 81 ∧ b % 81 ≤ 80 := by omega
  obtain ⟨x, hx⟩ : ∃ x, a % 81 = x := ⟨_, rfl⟩
  obtain ⟨y, hy⟩ : ∃ y, b % 81 = y := ⟨_, rfl⟩
  rw [hx] at ma
  rw [hy] at mb
  have na : nameS x = nm x.toNat := by unfold nameS; rw [if_pos ma]
  have nb : nameS y = nm y.toNat := by unfold nameS; rw [if_pos mb]
  have he : (nm x.toNat).toList.isEmpty = false := by
    have := nm_some x.toNat (by omega)
    cases hl : (nm x.toNat).toList with
    | nil => exact absurd hl this
    | cons _ _ => rfl
  by_cases hxy : x = y
  · subst hxy
    clear nb
    go_enter Tryd.func5, Tryd.ntmps5
    go_wp2_with (first | (go_at_call 7; (with_reducible refine (name_any _ _ hN).mono ?_); rintro e w' ⟨rfl, rfl⟩) | (go_at_call 12; refine (awake_any _ hN).mono ?_; rintro e w1 ⟨rfl, hb1⟩))
    go_returns
    exact ⟨rfl, hb1⟩
  · have ht := nm_apart x.toNat (by omega) y.toNat (by omega) (by omega)
    have hx' := beqF hxy
    go_enter Tryd.func5, Tryd.ntmps5
    go_wp2_with (first | (go_at_call 7; (with_reducible refine (name_any _ _ hN).mono ?_); rintro e w' ⟨rfl, rfl⟩) | (go_at_call 12; refine (awake_any _ hN).mono ?_; rintro e w1 ⟨rfl, hb1⟩))
    go_returns
    exact ⟨rfl, hb1⟩

end Go.Proofs.YtlgjcjcbleiioaaDoor
