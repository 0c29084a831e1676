/- Contracts of the reference of layer 7 that make or read memory. (Written by wip/gen/opcref.py.) -/
import Derived.Test.YtlgjcjcbleiioaaDoorOpcRef
import Derived.Deep.QuietTactic
import Derived.BigQuiet
namespace Go.Proofs.YtlgjcjcbleiioaaDoor
open Go.ChangeShapes Go.WideShapes Go.ChangeAt Go.RowKit
set_option linter.unusedSimpArgs false
set_option linter.unusedVariables false

set_option maxHeartbeats 2000000 in
set_option maxRecDepth 100000 in
theorem rnames_any (w : World) :
    Calls Tryd.prog 24 #[] w fun e w' => e = .returned (.slice (some ⟨w.heap.size, 0, none⟩) 81 81) ∧ w' = w.alloc (.cells nmA 9) := by
  go_enter Tryd.func24, Tryd.ntmps24
  go_wp2
  go_ret
  exact ⟨rfl, rfl⟩
theorem rname_any (o : Int) (w : World) :
    Calls Tryd.prog 10 #[.int .i64 o] w fun e w' => e = .returned (.string (nameS o)) ∧ Below w.heap.size w w' := by
  by_cases h : 0 ≤ o ∧ o ≤ 80
  · obtain ⟨k, rfl⟩ : ∃ k : Nat, o = k := ⟨o.toNat, by omega⟩
    have hb : inB 0 80 k = true := inB_yes h
    have hk : k < 81 := by omega
    have hc : (w.alloc (.cells nmA 9)).cell? ⟨w.heap.size, k, none⟩ = some (.string (nm k)) := by
      simp only [World.cell?, MapKept.heap_alloc]
      exact nmA_at k hk
    have h0 : (0 : Int) ≤ k ∧ (k : Int) < 81 := by omega
    go_enter Tryd.func10, Tryd.ntmps10
    go_wp2_with (first | (go_at_call 11; refine (is_any _ _).mono ?_; rintro e w' ⟨rfl, rfl⟩) | (go_at_call 24; refine (rnames_any _).mono ?_; rintro e w1 ⟨rfl, rfl⟩))
    go_ret
    exact ⟨ret_str (by unfold nameS; rw [if_pos (by omega)]; rfl), by go_grown⟩
  · have hb : inB 0 80 o = false := inB_no h
    go_enter Tryd.func10, Tryd.ntmps10
    go_wp2_with (go_at_call 11; refine (is_any _ _).mono ?_; rintro e w' ⟨rfl, rfl⟩)
    go_ret
    exact ⟨ret_str (by unfold nameS; rw [if_neg h]), Below.refl _ _⟩
theorem rlook_any (s : ByteArray) (w : World) :
    Calls Tryd.prog 9 #[.string s] w fun e w' => e = .returned (.tuple #[.int .i64 (lookV s), .bool (lookB s)]) ∧ Below w.heap.size w w' := by
  have hc : ∀ (k : Nat), k < 81 → (w.alloc (.cells nmA 9)).cell? ⟨w.heap.size, k, none⟩ = some (.string (nm k)) := by
    intro k hk
    simp only [World.cell?, MapKept.heap_alloc]
    exact nmA_at k hk
  have hc' := Lib.hid hc
  clear hc
  go_enter Tryd.func9, Tryd.ntmps9
  go_wp2_with (go_at_call 24; refine (rnames_any _).mono ?_; rintro e w1 ⟨rfl, rfl⟩)
  go_loop [5] (fun i => ∃ k : Nat, k ≤ 81 ∧ i = .int .i64 k ∧ ∀ j, j < k → ((nm j).toList == s.toList) = false) (fun i => 81 - (intOf i).toNat)
  case atStart => exact ⟨0, Nat.zero_le _, rfl, fun j hj => by omega⟩
  case round =>
    obtain ⟨k, hk, rfl, hb⟩ := hrel
    have hb' := Lib.hid hb
    clear hb
    by_cases hlt : k < 81
    · have hx := hc'.out k hlt
      by_cases hh : ((nm k).toList == s.toList) = true
      · go_wp2
        go_returns
        have hl := look_hit s k hlt hh hb'.out
        exact ⟨ret_ib (by unfold lookV; rw [hl]) (by unfold lookB; rw [hl]), by go_grown⟩
      · have hh' : ((nm k).toList == s.toList) = false := by simpa using hh
        clear hh
        go_wp2
        go_round
        case rel => exact ⟨k + 1, by omega, by go_num, fun j hj => by
          rcases Nat.lt_or_ge j k with h | h
          · exact hb'.out j h
          · obtain rfl : j = k := by omega
            exact hh'⟩
        case measure => simp [intOf]; omega
    · obtain rfl : k = 81 := by omega
      go_wp2
      go_returns
      have hl := look_miss s hb'.out
      exact ⟨ret_ib (by unfold lookV; rw [hl]) (by unfold lookB; rw [hl]), by go_grown⟩

/-- two slices that hold the same numbers -/
theorem same_any (l : List Int) (b1 b2 : Nat) (w : World) (hl : l.length ≤ 1000) (h1 : ∀ i, i < l.length → w.cell? ⟨b1, i, none⟩ = some (.int .i64 (l.getD i 0))) (h2 : ∀ i, i < l.length → w.cell? ⟨b2, i, none⟩ = some (.int .i64 (l.getD i 0))) :
    Calls Tryd.prog 17 #[.slice (some ⟨b1, 0, none⟩) l.length l.length, .slice (some ⟨b2, 0, none⟩) l.length l.length] w fun e w' => e = .returned (.bool true) ∧ ∃ n, w' = w.drewN n := by
  have h1' := Lib.hid h1
  have h2' := Lib.hid h2
  clear h1 h2
  go_enter Tryd.func17, Tryd.ntmps17
  go_wp2
  go_loopw [5] (fun i wr => ∃ k : Nat, k ≤ l.length ∧ i = .int .i64 k ∧ ∃ n, wr = w.drewN n) (fun i _ => l.length - (intOf i).toNat)
  case atStart => exact ⟨0, Nat.zero_le _, rfl, 0, rfl⟩
  case round =>
    obtain ⟨k, hk, rfl, n, rfl⟩ := hrel
    by_cases hlt : k < l.length
    · have c1 := h1'.out k hlt
      have c2 := h2'.out k hlt
      have hki : (k : Int) < (l.length : Int) := by omega
      go_wp2
      go_quiet (fail)
      go_wp2
      go_roundw
      case rel => exact ⟨k + 1, by omega, by go_num, _, rfl⟩
      case measure => simp [intOf]; omega
    · obtain rfl : k = l.length := by omega
      go_wp2
      go_ret
      exact ⟨rfl, _, rfl⟩
theorem same_nil (w : World) :
    Calls Tryd.prog 17 #[.slice none 0 0, .slice none 0 0] w fun e w' => e = .returned (.bool true) ∧ w = w' := by
  go_enter Tryd.func17, Tryd.ntmps17
  go_wp2
  go_rounds 1
  go_ret
  exact ⟨rfl, rfl⟩

end Go.Proofs.YtlgjcjcbleiioaaDoor
