/- The statements of layer 7. (Written by wip/gen/opclawb.py.) -/
import Derived.Test.YtlgjcjcbleiioaaDoorOpcLawTwo
namespace Go.Proofs.YtlgjcjcbleiioaaDoor
open Go.ChangeShapes Go.WideShapes Go.ChangeAt Go.RowKit
set_option linter.unusedSimpArgs false
set_option linter.unusedVariables false

theorem tags_cases (o : Int) : tagsL o = [] ∨ tagsL o = [3, 5, 8] ∨ tagsL o = [9] ∨ tagsL o = [10] ∨ tagsL o = [10, 11] ∨ tagsL o = [11] ∨ tagsL o = [7] ∨ tagsL o = [1] := by
  unfold tagsL
  repeat (split; · simp)
  simp

theorem ooper_any (o : Int) (w : World) (hN : NamesAt w) :
    Calls Tryd.prog 4 #[.int .i64 o] w fun e w' => e = .returned (.bool true) ∧ Below w.heap.size w w' := by
  rcases tags_cases o with ht | ht | ht | ht | ht | ht | ht | ht
  · have ct : ∀ w : World, Calls Tryd.prog 18 #[.int .i64 o] w fun e w' => e = .returned (.slice none 0 0) ∧ w = w' := fun w => by
      have := tags_any o w; rw [ht] at this; exact this.mono fun _ _ ⟨a, b⟩ => ⟨a, b.symm⟩
    have rt : ∀ w : World, Calls Tryd.prog 19 #[.int .i64 o] w fun e w' => e = .returned (.slice none 0 0) ∧ w = w' := fun w => by
      have := rtags_any o w; rw [ht] at this; exact this.mono fun _ _ ⟨a, b⟩ => ⟨a, b.symm⟩
    have ct' := Lib.hid ct
    have rt' := Lib.hid rt
    clear ct rt ht
    go_enter Tryd.func4, Tryd.ntmps4
    go_wp2_with (first | (go_at_call 13; refine (kind_any _ _).mono ?_; rintro e w' ⟨rfl, rfl⟩) | (go_at_call 14; refine (rkind_any _ _).mono ?_; rintro e w' ⟨rfl, rfl⟩) | (go_at_call 15; refine (size_any _ _).mono ?_; rintro e w' ⟨rfl, rfl⟩) | (go_at_call 16; refine (rsize_any _ _).mono ?_; rintro e w' ⟨rfl, rfl⟩) | (go_at_call 18; refine (ct'.out _).mono ?_; rintro e w' ⟨rfl, rfl⟩) | (go_at_call 19; refine (rt'.out _).mono ?_; rintro e w' ⟨rfl, rfl⟩) | (go_at_call 17; refine (same_nil _).mono ?_; rintro e w' ⟨rfl, rfl⟩) | (go_at_call 20; refine (term_any _ _).mono ?_; rintro e w' ⟨rfl, rfl⟩) | (go_at_call 21; refine (rterm_any _ _).mono ?_; rintro e w' ⟨rfl, rfl⟩) | (go_at_call 22; refine (br_any _ _).mono ?_; rintro e w' ⟨rfl, rfl⟩) | (go_at_call 23; refine (rbr_any _ _).mono ?_; rintro e w' ⟨rfl, rfl⟩) | (go_at_call 12; refine (awake_any _ hN).mono ?_; rintro e w1 ⟨rfl, hb1⟩))
    go_returns
    exact ⟨rfl, hb1⟩
  · have ct : ∀ w : World, Calls Tryd.prog 18 #[.int .i64 o] w fun e w' => e = .returned (.slice (some ⟨w.heap.size, 0, none⟩) 3 3) ∧ w' = w.alloc (.cells #[.int .i64 3, .int .i64 5, .int .i64 8] 3) := fun w => by
      have := tags_any o w; rw [ht] at this; exact this
    have rt : ∀ w : World, Calls Tryd.prog 19 #[.int .i64 o] w fun e w' => e = .returned (.slice (some ⟨w.heap.size, 0, none⟩) 3 3) ∧ w' = w.alloc (.cells #[.int .i64 3, .int .i64 5, .int .i64 8] 3) := fun w => by
      have := rtags_any o w; rw [ht] at this; exact this
    have hs : ∀ w : World, Calls Tryd.prog 17 #[.slice (some ⟨w.heap.size, 0, none⟩) 3 3, .slice (some ⟨w.heap.size + 1, 0, none⟩) 3 3] ((w.alloc (.cells #[.int .i64 3, .int .i64 5, .int .i64 8] 3)).alloc (.cells #[.int .i64 3, .int .i64 5, .int .i64 8] 3)) fun e w' => e = .returned (.bool true) ∧ ∃ n, w' = ((w.alloc (.cells #[.int .i64 3, .int .i64 5, .int .i64 8] 3)).alloc (.cells #[.int .i64 3, .int .i64 5, .int .i64 8] 3)).drewN n := fun w => by
      have h := cells_two w #[.int .i64 3, .int .i64 5, .int .i64 8] 3 [3, 5, 8] (by intro i hi; rcases i with _ | _ | _ | i <;> first | rfl | (simp at hi; done) | (simp at hi; omega))
      exact same_any [3, 5, 8] _ _ _ (by decide) h.1 h.2
    have ct' := Lib.hid ct
    have rt' := Lib.hid rt
    have hs' := Lib.hid hs
    clear ct rt hs ht
    go_enter Tryd.func4, Tryd.ntmps4
    go_wp2_with (first | (go_at_call 13; refine (kind_any _ _).mono ?_; rintro e w' ⟨rfl, rfl⟩) | (go_at_call 14; refine (rkind_any _ _).mono ?_; rintro e w' ⟨rfl, rfl⟩) | (go_at_call 15; refine (size_any _ _).mono ?_; rintro e w' ⟨rfl, rfl⟩) | (go_at_call 16; refine (rsize_any _ _).mono ?_; rintro e w' ⟨rfl, rfl⟩) | (go_at_call 18; refine (ct'.out _).mono ?_; rintro e w1 ⟨rfl, rfl⟩) | (go_at_call 19; refine (rt'.out _).mono ?_; rintro e w1 ⟨rfl, rfl⟩) | (go_at_call 17; refine (hs'.out _).mono ?_; rintro e w2 ⟨rfl, n, rfl⟩) | (go_at_call 20; refine (term_any _ _).mono ?_; rintro e w' ⟨rfl, rfl⟩) | (go_at_call 21; refine (rterm_any _ _).mono ?_; rintro e w' ⟨rfl, rfl⟩) | (go_at_call 22; refine (br_any _ _).mono ?_; rintro e w' ⟨rfl, rfl⟩) | (go_at_call 23; refine (rbr_any _ _).mono ?_; rintro e w' ⟨rfl, rfl⟩) | (go_at_call 12; refine (awake_any _ (((hN.alloc _).alloc _).drewN _)).mono ?_; rintro e w1 ⟨rfl, hb1⟩))
    go_returns
    exact ⟨rfl, below_then (by (iterate 2 (try (with_reducible refine below_drewN ?_ _))); go_grown) hb1⟩
  · have ct : ∀ w : World, Calls Tryd.prog 18 #[.int .i64 o] w fun e w' => e = .returned (.slice (some ⟨w.heap.size, 0, none⟩) 1 1) ∧ w' = w.alloc (.cells #[.int .i64 9] 3) := fun w => by
      have := tags_any o w; rw [ht] at this; exact this
    have rt : ∀ w : World, Calls Tryd.prog 19 #[.int .i64 o] w fun e w' => e = .returned (.slice (some ⟨w.heap.size, 0, none⟩) 1 1) ∧ w' = w.alloc (.cells #[.int .i64 9] 3) := fun w => by
      have := rtags_any o w; rw [ht] at this; exact this
    have hs : ∀ w : World, Calls Tryd.prog 17 #[.slice (some ⟨w.heap.size, 0, none⟩) 1 1, .slice (some ⟨w.heap.size + 1, 0, none⟩) 1 1] ((w.alloc (.cells #[.int .i64 9] 3)).alloc (.cells #[.int .i64 9] 3)) fun e w' => e = .returned (.bool true) ∧ ∃ n, w' = ((w.alloc (.cells #[.int .i64 9] 3)).alloc (.cells #[.int .i64 9] 3)).drewN n := fun w => by
      have h := cells_two w #[.int .i64 9] 3 [9] (by intro i hi; rcases i with _ | i <;> first | rfl | (simp at hi; done) | (simp at hi; omega))
      exact same_any [9] _ _ _ (by decide) h.1 h.2
    have ct' := Lib.hid ct
    have rt' := Lib.hid rt
    have hs' := Lib.hid hs
    clear ct rt hs ht
    go_enter Tryd.func4, Tryd.ntmps4
    go_wp2_with (first | (go_at_call 13; refine (kind_any _ _).mono ?_; rintro e w' ⟨rfl, rfl⟩) | (go_at_call 14; refine (rkind_any _ _).mono ?_; rintro e w' ⟨rfl, rfl⟩) | (go_at_call 15; refine (size_any _ _).mono ?_; rintro e w' ⟨rfl, rfl⟩) | (go_at_call 16; refine (rsize_any _ _).mono ?_; rintro e w' ⟨rfl, rfl⟩) | (go_at_call 18; refine (ct'.out _).mono ?_; rintro e w1 ⟨rfl, rfl⟩) | (go_at_call 19; refine (rt'.out _).mono ?_; rintro e w1 ⟨rfl, rfl⟩) | (go_at_call 17; refine (hs'.out _).mono ?_; rintro e w2 ⟨rfl, n, rfl⟩) | (go_at_call 20; refine (term_any _ _).mono ?_; rintro e w' ⟨rfl, rfl⟩) | (go_at_call 21; refine (rterm_any _ _).mono ?_; rintro e w' ⟨rfl, rfl⟩) | (go_at_call 22; refine (br_any _ _).mono ?_; rintro e w' ⟨rfl, rfl⟩) | (go_at_call 23; refine (rbr_any _ _).mono ?_; rintro e w' ⟨rfl, rfl⟩) | (go_at_call 12; refine (awake_any _ (((hN.alloc _).alloc _).drewN _)).mono ?_; rintro e w1 ⟨rfl, hb1⟩))
    go_returns
    exact ⟨rfl, below_then (by (iterate 2 (try (with_reducible refine below_drewN ?_ _))); go_grown) hb1⟩
  · have ct : ∀ w : World, Calls Tryd.prog 18 #[.int .i64 o] w fun e w' => e = .returned (.slice (some ⟨w.heap.size, 0, none⟩) 1 1) ∧ w' = w.alloc (.cells #[.int .i64 10] 3) := fun w => by
      have := tags_any o w; rw [ht] at this; exact this
    have rt : ∀ w : World, Calls Tryd.prog 19 #[.int .i64 o] w fun e w' => e = .returned (.slice (some ⟨w.heap.size, 0, none⟩) 1 1) ∧ w' = w.alloc (.cells #[.int .i64 10] 3) := fun w => by
      have := rtags_any o w; rw [ht] at this; exact this
    have hs : ∀ w : World, Calls Tryd.prog 17 #[.slice (some ⟨w.heap.size, 0, none⟩) 1 1, .slice (some ⟨w.heap.size + 1, 0, none⟩) 1 1] ((w.alloc (.cells #[.int .i64 10] 3)).alloc (.cells #[.int .i64 10] 3)) fun e w' => e = .returned (.bool true) ∧ ∃ n, w' = ((w.alloc (.cells #[.int .i64 10] 3)).alloc (.cells #[.int .i64 10] 3)).drewN n := fun w => by
      have h := cells_two w #[.int .i64 10] 3 [10] (by intro i hi; rcases i with _ | i <;> first | rfl | (simp at hi; done) | (simp at hi; omega))
      exact same_any [10] _ _ _ (by decide) h.1 h.2
    have ct' := Lib.hid ct
    have rt' := Lib.hid rt
    have hs' := Lib.hid hs
    clear ct rt hs ht
    go_enter Tryd.func4, Tryd.ntmps4
    go_wp2_with (first | (go_at_call 13; refine (kind_any _ _).mono ?_; rintro e w' ⟨rfl, rfl⟩) | (go_at_call 14; refine (rkind_any _ _).mono ?_; rintro e w' ⟨rfl, rfl⟩) | (go_at_call 15; refine (size_any _ _).mono ?_; rintro e w' ⟨rfl, rfl⟩) | (go_at_call 16; refine (rsize_any _ _).mono ?_; rintro e w' ⟨rfl, rfl⟩) | (go_at_call 18; refine (ct'.out _).mono ?_; rintro e w1 ⟨rfl, rfl⟩) | (go_at_call 19; refine (rt'.out _).mono ?_; rintro e w1 ⟨rfl, rfl⟩) | (go_at_call 17; refine (hs'.out _).mono ?_; rintro e w2 ⟨rfl, n, rfl⟩) | (go_at_call 20; refine (term_any _ _).mono ?_; rintro e w' ⟨rfl, rfl⟩) | (go_at_call 21; refine (rterm_any _ _).mono ?_; rintro e w' ⟨rfl, rfl⟩) | (go_at_call 22; refine (br_any _ _).mono ?_; rintro e w' ⟨rfl, rfl⟩) | (go_at_call 23; refine (rbr_any _ _).mono ?_; rintro e w' ⟨rfl, rfl⟩) | (go_at_call 12; refine (awake_any _ (((hN.alloc _).alloc _).drewN _)).mono ?_; rintro e w1 ⟨rfl, hb1⟩))
    go_returns
    exact ⟨rfl, below_then (by (iterate 2 (try (with_reducible refine below_drewN ?_ _))); go_grown) hb1⟩
  · have ct : ∀ w : World, Calls Tryd.prog 18 #[.int .i64 o] w fun e w' => e = .returned (.slice (some ⟨w.heap.size, 0, none⟩) 2 2) ∧ w' = w.alloc (.cells #[.int .i64 10, .int .i64 11] 3) := fun w => by
      have := tags_any o w; rw [ht] at this; exact this
    have rt : ∀ w : World, Calls Tryd.prog 19 #[.int .i64 o] w fun e w' => e = .returned (.slice (some ⟨w.heap.size, 0, none⟩) 2 2) ∧ w' = w.alloc (.cells #[.int .i64 10, .int .i64 11] 3) := fun w => by
      have := rtags_any o w; rw [ht] at this; exact this
    have hs : ∀ w : World, Calls Tryd.prog 17 #[.slice (some ⟨w.heap.size, 0, none⟩) 2 2, .slice (some ⟨w.heap.size + 1, 0, none⟩) 2 2] ((w.alloc (.cells #[.int .i64 10, .int .i64 11] 3)).alloc (.cells #[.int .i64 10, .int .i64 11] 3)) fun e w' => e = .returned (.bool true) ∧ ∃ n, w' = ((w.alloc (.cells #[.int .i64 10, .int .i64 11] 3)).alloc (.cells #[.int .i64 10, .int .i64 11] 3)).drewN n := fun w => by
      have h := cells_two w #[.int .i64 10, .int .i64 11] 3 [10, 11] (by intro i hi; rcases i with _ | _ | i <;> first | rfl | (simp at hi; done) | (simp at hi; omega))
      exact same_any [10, 11] _ _ _ (by decide) h.1 h.2
    have ct' := Lib.hid ct
    have rt' := Lib.hid rt
    have hs' := Lib.hid hs
    clear ct rt hs ht
    go_enter Tryd.func4, Tryd.ntmps4
    go_wp2_with (first | (go_at_call 13; refine (kind_any _ _).mono ?_; rintro e w' ⟨rfl, rfl⟩) | (go_at_call 14; refine (rkind_any _ _).mono ?_; rintro e w' ⟨rfl, rfl⟩) | (go_at_call 15; refine (size_any _ _).mono ?_; rintro e w' ⟨rfl, rfl⟩) | (go_at_call 16; refine (rsize_any _ _).mono ?_; rintro e w' ⟨rfl, rfl⟩) | (go_at_call 18; refine (ct'.out _).mono ?_; rintro e w1 ⟨rfl, rfl⟩) | (go_at_call 19; refine (rt'.out _).mono ?_; rintro e w1 ⟨rfl, rfl⟩) | (go_at_call 17; refine (hs'.out _).mono ?_; rintro e w2 ⟨rfl, n, rfl⟩) | (go_at_call 20; refine (term_any _ _).mono ?_; rintro e w' ⟨rfl, rfl⟩) | (go_at_call 21; refine (rterm_any _ _).mono ?_; rintro e w' ⟨rfl, rfl⟩) | (go_at_call 22; refine (br_any _ _).mono ?_; rintro e w' ⟨rfl, rfl⟩) | (go_at_call 23; refine (rbr_any _ _).mono ?_; rintro e w' ⟨rfl, rfl⟩) | (go_at_call 12; refine (awake_any _ (((hN.alloc _).alloc _).drewN _)).mono ?_; rintro e w1 ⟨rfl, hb1⟩))
    go_returns
    exact ⟨rfl, below_then (by (iterate 2 (try (with_reducible refine below_drewN ?_ _))); go_grown) hb1⟩
  · have ct : ∀ w : World, Calls Tryd.prog 18 #[.int .i64 o] w fun e w' => e = .returned (.slice (some ⟨w.heap.size, 0, none⟩) 1 1) ∧ w' = w.alloc (.cells #[.int .i64 11] 3) := fun w => by
      have := tags_any o w; rw [ht] at this; exact this
    have rt : ∀ w : World, Calls Tryd.prog 19 #[.int .i64 o] w fun e w' => e = .returned (.slice (some ⟨w.heap.size, 0, none⟩) 1 1) ∧ w' = w.alloc (.cells #[.int .i64 11] 3) := fun w => by
      have := rtags_any o w; rw [ht] at this; exact this
    have hs : ∀ w : World, Calls Tryd.prog 17 #[.slice (some ⟨w.heap.size, 0, none⟩) 1 1, .slice (some ⟨w.heap.size + 1, 0, none⟩) 1 1] ((w.alloc (.cells #[.int .i64 11] 3)).alloc (.cells #[.int .i64 11] 3)) fun e w' => e = .returned (.bool true) ∧ ∃ n, w' = ((w.alloc (.cells #[.int .i64 11] 3)).alloc (.cells #[.int .i64 11] 3)).drewN n := fun w => by
      have h := cells_two w #[.int .i64 11] 3 [11] (by intro i hi; rcases i with _ | i <;> first | rfl | (simp at hi; done) | (simp at hi; omega))
      exact same_any [11] _ _ _ (by decide) h.1 h.2
    have ct' := Lib.hid ct
    have rt' := Lib.hid rt
    have hs' := Lib.hid hs
    clear ct rt hs ht
    go_enter Tryd.func4, Tryd.ntmps4
    go_wp2_with (first | (go_at_call 13; refine (kind_any _ _).mono ?_; rintro e w' ⟨rfl, rfl⟩) | (go_at_call 14; refine (rkind_any _ _).mono ?_; rintro e w' ⟨rfl, rfl⟩) | (go_at_call 15; refine (size_any _ _).mono ?_; rintro e w' ⟨rfl, rfl⟩) | (go_at_call 16; refine (rsize_any _ _).mono ?_; rintro e w' ⟨rfl, rfl⟩) | (go_at_call 18; refine (ct'.out _).mono ?_; rintro e w1 ⟨rfl, rfl⟩) | (go_at_call 19; refine (rt'.out _).mono ?_; rintro e w1 ⟨rfl, rfl⟩) | (go_at_call 17; refine (hs'.out _).mono ?_; rintro e w2 ⟨rfl, n, rfl⟩) | (go_at_call 20; refine (term_any _ _).mono ?_; rintro e w' ⟨rfl, rfl⟩) | (go_at_call 21; refine (rterm_any _ _).mono ?_; rintro e w' ⟨rfl, rfl⟩) | (go_at_call 22; refine (br_any _ _).mono ?_; rintro e w' ⟨rfl, rfl⟩) | (go_at_call 23; refine (rbr_any _ _).mono ?_; rintro e w' ⟨rfl, rfl⟩) | (go_at_call 12; refine (awake_any _ (((hN.alloc _).alloc _).drewN _)).mono ?_; rintro e w1 ⟨rfl, hb1⟩))
    go_returns
    exact ⟨rfl, below_then (by (iterate 2 (try (with_reducible refine below_drewN ?_ _))); go_grown) hb1⟩
  · have ct : ∀ w : World, Calls Tryd.prog 18 #[.int .i64 o] w fun e w' => e = .returned (.slice (some ⟨w.heap.size, 0, none⟩) 1 1) ∧ w' = w.alloc (.cells #[.int .i64 7] 3) := fun w => by
      have := tags_any o w; rw [ht] at this; exact this
    have rt : ∀ w : World, Calls Tryd.prog 19 #[.int .i64 o] w fun e w' => e = .returned (.slice (some ⟨w.heap.size, 0, none⟩) 1 1) ∧ w' = w.alloc (.cells #[.int .i64 7] 3) := fun w => by
      have := rtags_any o w; rw [ht] at this; exact this
    have hs : ∀ w : World, Calls Tryd.prog 17 #[.slice (some ⟨w.heap.size, 0, none⟩) 1 1, .slice (some ⟨w.heap.size + 1, 0, none⟩) 1 1] ((w.alloc (.cells #[.int .i64 7] 3)).alloc (.cells #[.int .i64 7] 3)) fun e w' => e = .returned (.bool true) ∧ ∃ n, w' = ((w.alloc (.cells #[.int .i64 7] 3)).alloc (.cells #[.int .i64 7] 3)).drewN n := fun w => by
      have h := cells_two w #[.int .i64 7] 3 [7] (by intro i hi; rcases i with _ | i <;> first | rfl | (simp at hi; done) | (simp at hi; omega))
      exact same_any [7] _ _ _ (by decide) h.1 h.2
    have ct' := Lib.hid ct
    have rt' := Lib.hid rt
    have hs' := Lib.hid hs
    clear ct rt hs ht
    go_enter Tryd.func4, Tryd.ntmps4
    go_wp2_with (first | (go_at_call 13; refine (kind_any _ _).mono ?_; rintro e w' ⟨rfl, rfl⟩) | (go_at_call 14; refine (rkind_any _ _).mono ?_; rintro e w' ⟨rfl, rfl⟩) | (go_at_call 15; refine (size_any _ _).mono ?_; rintro e w' ⟨rfl, rfl⟩) | (go_at_call 16; refine (rsize_any _ _).mono ?_; rintro e w' ⟨rfl, rfl⟩) | (go_at_call 18; refine (ct'.out _).mono ?_; rintro e w1 ⟨rfl, rfl⟩) | (go_at_call 19; refine (rt'.out _).mono ?_; rintro e w1 ⟨rfl, rfl⟩) | (go_at_call 17; refine (hs'.out _).mono ?_; rintro e w2 ⟨rfl, n, rfl⟩) | (go_at_call 20; refine (term_any _ _).mono ?_; rintro e w' ⟨rfl, rfl⟩) | (go_at_call 21; refine (rterm_any _ _).mono ?_; rintro e w' ⟨rfl, rfl⟩) | (go_at_call 22; refine (br_any _ _).mono ?_; rintro e w' ⟨rfl, rfl⟩) | (go_at_call 23; refine (rbr_any _ _).mono ?_; rintro e w' ⟨rfl, rfl⟩) | (go_at_call 12; refine (awake_any _ (((hN.alloc _).alloc _).drewN _)).mono ?_; rintro e w1 ⟨rfl, hb1⟩))
    go_returns
    exact ⟨rfl, below_then (by (iterate 2 (try (with_reducible refine below_drewN ?_ _))); go_grown) hb1⟩
  · have ct : ∀ w : World, Calls Tryd.prog 18 #[.int .i64 o] w fun e w' => e = .returned (.slice (some ⟨w.heap.size, 0, none⟩) 1 1) ∧ w' = w.alloc (.cells #[.int .i64 1] 3) := fun w => by
      have := tags_any o w; rw [ht] at this; exact this
    have rt : ∀ w : World, Calls Tryd.prog 19 #[.int .i64 o] w fun e w' => e = .returned (.slice (some ⟨w.heap.size, 0, none⟩) 1 1) ∧ w' = w.alloc (.cells #[.int .i64 1] 3) := fun w => by
      have := rtags_any o w; rw [ht] at this; exact this
    have hs : ∀ w : World, Calls Tryd.prog 17 #[.slice (some ⟨w.heap.size, 0, none⟩) 1 1, .slice (some ⟨w.heap.size + 1, 0, none⟩) 1 1] ((w.alloc (.cells #[.int .i64 1] 3)).alloc (.cells #[.int .i64 1] 3)) fun e w' => e = .returned (.bool true) ∧ ∃ n, w' = ((w.alloc (.cells #[.int .i64 1] 3)).alloc (.cells #[.int .i64 1] 3)).drewN n := fun w => by
      have h := cells_two w #[.int .i64 1] 3 [1] (by intro i hi; rcases i with _ | i <;> first | rfl | (simp at hi; done) | (simp at hi; omega))
      exact same_any [1] _ _ _ (by decide) h.1 h.2
    have ct' := Lib.hid ct
    have rt' := Lib.hid rt
    have hs' := Lib.hid hs
    clear ct rt hs ht
    go_enter Tryd.func4, Tryd.ntmps4
    go_wp2_with (first | (go_at_call 13; refine (kind_any _ _).mono ?_; rintro e w' ⟨rfl, rfl⟩) | (go_at_call 14; refine (rkind_any _ _).mono ?_; rintro e w' ⟨rfl, rfl⟩) | (go_at_call 15; refine (size_any _ _).mono ?_; rintro e w' ⟨rfl, rfl⟩) | (go_at_call 16; refine (rsize_any _ _).mono ?_; rintro e w' ⟨rfl, rfl⟩) | (go_at_call 18; refine (ct'.out _).mono ?_; rintro e w1 ⟨rfl, rfl⟩) | (go_at_call 19; refine (rt'.out _).mono ?_; rintro e w1 ⟨rfl, rfl⟩) | (go_at_call 17; refine (hs'.out _).mono ?_; rintro e w2 ⟨rfl, n, rfl⟩) | (go_at_call 20; refine (term_any _ _).mono ?_; rintro e w' ⟨rfl, rfl⟩) | (go_at_call 21; refine (rterm_any _ _).mono ?_; rintro e w' ⟨rfl, rfl⟩) | (go_at_call 22; refine (br_any _ _).mono ?_; rintro e w' ⟨rfl, rfl⟩) | (go_at_call 23; refine (rbr_any _ _).mono ?_; rintro e w' ⟨rfl, rfl⟩) | (go_at_call 12; refine (awake_any _ (((hN.alloc _).alloc _).drewN _)).mono ?_; rintro e w1 ⟨rfl, hb1⟩))
    go_returns
    exact ⟨rfl, below_then (by (iterate 2 (try (with_reducible refine below_drewN ?_ _))); go_grown) hb1⟩

theorem ocons_c0 (a o : Int) (h0 : 0 ≤ o) (h1 : o ≤ 1) (ho : a % 81 = o) (ha : 0 ≤ a ∧ a ≤ 255) (w : World) (hN : NamesAt w) :
    Calls Tryd.prog 6 #[.int .u8 a] w fun e w' => e = .returned (.bool true) ∧ Below w.heap.size w w' := by
  obtain ⟨vk, vs, vt, ve, vb, va⟩ := vals_c0 o h0 h1
  clear va
  have e78 := beqF (show o ≠ 78 by omega)
  have ct : ∀ w : World, Calls Tryd.prog 18 #[.int .i64 o] w fun e w' => e = .returned (.slice none 0 0) ∧ w = w' := fun w => by
    have := tags_any o w; rw [vt] at this; exact this.mono fun _ _ ⟨a, b⟩ => ⟨a, b.symm⟩
  have ct' := Lib.hid ct
  clear ct vt
  go_enter Tryd.func6, Tryd.ntmps6
  go_wp2_with (go_at_call 18; refine (ct'.out _).mono ?_; rintro e w' ⟨rfl, rfl⟩)
  refine wp_loop_rounds 1 ?_
  rw [rounds_succ]
  go_wp2_with (first | (go_at_call 13; refine (kind_any _ _).mono ?_; rintro e w' ⟨rfl, rfl⟩) | (go_at_call 15; refine (size_any _ _).mono ?_; rintro e w' ⟨rfl, rfl⟩) | (go_at_call 20; refine (term_any _ _).mono ?_; rintro e w' ⟨rfl, rfl⟩) | (go_at_call 22; refine (br_any _ _).mono ?_; rintro e w' ⟨rfl, rfl⟩) | (go_at_call 12; refine (awake_any _ hN).mono ?_; rintro e w1 ⟨rfl, hb1⟩))
  all_goals
    go_returns
    exact ⟨rfl, hb1⟩

theorem ocons_c2 (a o : Int) (h0 : 2 ≤ o) (h1 : o ≤ 2) (ho : a % 81 = o) (ha : 0 ≤ a ∧ a ≤ 255) (w : World) (hN : NamesAt w) :
    Calls Tryd.prog 6 #[.int .u8 a] w fun e w' => e = .returned (.bool true) ∧ Below w.heap.size w w' := by
  obtain ⟨vk, vs, vt, ve, vb, va⟩ := vals_c2 o h0 h1
  clear va
  obtain rfl : o = 2 := by omega
  clear h0 h1
  have ct : ∀ w : World, Calls Tryd.prog 18 #[.int .i64 2] w fun e w' => e = .returned (.slice none 0 0) ∧ w = w' := fun w => by
    have := tags_any 2 w; rw [vt] at this; exact this.mono fun _ _ ⟨a, b⟩ => ⟨a, b.symm⟩
  have ct' := Lib.hid ct
  clear ct vt
  go_enter Tryd.func6, Tryd.ntmps6
  go_wp2_with (go_at_call 18; refine (ct'.out _).mono ?_; rintro e w' ⟨rfl, rfl⟩)
  refine wp_loop_rounds 1 ?_
  rw [rounds_succ]
  go_wp2_with (first | (go_at_call 13; refine (kind_any _ _).mono ?_; rintro e w' ⟨rfl, rfl⟩) | (go_at_call 15; refine (size_any _ _).mono ?_; rintro e w' ⟨rfl, rfl⟩) | (go_at_call 20; refine (term_any _ _).mono ?_; rintro e w' ⟨rfl, rfl⟩) | (go_at_call 22; refine (br_any _ _).mono ?_; rintro e w' ⟨rfl, rfl⟩) | (go_at_call 12; refine (awake_any _ hN).mono ?_; rintro e w1 ⟨rfl, hb1⟩))
  all_goals
    go_returns
    exact ⟨rfl, hb1⟩

theorem ocons_c3 (a o : Int) (h0 : 3 ≤ o) (h1 : o ≤ 3) (ho : a % 81 = o) (ha : 0 ≤ a ∧ a ≤ 255) (w : World) (hN : NamesAt w) :
    Calls Tryd.prog 6 #[.int .u8 a] w fun e w' => e = .returned (.bool true) ∧ Below w.heap.size w w' := by
  obtain ⟨vk, vs, vt, ve, vb, va⟩ := vals_c3 o h0 h1
  clear va
  obtain rfl : o = 3 := by omega
  clear h0 h1
  have ct : ∀ w : World, Calls Tryd.prog 18 #[.int .i64 3] w fun e w' => e = .returned (.slice (some ⟨w.heap.size, 0, none⟩) 3 3) ∧ w' = w.alloc (.cells #[.int .i64 3, .int .i64 5, .int .i64 8] 3) := fun w => by
    have := tags_any 3 w; rw [vt] at this; exact this
  have ct' := Lib.hid ct
  clear ct vt
  go_enter Tryd.func6, Tryd.ntmps6
  go_wp2_with (go_at_call 18; refine (ct'.out _).mono ?_; rintro e w1 ⟨rfl, rfl⟩)
  refine wp_loop_rounds 3 ?_
  rw [rounds_succ]
  go_wp2
  go_quiet (fail)
  go_wp2
  rw [rounds_succ]
  go_wp2
  go_quiet (fail)
  go_wp2
  rw [rounds_succ]
  go_wp2_with (first | (go_at_call 13; refine (kind_any _ _).mono ?_; rintro e w' ⟨rfl, rfl⟩) | (go_at_call 15; refine (size_any _ _).mono ?_; rintro e w' ⟨rfl, rfl⟩) | (go_at_call 20; refine (term_any _ _).mono ?_; rintro e w' ⟨rfl, rfl⟩) | (go_at_call 22; refine (br_any _ _).mono ?_; rintro e w' ⟨rfl, rfl⟩) | (go_at_call 12; (first | (with_reducible refine (awake_any _ (hN.alloc _)).mono ?_) | (with_reducible refine (awake_any _ ((hN.alloc _).drewN _)).mono ?_) | (with_reducible refine (awake_any _ (((hN.alloc _).drewN _).drewN _)).mono ?_)); rintro e w1 ⟨rfl, hb1⟩))
  all_goals
    go_returns
    exact ⟨rfl, below_then (by (iterate 2 (try (with_reducible refine below_drewN ?_ _))); go_grown) hb1⟩

theorem ocons_c4 (a o : Int) (h0 : 4 ≤ o) (h1 : o ≤ 9) (ho : a % 81 = o) (ha : 0 ≤ a ∧ a ≤ 255) (w : World) (hN : NamesAt w) :
    Calls Tryd.prog 6 #[.int .u8 a] w fun e w' => e = .returned (.bool true) ∧ Below w.heap.size w w' := by
  obtain ⟨vk, vs, vt, ve, vb, va⟩ := vals_c4 o h0 h1
  clear va
  have e78 := beqF (show o ≠ 78 by omega)
  have ct : ∀ w : World, Calls Tryd.prog 18 #[.int .i64 o] w fun e w' => e = .returned (.slice none 0 0) ∧ w = w' := fun w => by
    have := tags_any o w; rw [vt] at this; exact this.mono fun _ _ ⟨a, b⟩ => ⟨a, b.symm⟩
  have ct' := Lib.hid ct
  clear ct vt
  go_enter Tryd.func6, Tryd.ntmps6
  go_wp2_with (go_at_call 18; refine (ct'.out _).mono ?_; rintro e w' ⟨rfl, rfl⟩)
  refine wp_loop_rounds 1 ?_
  rw [rounds_succ]
  go_wp2_with (first | (go_at_call 13; refine (kind_any _ _).mono ?_; rintro e w' ⟨rfl, rfl⟩) | (go_at_call 15; refine (size_any _ _).mono ?_; rintro e w' ⟨rfl, rfl⟩) | (go_at_call 20; refine (term_any _ _).mono ?_; rintro e w' ⟨rfl, rfl⟩) | (go_at_call 22; refine (br_any _ _).mono ?_; rintro e w' ⟨rfl, rfl⟩) | (go_at_call 12; refine (awake_any _ hN).mono ?_; rintro e w1 ⟨rfl, hb1⟩))
  all_goals
    go_returns
    exact ⟨rfl, hb1⟩

theorem ocons_c10 (a o : Int) (h0 : 10 ≤ o) (h1 : o ≤ 10) (ho : a % 81 = o) (ha : 0 ≤ a ∧ a ≤ 255) (w : World) (hN : NamesAt w) :
    Calls Tryd.prog 6 #[.int .u8 a] w fun e w' => e = .returned (.bool true) ∧ Below w.heap.size w w' := by
  obtain ⟨vk, vs, vt, ve, vb, va⟩ := vals_c10 o h0 h1
  clear va
  obtain rfl : o = 10 := by omega
  clear h0 h1
  have ct : ∀ w : World, Calls Tryd.prog 18 #[.int .i64 10] w fun e w' => e = .returned (.slice none 0 0) ∧ w = w' := fun w => by
    have := tags_any 10 w; rw [vt] at this; exact this.mono fun _ _ ⟨a, b⟩ => ⟨a, b.symm⟩
  have ct' := Lib.hid ct
  clear ct vt
  go_enter Tryd.func6, Tryd.ntmps6
  go_wp2_with (go_at_call 18; refine (ct'.out _).mono ?_; rintro e w' ⟨rfl, rfl⟩)
  refine wp_loop_rounds 1 ?_
  rw [rounds_succ]
  go_wp2_with (first | (go_at_call 13; refine (kind_any _ _).mono ?_; rintro e w' ⟨rfl, rfl⟩) | (go_at_call 15; refine (size_any _ _).mono ?_; rintro e w' ⟨rfl, rfl⟩) | (go_at_call 20; refine (term_any _ _).mono ?_; rintro e w' ⟨rfl, rfl⟩) | (go_at_call 22; refine (br_any _ _).mono ?_; rintro e w' ⟨rfl, rfl⟩) | (go_at_call 12; refine (awake_any _ hN).mono ?_; rintro e w1 ⟨rfl, hb1⟩))
  all_goals
    go_returns
    exact ⟨rfl, hb1⟩

theorem ocons_c11 (a o : Int) (h0 : 11 ≤ o) (h1 : o ≤ 35) (ho : a % 81 = o) (ha : 0 ≤ a ∧ a ≤ 255) (w : World) (hN : NamesAt w) :
    Calls Tryd.prog 6 #[.int .u8 a] w fun e w' => e = .returned (.bool true) ∧ Below w.heap.size w w' := by
  obtain ⟨vk, vs, vt, ve, vb, va⟩ := vals_c11 o h0 h1
  clear va
  have e78 := beqF (show o ≠ 78 by omega)
  have ct : ∀ w : World, Calls Tryd.prog 18 #[.int .i64 o] w fun e w' => e = .returned (.slice none 0 0) ∧ w = w' := fun w => by
    have := tags_any o w; rw [vt] at this; exact this.mono fun _ _ ⟨a, b⟩ => ⟨a, b.symm⟩
  have ct' := Lib.hid ct
  clear ct vt
  go_enter Tryd.func6, Tryd.ntmps6
  go_wp2_with (go_at_call 18; refine (ct'.out _).mono ?_; rintro e w' ⟨rfl, rfl⟩)
  refine wp_loop_rounds 1 ?_
  rw [rounds_succ]
  go_wp2_with (first | (go_at_call 13; refine (kind_any _ _).mono ?_; rintro e w' ⟨rfl, rfl⟩) | (go_at_call 15; refine (size_any _ _).mono ?_; rintro e w' ⟨rfl, rfl⟩) | (go_at_call 20; refine (term_any _ _).mono ?_; rintro e w' ⟨rfl, rfl⟩) | (go_at_call 22; refine (br_any _ _).mono ?_; rintro e w' ⟨rfl, rfl⟩) | (go_at_call 12; refine (awake_any _ hN).mono ?_; rintro e w1 ⟨rfl, hb1⟩))
  all_goals
    go_returns
    exact ⟨rfl, hb1⟩

theorem ocons_c36 (a o : Int) (h0 : 36 ≤ o) (h1 : o ≤ 51) (ho : a % 81 = o) (ha : 0 ≤ a ∧ a ≤ 255) (w : World) (hN : NamesAt w) :
    Calls Tryd.prog 6 #[.int .u8 a] w fun e w' => e = .returned (.bool true) ∧ Below w.heap.size w w' := by
  obtain ⟨vk, vs, vt, ve, vb, va⟩ := vals_c36 o h0 h1
  clear va
  have e78 := beqF (show o ≠ 78 by omega)
  have ct : ∀ w : World, Calls Tryd.prog 18 #[.int .i64 o] w fun e w' => e = .returned (.slice none 0 0) ∧ w = w' := fun w => by
    have := tags_any o w; rw [vt] at this; exact this.mono fun _ _ ⟨a, b⟩ => ⟨a, b.symm⟩
  have ct' := Lib.hid ct
  clear ct vt
  go_enter Tryd.func6, Tryd.ntmps6
  go_wp2_with (go_at_call 18; refine (ct'.out _).mono ?_; rintro e w' ⟨rfl, rfl⟩)
  refine wp_loop_rounds 1 ?_
  rw [rounds_succ]
  go_wp2_with (first | (go_at_call 13; refine (kind_any _ _).mono ?_; rintro e w' ⟨rfl, rfl⟩) | (go_at_call 15; refine (size_any _ _).mono ?_; rintro e w' ⟨rfl, rfl⟩) | (go_at_call 20; refine (term_any _ _).mono ?_; rintro e w' ⟨rfl, rfl⟩) | (go_at_call 22; refine (br_any _ _).mono ?_; rintro e w' ⟨rfl, rfl⟩) | (go_at_call 12; refine (awake_any _ hN).mono ?_; rintro e w1 ⟨rfl, hb1⟩))
  all_goals
    go_returns
    exact ⟨rfl, hb1⟩

theorem ocons_c52 (a o : Int) (h0 : 52 ≤ o) (h1 : o ≤ 52) (ho : a % 81 = o) (ha : 0 ≤ a ∧ a ≤ 255) (w : World) (hN : NamesAt w) :
    Calls Tryd.prog 6 #[.int .u8 a] w fun e w' => e = .returned (.bool true) ∧ Below w.heap.size w w' := by
  obtain ⟨vk, vs, vt, ve, vb, va⟩ := vals_c52 o h0 h1
  clear va
  obtain rfl : o = 52 := by omega
  clear h0 h1
  have ct : ∀ w : World, Calls Tryd.prog 18 #[.int .i64 52] w fun e w' => e = .returned (.slice none 0 0) ∧ w = w' := fun w => by
    have := tags_any 52 w; rw [vt] at this; exact this.mono fun _ _ ⟨a, b⟩ => ⟨a, b.symm⟩
  have ct' := Lib.hid ct
  clear ct vt
  go_enter Tryd.func6, Tryd.ntmps6
  go_wp2_with (go_at_call 18; refine (ct'.out _).mono ?_; rintro e w' ⟨rfl, rfl⟩)
  refine wp_loop_rounds 1 ?_
  rw [rounds_succ]
  go_wp2_with (first | (go_at_call 13; refine (kind_any _ _).mono ?_; rintro e w' ⟨rfl, rfl⟩) | (go_at_call 15; refine (size_any _ _).mono ?_; rintro e w' ⟨rfl, rfl⟩) | (go_at_call 20; refine (term_any _ _).mono ?_; rintro e w' ⟨rfl, rfl⟩) | (go_at_call 22; refine (br_any _ _).mono ?_; rintro e w' ⟨rfl, rfl⟩) | (go_at_call 12; refine (awake_any _ hN).mono ?_; rintro e w1 ⟨rfl, hb1⟩))
  all_goals
    go_returns
    exact ⟨rfl, hb1⟩

theorem ocons_c53 (a o : Int) (h0 : 53 ≤ o) (h1 : o ≤ 53) (ho : a % 81 = o) (ha : 0 ≤ a ∧ a ≤ 255) (w : World) (hN : NamesAt w) :
    Calls Tryd.prog 6 #[.int .u8 a] w fun e w' => e = .returned (.bool true) ∧ Below w.heap.size w w' := by
  obtain ⟨vk, vs, vt, ve, vb, va⟩ := vals_c53 o h0 h1
  clear va
  obtain rfl : o = 53 := by omega
  clear h0 h1
  have ct : ∀ w : World, Calls Tryd.prog 18 #[.int .i64 53] w fun e w' => e = .returned (.slice none 0 0) ∧ w = w' := fun w => by
    have := tags_any 53 w; rw [vt] at this; exact this.mono fun _ _ ⟨a, b⟩ => ⟨a, b.symm⟩
  have ct' := Lib.hid ct
  clear ct vt
  go_enter Tryd.func6, Tryd.ntmps6
  go_wp2_with (go_at_call 18; refine (ct'.out _).mono ?_; rintro e w' ⟨rfl, rfl⟩)
  refine wp_loop_rounds 1 ?_
  rw [rounds_succ]
  go_wp2_with (first | (go_at_call 13; refine (kind_any _ _).mono ?_; rintro e w' ⟨rfl, rfl⟩) | (go_at_call 15; refine (size_any _ _).mono ?_; rintro e w' ⟨rfl, rfl⟩) | (go_at_call 20; refine (term_any _ _).mono ?_; rintro e w' ⟨rfl, rfl⟩) | (go_at_call 22; refine (br_any _ _).mono ?_; rintro e w' ⟨rfl, rfl⟩) | (go_at_call 12; refine (awake_any _ hN).mono ?_; rintro e w1 ⟨rfl, hb1⟩))
  all_goals
    go_returns
    exact ⟨rfl, hb1⟩

theorem ocons_c54 (a o : Int) (h0 : 54 ≤ o) (h1 : o ≤ 54) (ho : a % 81 = o) (ha : 0 ≤ a ∧ a ≤ 255) (w : World) (hN : NamesAt w) :
    Calls Tryd.prog 6 #[.int .u8 a] w fun e w' => e = .returned (.bool true) ∧ Below w.heap.size w w' := by
  obtain ⟨vk, vs, vt, ve, vb, va⟩ := vals_c54 o h0 h1
  clear va
  obtain rfl : o = 54 := by omega
  clear h0 h1
  have ct : ∀ w : World, Calls Tryd.prog 18 #[.int .i64 54] w fun e w' => e = .returned (.slice none 0 0) ∧ w = w' := fun w => by
    have := tags_any 54 w; rw [vt] at this; exact this.mono fun _ _ ⟨a, b⟩ => ⟨a, b.symm⟩
  have ct' := Lib.hid ct
  clear ct vt
  go_enter Tryd.func6, Tryd.ntmps6
  go_wp2_with (go_at_call 18; refine (ct'.out _).mono ?_; rintro e w' ⟨rfl, rfl⟩)
  refine wp_loop_rounds 1 ?_
  rw [rounds_succ]
  go_wp2_with (first | (go_at_call 13; refine (kind_any _ _).mono ?_; rintro e w' ⟨rfl, rfl⟩) | (go_at_call 15; refine (size_any _ _).mono ?_; rintro e w' ⟨rfl, rfl⟩) | (go_at_call 20; refine (term_any _ _).mono ?_; rintro e w' ⟨rfl, rfl⟩) | (go_at_call 22; refine (br_any _ _).mono ?_; rintro e w' ⟨rfl, rfl⟩) | (go_at_call 12; refine (awake_any _ hN).mono ?_; rintro e w1 ⟨rfl, hb1⟩))
  all_goals
    go_returns
    exact ⟨rfl, hb1⟩

theorem ocons_c55 (a o : Int) (h0 : 55 ≤ o) (h1 : o ≤ 58) (ho : a % 81 = o) (ha : 0 ≤ a ∧ a ≤ 255) (w : World) (hN : NamesAt w) :
    Calls Tryd.prog 6 #[.int .u8 a] w fun e w' => e = .returned (.bool true) ∧ Below w.heap.size w w' := by
  obtain ⟨vk, vs, vt, ve, vb, va⟩ := vals_c55 o h0 h1
  clear va
  have e78 := beqF (show o ≠ 78 by omega)
  have ct : ∀ w : World, Calls Tryd.prog 18 #[.int .i64 o] w fun e w' => e = .returned (.slice none 0 0) ∧ w = w' := fun w => by
    have := tags_any o w; rw [vt] at this; exact this.mono fun _ _ ⟨a, b⟩ => ⟨a, b.symm⟩
  have ct' := Lib.hid ct
  clear ct vt
  go_enter Tryd.func6, Tryd.ntmps6
  go_wp2_with (go_at_call 18; refine (ct'.out _).mono ?_; rintro e w' ⟨rfl, rfl⟩)
  refine wp_loop_rounds 1 ?_
  rw [rounds_succ]
  go_wp2_with (first | (go_at_call 13; refine (kind_any _ _).mono ?_; rintro e w' ⟨rfl, rfl⟩) | (go_at_call 15; refine (size_any _ _).mono ?_; rintro e w' ⟨rfl, rfl⟩) | (go_at_call 20; refine (term_any _ _).mono ?_; rintro e w' ⟨rfl, rfl⟩) | (go_at_call 22; refine (br_any _ _).mono ?_; rintro e w' ⟨rfl, rfl⟩) | (go_at_call 12; refine (awake_any _ hN).mono ?_; rintro e w1 ⟨rfl, hb1⟩))
  all_goals
    go_returns
    exact ⟨rfl, hb1⟩

theorem ocons_c59 (a o : Int) (h0 : 59 ≤ o) (h1 : o ≤ 62) (ho : a % 81 = o) (ha : 0 ≤ a ∧ a ≤ 255) (w : World) (hN : NamesAt w) :
    Calls Tryd.prog 6 #[.int .u8 a] w fun e w' => e = .returned (.bool true) ∧ Below w.heap.size w w' := by
  obtain ⟨vk, vs, vt, ve, vb, va⟩ := vals_c59 o h0 h1
  clear va
  have e78 := beqF (show o ≠ 78 by omega)
  have ct : ∀ w : World, Calls Tryd.prog 18 #[.int .i64 o] w fun e w' => e = .returned (.slice (some ⟨w.heap.size, 0, none⟩) 1 1) ∧ w' = w.alloc (.cells #[.int .i64 9] 3) := fun w => by
    have := tags_any o w; rw [vt] at this; exact this
  have ct' := Lib.hid ct
  clear ct vt
  go_enter Tryd.func6, Tryd.ntmps6
  go_wp2_with (go_at_call 18; refine (ct'.out _).mono ?_; rintro e w1 ⟨rfl, rfl⟩)
  refine wp_loop_rounds 1 ?_
  rw [rounds_succ]
  go_wp2_with (first | (go_at_call 13; refine (kind_any _ _).mono ?_; rintro e w' ⟨rfl, rfl⟩) | (go_at_call 15; refine (size_any _ _).mono ?_; rintro e w' ⟨rfl, rfl⟩) | (go_at_call 20; refine (term_any _ _).mono ?_; rintro e w' ⟨rfl, rfl⟩) | (go_at_call 22; refine (br_any _ _).mono ?_; rintro e w' ⟨rfl, rfl⟩) | (go_at_call 12; (first | (with_reducible refine (awake_any _ (hN.alloc _)).mono ?_) | (with_reducible refine (awake_any _ ((hN.alloc _).drewN _)).mono ?_) | (with_reducible refine (awake_any _ (((hN.alloc _).drewN _).drewN _)).mono ?_)); rintro e w1 ⟨rfl, hb1⟩))
  all_goals
    go_returns
    exact ⟨rfl, below_then (by (iterate 2 (try (with_reducible refine below_drewN ?_ _))); go_grown) hb1⟩

theorem ocons_c63 (a o : Int) (h0 : 63 ≤ o) (h1 : o ≤ 63) (ho : a % 81 = o) (ha : 0 ≤ a ∧ a ≤ 255) (w : World) (hN : NamesAt w) :
    Calls Tryd.prog 6 #[.int .u8 a] w fun e w' => e = .returned (.bool true) ∧ Below w.heap.size w w' := by
  obtain ⟨vk, vs, vt, ve, vb, va⟩ := vals_c63 o h0 h1
  clear va
  obtain rfl : o = 63 := by omega
  clear h0 h1
  have ct : ∀ w : World, Calls Tryd.prog 18 #[.int .i64 63] w fun e w' => e = .returned (.slice (some ⟨w.heap.size, 0, none⟩) 1 1) ∧ w' = w.alloc (.cells #[.int .i64 10] 3) := fun w => by
    have := tags_any 63 w; rw [vt] at this; exact this
  have ct' := Lib.hid ct
  clear ct vt
  go_enter Tryd.func6, Tryd.ntmps6
  go_wp2_with (go_at_call 18; refine (ct'.out _).mono ?_; rintro e w1 ⟨rfl, rfl⟩)
  refine wp_loop_rounds 1 ?_
  rw [rounds_succ]
  go_wp2_with (first | (go_at_call 13; refine (kind_any _ _).mono ?_; rintro e w' ⟨rfl, rfl⟩) | (go_at_call 15; refine (size_any _ _).mono ?_; rintro e w' ⟨rfl, rfl⟩) | (go_at_call 20; refine (term_any _ _).mono ?_; rintro e w' ⟨rfl, rfl⟩) | (go_at_call 22; refine (br_any _ _).mono ?_; rintro e w' ⟨rfl, rfl⟩) | (go_at_call 12; (first | (with_reducible refine (awake_any _ (hN.alloc _)).mono ?_) | (with_reducible refine (awake_any _ ((hN.alloc _).drewN _)).mono ?_) | (with_reducible refine (awake_any _ (((hN.alloc _).drewN _).drewN _)).mono ?_)); rintro e w1 ⟨rfl, hb1⟩))
  all_goals
    go_returns
    exact ⟨rfl, below_then (by (iterate 2 (try (with_reducible refine below_drewN ?_ _))); go_grown) hb1⟩

theorem ocons_c64 (a o : Int) (h0 : 64 ≤ o) (h1 : o ≤ 65) (ho : a % 81 = o) (ha : 0 ≤ a ∧ a ≤ 255) (w : World) (hN : NamesAt w) :
    Calls Tryd.prog 6 #[.int .u8 a] w fun e w' => e = .returned (.bool true) ∧ Below w.heap.size w w' := by
  obtain ⟨vk, vs, vt, ve, vb, va⟩ := vals_c64 o h0 h1
  clear va
  have e78 := beqF (show o ≠ 78 by omega)
  have ct : ∀ w : World, Calls Tryd.prog 18 #[.int .i64 o] w fun e w' => e = .returned (.slice (some ⟨w.heap.size, 0, none⟩) 2 2) ∧ w' = w.alloc (.cells #[.int .i64 10, .int .i64 11] 3) := fun w => by
    have := tags_any o w; rw [vt] at this; exact this
  have ct' := Lib.hid ct
  clear ct vt
  go_enter Tryd.func6, Tryd.ntmps6
  go_wp2_with (go_at_call 18; refine (ct'.out _).mono ?_; rintro e w1 ⟨rfl, rfl⟩)
  refine wp_loop_rounds 2 ?_
  rw [rounds_succ]
  go_wp2
  go_quiet (fail)
  go_wp2
  rw [rounds_succ]
  go_wp2_with (first | (go_at_call 13; refine (kind_any _ _).mono ?_; rintro e w' ⟨rfl, rfl⟩) | (go_at_call 15; refine (size_any _ _).mono ?_; rintro e w' ⟨rfl, rfl⟩) | (go_at_call 20; refine (term_any _ _).mono ?_; rintro e w' ⟨rfl, rfl⟩) | (go_at_call 22; refine (br_any _ _).mono ?_; rintro e w' ⟨rfl, rfl⟩) | (go_at_call 12; (first | (with_reducible refine (awake_any _ (hN.alloc _)).mono ?_) | (with_reducible refine (awake_any _ ((hN.alloc _).drewN _)).mono ?_) | (with_reducible refine (awake_any _ (((hN.alloc _).drewN _).drewN _)).mono ?_)); rintro e w1 ⟨rfl, hb1⟩))
  all_goals
    go_returns
    exact ⟨rfl, below_then (by (iterate 2 (try (with_reducible refine below_drewN ?_ _))); go_grown) hb1⟩

theorem ocons_c66 (a o : Int) (h0 : 66 ≤ o) (h1 : o ≤ 66) (ho : a % 81 = o) (ha : 0 ≤ a ∧ a ≤ 255) (w : World) (hN : NamesAt w) :
    Calls Tryd.prog 6 #[.int .u8 a] w fun e w' => e = .returned (.bool true) ∧ Below w.heap.size w w' := by
  obtain ⟨vk, vs, vt, ve, vb, va⟩ := vals_c66 o h0 h1
  clear va
  obtain rfl : o = 66 := by omega
  clear h0 h1
  have ct : ∀ w : World, Calls Tryd.prog 18 #[.int .i64 66] w fun e w' => e = .returned (.slice (some ⟨w.heap.size, 0, none⟩) 1 1) ∧ w' = w.alloc (.cells #[.int .i64 11] 3) := fun w => by
    have := tags_any 66 w; rw [vt] at this; exact this
  have ct' := Lib.hid ct
  clear ct vt
  go_enter Tryd.func6, Tryd.ntmps6
  go_wp2_with (go_at_call 18; refine (ct'.out _).mono ?_; rintro e w1 ⟨rfl, rfl⟩)
  refine wp_loop_rounds 1 ?_
  rw [rounds_succ]
  go_wp2_with (first | (go_at_call 13; refine (kind_any _ _).mono ?_; rintro e w' ⟨rfl, rfl⟩) | (go_at_call 15; refine (size_any _ _).mono ?_; rintro e w' ⟨rfl, rfl⟩) | (go_at_call 20; refine (term_any _ _).mono ?_; rintro e w' ⟨rfl, rfl⟩) | (go_at_call 22; refine (br_any _ _).mono ?_; rintro e w' ⟨rfl, rfl⟩) | (go_at_call 12; (first | (with_reducible refine (awake_any _ (hN.alloc _)).mono ?_) | (with_reducible refine (awake_any _ ((hN.alloc _).drewN _)).mono ?_) | (with_reducible refine (awake_any _ (((hN.alloc _).drewN _).drewN _)).mono ?_)); rintro e w1 ⟨rfl, hb1⟩))
  all_goals
    go_returns
    exact ⟨rfl, below_then (by (iterate 2 (try (with_reducible refine below_drewN ?_ _))); go_grown) hb1⟩

theorem ocons_c67 (a o : Int) (h0 : 67 ≤ o) (h1 : o ≤ 67) (ho : a % 81 = o) (ha : 0 ≤ a ∧ a ≤ 255) (w : World) (hN : NamesAt w) :
    Calls Tryd.prog 6 #[.int .u8 a] w fun e w' => e = .returned (.bool true) ∧ Below w.heap.size w w' := by
  obtain ⟨vk, vs, vt, ve, vb, va⟩ := vals_c67 o h0 h1
  clear va
  obtain rfl : o = 67 := by omega
  clear h0 h1
  have ct : ∀ w : World, Calls Tryd.prog 18 #[.int .i64 67] w fun e w' => e = .returned (.slice (some ⟨w.heap.size, 0, none⟩) 1 1) ∧ w' = w.alloc (.cells #[.int .i64 7] 3) := fun w => by
    have := tags_any 67 w; rw [vt] at this; exact this
  have ct' := Lib.hid ct
  clear ct vt
  go_enter Tryd.func6, Tryd.ntmps6
  go_wp2_with (go_at_call 18; refine (ct'.out _).mono ?_; rintro e w1 ⟨rfl, rfl⟩)
  refine wp_loop_rounds 1 ?_
  rw [rounds_succ]
  go_wp2_with (first | (go_at_call 13; refine (kind_any _ _).mono ?_; rintro e w' ⟨rfl, rfl⟩) | (go_at_call 15; refine (size_any _ _).mono ?_; rintro e w' ⟨rfl, rfl⟩) | (go_at_call 20; refine (term_any _ _).mono ?_; rintro e w' ⟨rfl, rfl⟩) | (go_at_call 22; refine (br_any _ _).mono ?_; rintro e w' ⟨rfl, rfl⟩) | (go_at_call 12; (first | (with_reducible refine (awake_any _ (hN.alloc _)).mono ?_) | (with_reducible refine (awake_any _ ((hN.alloc _).drewN _)).mono ?_) | (with_reducible refine (awake_any _ (((hN.alloc _).drewN _).drewN _)).mono ?_)); rintro e w1 ⟨rfl, hb1⟩))
  all_goals
    go_returns
    exact ⟨rfl, below_then (by (iterate 2 (try (with_reducible refine below_drewN ?_ _))); go_grown) hb1⟩

theorem ocons_c68 (a o : Int) (h0 : 68 ≤ o) (h1 : o ≤ 68) (ho : a % 81 = o) (ha : 0 ≤ a ∧ a ≤ 255) (w : World) (hN : NamesAt w) :
    Calls Tryd.prog 6 #[.int .u8 a] w fun e w' => e = .returned (.bool true) ∧ Below w.heap.size w w' := by
  obtain ⟨vk, vs, vt, ve, vb, va⟩ := vals_c68 o h0 h1
  clear va
  obtain rfl : o = 68 := by omega
  clear h0 h1
  have ct : ∀ w : World, Calls Tryd.prog 18 #[.int .i64 68] w fun e w' => e = .returned (.slice (some ⟨w.heap.size, 0, none⟩) 1 1) ∧ w' = w.alloc (.cells #[.int .i64 1] 3) := fun w => by
    have := tags_any 68 w; rw [vt] at this; exact this
  have ct' := Lib.hid ct
  clear ct vt
  go_enter Tryd.func6, Tryd.ntmps6
  go_wp2_with (go_at_call 18; refine (ct'.out _).mono ?_; rintro e w1 ⟨rfl, rfl⟩)
  refine wp_loop_rounds 1 ?_
  rw [rounds_succ]
  go_wp2_with (first | (go_at_call 13; refine (kind_any _ _).mono ?_; rintro e w' ⟨rfl, rfl⟩) | (go_at_call 15; refine (size_any _ _).mono ?_; rintro e w' ⟨rfl, rfl⟩) | (go_at_call 20; refine (term_any _ _).mono ?_; rintro e w' ⟨rfl, rfl⟩) | (go_at_call 22; refine (br_any _ _).mono ?_; rintro e w' ⟨rfl, rfl⟩) | (go_at_call 12; (first | (with_reducible refine (awake_any _ (hN.alloc _)).mono ?_) | (with_reducible refine (awake_any _ ((hN.alloc _).drewN _)).mono ?_) | (with_reducible refine (awake_any _ (((hN.alloc _).drewN _).drewN _)).mono ?_)); rintro e w1 ⟨rfl, hb1⟩))
  all_goals
    go_returns
    exact ⟨rfl, below_then (by (iterate 2 (try (with_reducible refine below_drewN ?_ _))); go_grown) hb1⟩

theorem ocons_c69 (a o : Int) (h0 : 69 ≤ o) (h1 : o ≤ 75) (ho : a % 81 = o) (ha : 0 ≤ a ∧ a ≤ 255) (w : World) (hN : NamesAt w) :
    Calls Tryd.prog 6 #[.int .u8 a] w fun e w' => e = .returned (.bool true) ∧ Below w.heap.size w w' := by
  obtain ⟨vk, vs, vt, ve, vb, va⟩ := vals_c69 o h0 h1
  clear va
  have e78 := beqF (show o ≠ 78 by omega)
  have ct : ∀ w : World, Calls Tryd.prog 18 #[.int .i64 o] w fun e w' => e = .returned (.slice none 0 0) ∧ w = w' := fun w => by
    have := tags_any o w; rw [vt] at this; exact this.mono fun _ _ ⟨a, b⟩ => ⟨a, b.symm⟩
  have ct' := Lib.hid ct
  clear ct vt
  go_enter Tryd.func6, Tryd.ntmps6
  go_wp2_with (go_at_call 18; refine (ct'.out _).mono ?_; rintro e w' ⟨rfl, rfl⟩)
  refine wp_loop_rounds 1 ?_
  rw [rounds_succ]
  go_wp2_with (first | (go_at_call 13; refine (kind_any _ _).mono ?_; rintro e w' ⟨rfl, rfl⟩) | (go_at_call 15; refine (size_any _ _).mono ?_; rintro e w' ⟨rfl, rfl⟩) | (go_at_call 20; refine (term_any _ _).mono ?_; rintro e w' ⟨rfl, rfl⟩) | (go_at_call 22; refine (br_any _ _).mono ?_; rintro e w' ⟨rfl, rfl⟩) | (go_at_call 12; refine (awake_any _ hN).mono ?_; rintro e w1 ⟨rfl, hb1⟩))
  all_goals
    go_returns
    exact ⟨rfl, hb1⟩

theorem ocons_c76 (a o : Int) (h0 : 76 ≤ o) (h1 : o ≤ 77) (ho : a % 81 = o) (ha : 0 ≤ a ∧ a ≤ 255) (w : World) (hN : NamesAt w) :
    Calls Tryd.prog 6 #[.int .u8 a] w fun e w' => e = .returned (.bool true) ∧ Below w.heap.size w w' := by
  obtain ⟨vk, vs, vt, ve, vb, va⟩ := vals_c76 o h0 h1
  clear va
  have e78 := beqF (show o ≠ 78 by omega)
  have ct : ∀ w : World, Calls Tryd.prog 18 #[.int .i64 o] w fun e w' => e = .returned (.slice (some ⟨w.heap.size, 0, none⟩) 1 1) ∧ w' = w.alloc (.cells #[.int .i64 7] 3) := fun w => by
    have := tags_any o w; rw [vt] at this; exact this
  have ct' := Lib.hid ct
  clear ct vt
  go_enter Tryd.func6, Tryd.ntmps6
  go_wp2_with (go_at_call 18; refine (ct'.out _).mono ?_; rintro e w1 ⟨rfl, rfl⟩)
  refine wp_loop_rounds 1 ?_
  rw [rounds_succ]
  go_wp2_with (first | (go_at_call 13; refine (kind_any _ _).mono ?_; rintro e w' ⟨rfl, rfl⟩) | (go_at_call 15; refine (size_any _ _).mono ?_; rintro e w' ⟨rfl, rfl⟩) | (go_at_call 20; refine (term_any _ _).mono ?_; rintro e w' ⟨rfl, rfl⟩) | (go_at_call 22; refine (br_any _ _).mono ?_; rintro e w' ⟨rfl, rfl⟩) | (go_at_call 12; (first | (with_reducible refine (awake_any _ (hN.alloc _)).mono ?_) | (with_reducible refine (awake_any _ ((hN.alloc _).drewN _)).mono ?_) | (with_reducible refine (awake_any _ (((hN.alloc _).drewN _).drewN _)).mono ?_)); rintro e w1 ⟨rfl, hb1⟩))
  all_goals
    go_returns
    exact ⟨rfl, below_then (by (iterate 2 (try (with_reducible refine below_drewN ?_ _))); go_grown) hb1⟩

theorem ocons_c78 (a o : Int) (h0 : 78 ≤ o) (h1 : o ≤ 78) (ho : a % 81 = o) (ha : 0 ≤ a ∧ a ≤ 255) (w : World) (hN : NamesAt w) :
    Calls Tryd.prog 6 #[.int .u8 a] w fun e w' => e = .returned (.bool true) ∧ Below w.heap.size w w' := by
  obtain ⟨vk, vs, vt, ve, vb, va⟩ := vals_c78 o h0 h1
  clear va
  obtain rfl : o = 78 := by omega
  clear h0 h1
  have ct : ∀ w : World, Calls Tryd.prog 18 #[.int .i64 78] w fun e w' => e = .returned (.slice none 0 0) ∧ w = w' := fun w => by
    have := tags_any 78 w; rw [vt] at this; exact this.mono fun _ _ ⟨a, b⟩ => ⟨a, b.symm⟩
  have ct' := Lib.hid ct
  clear ct vt
  go_enter Tryd.func6, Tryd.ntmps6
  go_wp2_with (go_at_call 18; refine (ct'.out _).mono ?_; rintro e w' ⟨rfl, rfl⟩)
  refine wp_loop_rounds 1 ?_
  rw [rounds_succ]
  go_wp2_with (first | (go_at_call 13; refine (kind_any _ _).mono ?_; rintro e w' ⟨rfl, rfl⟩) | (go_at_call 15; refine (size_any _ _).mono ?_; rintro e w' ⟨rfl, rfl⟩) | (go_at_call 20; refine (term_any _ _).mono ?_; rintro e w' ⟨rfl, rfl⟩) | (go_at_call 22; refine (br_any _ _).mono ?_; rintro e w' ⟨rfl, rfl⟩) | (go_at_call 12; refine (awake_any _ hN).mono ?_; rintro e w1 ⟨rfl, hb1⟩))
  all_goals
    go_returns
    exact ⟨rfl, hb1⟩

theorem ocons_c79 (a o : Int) (h0 : 79 ≤ o) (h1 : o ≤ 80) (ho : a % 81 = o) (ha : 0 ≤ a ∧ a ≤ 255) (w : World) (hN : NamesAt w) :
    Calls Tryd.prog 6 #[.int .u8 a] w fun e w' => e = .returned (.bool true) ∧ Below w.heap.size w w' := by
  obtain ⟨vk, vs, vt, ve, vb, va⟩ := vals_c79 o h0 h1
  clear va
  have e78 := beqF (show o ≠ 78 by omega)
  have ct : ∀ w : World, Calls Tryd.prog 18 #[.int .i64 o] w fun e w' => e = .returned (.slice none 0 0) ∧ w = w' := fun w => by
    have := tags_any o w; rw [vt] at this; exact this.mono fun _ _ ⟨a, b⟩ => ⟨a, b.symm⟩
  have ct' := Lib.hid ct
  clear ct vt
  go_enter Tryd.func6, Tryd.ntmps6
  go_wp2_with (go_at_call 18; refine (ct'.out _).mono ?_; rintro e w' ⟨rfl, rfl⟩)
  refine wp_loop_rounds 1 ?_
  rw [rounds_succ]
  go_wp2_with (first | (go_at_call 13; refine (kind_any _ _).mono ?_; rintro e w' ⟨rfl, rfl⟩) | (go_at_call 15; refine (size_any _ _).mono ?_; rintro e w' ⟨rfl, rfl⟩) | (go_at_call 20; refine (term_any _ _).mono ?_; rintro e w' ⟨rfl, rfl⟩) | (go_at_call 22; refine (br_any _ _).mono ?_; rintro e w' ⟨rfl, rfl⟩) | (go_at_call 12; refine (awake_any _ hN).mono ?_; rintro e w1 ⟨rfl, hb1⟩))
  all_goals
    go_returns
    exact ⟨rfl, hb1⟩

theorem ocons_any (a : Int) (w0 : (Lit.int .u8 a).wf = true) (w : World) (hN : NamesAt w) :
    Calls Tryd.prog 6 #[.int .u8 a] w fun e w' => e = .returned (.bool true) ∧ Below w.heap.size w w' := by
  have ha := bounds_u8 w0
  rcases opc_cases (a % 81) with h1 | ⟨h0, h1⟩ | ⟨h0, h1⟩ | ⟨h0, h1⟩ | ⟨h0, h1⟩ | ⟨h0, h1⟩ | ⟨h0, h1⟩ | ⟨h0, h1⟩ | ⟨h0, h1⟩ | ⟨h0, h1⟩ | ⟨h0, h1⟩ | ⟨h0, h1⟩ | ⟨h0, h1⟩ | ⟨h0, h1⟩ | ⟨h0, h1⟩ | ⟨h0, h1⟩ | ⟨h0, h1⟩ | ⟨h0, h1⟩ | ⟨h0, h1⟩ | ⟨h0, h1⟩ | ⟨h0, h1⟩ | ⟨h0, h1⟩ | h0
  · omega
  · exact ocons_c0 a _ h0 h1 rfl ha w hN
  · exact ocons_c2 a _ h0 h1 rfl ha w hN
  · exact ocons_c3 a _ h0 h1 rfl ha w hN
  · exact ocons_c4 a _ h0 h1 rfl ha w hN
  · exact ocons_c10 a _ h0 h1 rfl ha w hN
  · exact ocons_c11 a _ h0 h1 rfl ha w hN
  · exact ocons_c36 a _ h0 h1 rfl ha w hN
  · exact ocons_c52 a _ h0 h1 rfl ha w hN
  · exact ocons_c53 a _ h0 h1 rfl ha w hN
  · exact ocons_c54 a _ h0 h1 rfl ha w hN
  · exact ocons_c55 a _ h0 h1 rfl ha w hN
  · exact ocons_c59 a _ h0 h1 rfl ha w hN
  · exact ocons_c63 a _ h0 h1 rfl ha w hN
  · exact ocons_c64 a _ h0 h1 rfl ha w hN
  · exact ocons_c66 a _ h0 h1 rfl ha w hN
  · exact ocons_c67 a _ h0 h1 rfl ha w hN
  · exact ocons_c68 a _ h0 h1 rfl ha w hN
  · exact ocons_c69 a _ h0 h1 rfl ha w hN
  · exact ocons_c76 a _ h0 h1 rfl ha w hN
  · exact ocons_c78 a _ h0 h1 rfl ha w hN
  · exact ocons_c79 a _ h0 h1 rfl ha w hN
  · omega

end Go.Proofs.YtlgjcjcbleiioaaDoor
