/- The statements of layer 7: the examples; names; operands. (Written by wip/gen/opclaw.py.) -/
import Derived.Test.YtlgjcjcbleiioaaDoorOpcRefMem
namespace Go.Proofs.YtlgjcjcbleiioaaDoor
open Go.ChangeShapes Go.WideShapes Go.ChangeAt Go.RowKit
set_option linter.unusedSimpArgs false
set_option linter.unusedVariables false

theorem below_then {w w1 w2 : World} (h1 : Below w.heap.size w w1) (h2 : Below w1.heap.size w1 w2) : Below w.heap.size w w2 := h1.trans (h2.mono h1.size)
theorem NamesAt.lt {w : World} (h : NamesAt w) : 0 < w.heap.size := by
  obtain ⟨t, fr, h⟩ := h
  rcases Nat.lt_or_ge 0 w.heap.size with hlt | hge
  · exact hlt
  · rw [Array.getElem?_eq_none hge] at h; cases h
theorem NamesAt.below {w w' : World} (h : NamesAt w) (hb : Below w.heap.size w w') : NamesAt w' := by
  have hl := h.lt
  obtain ⟨t, fr, h⟩ := h
  exact ⟨t, fr, (hb.block _ hl).trans h⟩
theorem NamesAt.alloc {w : World} (h : NamesAt w) (o : Obj) : NamesAt (w.alloc o) := h.below ((Below.refl _ w).alloc (Nat.le_refl _) o)
theorem NamesAt.drewN {w : World} (h : NamesAt w) (n : Nat) : NamesAt (w.drewN n) := h

theorem cells_two (w : World) (C : Array Value) (T : TypeId) (l : List Int) (hC : ∀ i, i < l.length → C[i]? = some (.int .i64 (l.getD i 0))) :
    (∀ i, i < l.length → ((w.alloc (.cells C T)).alloc (.cells C T)).cell? ⟨w.heap.size, i, none⟩ = some (.int .i64 (l.getD i 0))) ∧
    (∀ i, i < l.length → ((w.alloc (.cells C T)).alloc (.cells C T)).cell? ⟨w.heap.size + 1, i, none⟩ = some (.int .i64 (l.getD i 0))) := by
  have e1 : ((w.alloc (.cells C T)).alloc (.cells C T)).heap[w.heap.size]? = some (.cells C T) := by
    rw [Below.heap_alloc (w.alloc (.cells C T)) _ _ (by simp)]
    exact heap_alloc_new w _
  have e2 : ((w.alloc (.cells C T)).alloc (.cells C T)).heap[w.heap.size + 1]? = some (.cells C T) := by
    have := heap_alloc_new (w.alloc (.cells C T)) (.cells C T)
    simpa using this
  constructor
  · intro i hi
    simp only [World.cell?, e1]
    exact hC i hi
  · intro i hi
    simp only [World.cell?, e2]
    exact hC i hi

theorem awake_any (w : World) (hN : NamesAt w) :
    Calls Tryd.prog 12 #[] w fun e w' => e = .returned (.bool true) ∧ Below w.heap.size w w' := by
  have a1 : lookV ⟨#[105, 102, 110, 111, 110, 110, 117, 108, 108]⟩ = 51 := by decide +kernel
  have a2 : lookB ⟨#[105, 102, 110, 111, 110, 110, 117, 108, 108]⟩ = true := by decide +kernel
  have b1 : nameS 15 = ⟨#[105, 97, 100, 100]⟩ := by decide +kernel
  have c1 : kindV 10 = 5 := by decide +kernel
  have c2 : sizeV 10 = 3 := by decide +kernel
  have d1 : termB 52 = true := by decide +kernel
  have d2 : termB 36 = false := by decide +kernel
  have d3 : brB 36 = true := by decide +kernel
  have ct : ∀ w : World, Calls Tryd.prog 18 #[.int .i64 65] w fun e w' => e = .returned (.slice (some ⟨w.heap.size, 0, none⟩) 2 2) ∧ w' = w.alloc (.cells #[.int .i64 10, .int .i64 11] 3) := fun w => tags_any 65 w
  have hs : ∀ w : World, Calls Tryd.prog 17 #[.slice (some ⟨w.heap.size, 0, none⟩) 2 2, .slice (some ⟨w.heap.size + 1, 0, none⟩) 2 2] ((w.alloc (.cells #[.int .i64 10, .int .i64 11] 3)).alloc (.cells #[.int .i64 10, .int .i64 11] 3)) fun e w' => e = .returned (.bool true) ∧ ∃ n, w' = ((w.alloc (.cells #[.int .i64 10, .int .i64 11] 3)).alloc (.cells #[.int .i64 10, .int .i64 11] 3)).drewN n := fun w => by
    have h := cells_two w #[.int .i64 10, .int .i64 11] 3 [10, 11] (by intro i hi; rcases i with _ | _ | i <;> first | rfl | (simp at hi; omega))
    exact same_any [10, 11] _ _ _ (by decide) h.1 h.2
  have ct' := Lib.hid ct
  have hs' := Lib.hid hs
  clear ct hs
  go_enter Tryd.func12, Tryd.ntmps12
  go_wp2_with (first | (go_at_call 8; refine (look_any _ _ hN).mono ?_; rintro e w' ⟨rfl, rfl⟩) | (go_at_call 7; refine (name_any _ _ hN).mono ?_; rintro e w' ⟨rfl, rfl⟩) | (go_at_call 13; refine (kind_any _ _).mono ?_; rintro e w' ⟨rfl, rfl⟩) | (go_at_call 15; refine (size_any _ _).mono ?_; rintro e w' ⟨rfl, rfl⟩) | (go_at_call 18; refine (ct'.out _).mono ?_; rintro e w1 ⟨rfl, rfl⟩) | (go_at_call 17; refine (hs'.out _).mono ?_; rintro e w2 ⟨rfl, n, rfl⟩) | (go_at_call 20; refine (term_any _ _).mono ?_; rintro e w' ⟨rfl, rfl⟩) | (go_at_call 22; refine (br_any _ _).mono ?_; rintro e w' ⟨rfl, rfl⟩))
  go_returns
  exact ⟨rfl, by (iterate 2 (try (with_reducible refine below_drewN ?_ _))); go_grown⟩

end Go.Proofs.YtlgjcjcbleiioaaDoor
