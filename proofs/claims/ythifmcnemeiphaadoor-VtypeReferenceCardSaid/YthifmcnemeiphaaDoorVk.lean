/- Layer 17: Format at every size. -/
import Derived.Test.YthifmcnemeiphaaDoorVi
namespace Go.Proofs.YthifmcnemeiphaaDoor
open Go.ChangeShapes Go.WideShapes Go.ChangeAt Go.RowKit Go.PlainAid
set_option linter.unusedSimpArgs false
set_option linter.unusedVariables false

theorem empty_size {s : ByteArray} (h : s.toList.isEmpty = true) : s.size = 0 := by
  have h1 : s.toList = [] := by simpa using h
  have h2 := len_data s
  have : s = ⟨#[]⟩ := by
    apply ba_ext
    simpa [ByteArray.toList_eq] using h1
  rw [this]; rfl
theorem val_small {d b : Int} {s : ByteArray} (h : validB d b s = true) : s.size ≤ 140737488355328 := by
  rw [valid_in (valid_bd h)] at h
  split at h
  · rw [empty_size h]; omega
  · split at h
    · unfold clsB at h
      rw [Bool.and_eq_true, decide_eq_true_iff] at h
      have := h.1
      omega
    · split at h
      · rw [Bool.and_eq_true] at h
        rw [empty_size h.2]; omega
      · cases h
theorem vv_small {k n d b : Int} {s : ByteArray} {p : Int} (h : vvB k n d b s p = true) : s.size ≤ 140737488355328 := by
  unfold vvB at h
  rw [Bool.and_eq_true] at h
  have h2 := h.2
  split at h2
  · rw [Bool.and_eq_true] at h2
    rw [empty_size h2.2]; omega
  · split at h2
    · rw [Bool.and_eq_true] at h2; exact val_small h2.1
    · split at h2
      · rw [Bool.and_eq_true, Bool.and_eq_true] at h2; exact val_small h2.1.1
      · cases h2
theorem vfmt_all (k n d b : Int) (s : ByteArray) (p : Int) (h0 : -9223372036854775808 ≤ n) (h1 : n ≤ 9223372036854775807) (w : World) (ht : Tab w) :
    Calls Tryd.prog 37 #[.agg #[.int .i64 k, .int .i64 n, .int .i64 d, .int .u8 b, .string s, .int .i64 p]] w fun e w' => e = .returned (.string (vfS k n d b s p)) ∧ Below w.heap.size w w' := by
  cases hv : vvB k n d b s p with
  | true => exact vfmt_any k n d b s p h0 h1 (vv_small hv) w ht
  | false =>
    have hB : Below w.heap.size w w := Below.refl _ _
    have hf : vfS k n d b s p = ⟨#[]⟩ := by unfold vfS; rw [hv]; rfl
    rw [hf]
    go_enter Tryd.func37, Tryd.ntmps37
    go_wp2_with (first | (go_at_call 33; refine (vvalid_any _ _ _ _ _ _ _).mono ?_; rintro e w1 ⟨rfl, hb1⟩; obtain ⟨hc1, hf1⟩ := bcell hb1; have hz1 := hb1.size; (try simp only [World.size_alloc, World.size_setCell] at hz1); (try have hza : w.heap.size < w1.heap.size := by omega); (try have hzb : w.heap.size + 1 < w1.heap.size := by omega); (try have hzc : w.heap.size + 1 + 1 < w1.heap.size := by omega); (try have hzd : wa.heap.size < w1.heap.size := by omega); (try replace hR := (hb1.block w.heap.size (by first | exact lt_heap hR | (have := lt_heap hR; simp; omega))).trans (by first | with_reducible exact hR | with_reducible exact laid_old hR)); replace hB := below_on (w := w) ((by repeat (first | with_reducible exact hB | with_reducible exact Below.refl _ _ | with_reducible refine below_al ?_ _ | with_reducible refine below_st ?_ (by first | exact Nat.le_refl _ | exact Nat.le_add_right _ _ | (simp; omega)) _))) hb1; clear hb1))
    go_ret
    exact ⟨rfl, (by repeat (first | with_reducible exact hB | with_reducible exact Below.refl _ _ | with_reducible refine below_al ?_ _ | with_reducible refine below_st ?_ (by first | exact Nat.le_refl _ | exact Nat.le_add_right _ _ | (simp; omega)) _))⟩
theorem rvfmt_all (k n d b : Int) (s : ByteArray) (p : Int) (h0 : -9223372036854775808 ≤ n) (h1 : n ≤ 9223372036854775807) (hs : s.size ≤ 9223372036854775807) (w : World) (ht : Tab w) :
    Calls Tryd.prog 38 #[.agg #[.int .i64 k, .int .i64 n, .int .i64 d, .int .u8 b, .string s, .int .i64 p]] w fun e w' => e = .returned (.string (vfS k n d b s p)) ∧ Below w.heap.size w w' := by
  cases hv : vvB k n d b s p with
  | true => exact rvfmt_any k n d b s p h0 h1 (vv_small hv) w ht
  | false =>
    have hB : Below w.heap.size w w := Below.refl _ _
    have hf : vfS k n d b s p = ⟨#[]⟩ := by unfold vfS; rw [hv]; rfl
    rw [hf]
    go_enter Tryd.func38, Tryd.ntmps38
    go_wp2_with (first | (go_at_call 34; refine (rvvalid_any _ _ _ _ _ _ hs _).mono ?_; rintro e w1 ⟨rfl, hb1⟩; obtain ⟨hc1, hf1⟩ := bcell hb1; have hz1 := hb1.size; (try simp only [World.size_alloc, World.size_setCell] at hz1); (try have hza : w.heap.size < w1.heap.size := by omega); (try have hzb : w.heap.size + 1 < w1.heap.size := by omega); (try have hzc : w.heap.size + 1 + 1 < w1.heap.size := by omega); (try have hzd : wa.heap.size < w1.heap.size := by omega); (try replace hR := (hb1.block w.heap.size (by first | exact lt_heap hR | (have := lt_heap hR; simp; omega))).trans (by first | with_reducible exact hR | with_reducible exact laid_old hR)); replace hB := below_on (w := w) ((by repeat (first | with_reducible exact hB | with_reducible exact Below.refl _ _ | with_reducible refine below_al ?_ _ | with_reducible refine below_st ?_ (by first | exact Nat.le_refl _ | exact Nat.le_add_right _ _ | (simp; omega)) _))) hb1; clear hb1))
    go_ret
    exact ⟨rfl, (by repeat (first | with_reducible exact hB | with_reducible exact Below.refl _ _ | with_reducible refine below_al ?_ _ | with_reducible refine below_st ?_ (by first | exact Nat.le_refl _ | exact Nat.le_add_right _ _ | (simp; omega)) _))⟩
end Go.Proofs.YthifmcnemeiphaaDoor
