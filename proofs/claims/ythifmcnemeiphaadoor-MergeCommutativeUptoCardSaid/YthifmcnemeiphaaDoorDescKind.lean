/- Layer 4: Kind, in the package and in its reference. -/
import Derived.Test.YthifmcnemeiphaaDoorDescThree
namespace Go.Proofs.YthifmcnemeiphaaDoor
open Go.ChangeShapes Go.WideShapes Go.ChangeAt Go.RowKit Go.PlainAid
set_option linter.unusedSimpArgs false
set_option linter.unusedVariables false

def kiV (d b : Int) (n : ByteArray) : Int := if validB d b n = true then if b = 86 then 0 else if 0 < d ∨ b = 76 then 3 else if b = 73 then 1 else 2 else 0
theorem valid_base {d b : Int} {n : ByteArray} (h : validB d b n = true) : b = 73 ∨ b = 74 ∨ b = 76 ∨ b = 86 := by
  rw [valid_in (valid_bd h)] at h
  by_cases h1 : b = 73 ∨ b = 74
  · omega
  · rw [if_neg h1] at h
    by_cases h2 : b = 76
    · omega
    · rw [if_neg h2] at h
      by_cases h3 : b = 86
      · omega
      · rw [if_neg h3] at h; cases h
theorem one_box {w w1 : World} {d b : Int} {n : ByteArray} (h : Below (w.alloc (.cells #[.int .i64 d, .int .u8 b, .string n] 41)).heap.size (w.alloc (.cells #[.int .i64 d, .int .u8 b, .string n] 41)) w1) :
    w1.heap[w.heap.size]? = some (.cells #[.int .i64 d, .int .u8 b, .string n] 41) :=
  (h.block w.heap.size (by simp only [World.size_alloc]; omega)).trans (World.alloc_heap_new w _)

theorem kind_any (d b : Int) (n : ByteArray) (w : World) :
    Calls Tryd.prog 69 #[.agg #[.int .i64 d, .int .u8 b, .string n]] w fun e w' => e = .returned (.int .i64 (kiV d b n)) ∧ Below w.heap.size w w' := by
  have hB : Below w.heap.size w w := Below.refl _ _
  cases hv : validB d b n with
  | false =>
    have he : kiV d b n = 0 := by unfold kiV; rw [hv]; rfl
    rw [he]
    go_enter Tryd.func69, Tryd.ntmps69
    go_wp2_with (go_at_call 65; refine (valid_any _ _ _ _).mono ?_; rintro e w1 ⟨rfl, hb1⟩; have k1 := one_box hb1; obtain ⟨c0, c1, c2, f0, f1, f2⟩ := three_cells k1; replace hB := Below.trans (below_al hB _) (hb1.mono (below_al hB _).size); clear hb1 k1)
    go_ret
    exact ⟨rfl, hB⟩
  | true =>
    have hd := valid_bd hv
    by_cases h0 : b = 86
    · subst h0
      have he : kiV d 86 n = 0 := by unfold kiV; rw [hv]; rfl
      rw [he]
      go_enter Tryd.func69, Tryd.ntmps69
      go_wp2_with (go_at_call 65; refine (valid_any _ _ _ _).mono ?_; rintro e w1 ⟨rfl, hb1⟩; have k1 := one_box hb1; obtain ⟨c0, c1, c2, f0, f1, f2⟩ := three_cells k1; replace hB := Below.trans (below_al hB _) (hb1.mono (below_al hB _).size); clear hb1 k1)
      go_ret
      exact ⟨rfl, hB⟩
    · have e0 := beqF h0
      by_cases hp : 0 < d
      · have he : kiV d b n = 3 := by unfold kiV; rw [hv, if_pos rfl, if_neg h0, if_pos (Or.inl hp)]
        rw [he]
        go_enter Tryd.func69, Tryd.ntmps69
        go_wp2_with (go_at_call 65; refine (valid_any _ _ _ _).mono ?_; rintro e w1 ⟨rfl, hb1⟩; have k1 := one_box hb1; obtain ⟨c0, c1, c2, f0, f1, f2⟩ := three_cells k1; replace hB := Below.trans (below_al hB _) (hb1.mono (below_al hB _).size); clear hb1 k1)
        go_ret
        exact ⟨rfl, hB⟩
      · by_cases h76 : b = 76
        · subst h76
          have he : kiV d 76 n = 3 := by unfold kiV; rw [hv, if_pos rfl, if_neg h0, if_pos (Or.inr rfl)]
          rw [he]
          go_enter Tryd.func69, Tryd.ntmps69
          go_wp2_with (go_at_call 65; refine (valid_any _ _ _ _).mono ?_; rintro e w1 ⟨rfl, hb1⟩; have k1 := one_box hb1; obtain ⟨c0, c1, c2, f0, f1, f2⟩ := three_cells k1; replace hB := Below.trans (below_al hB _) (hb1.mono (below_al hB _).size); clear hb1 k1)
          go_ret
          exact ⟨rfl, hB⟩
        · have e76 := beqF h76
          by_cases h73 : b = 73
          · subst h73
            have he : kiV d 73 n = 1 := by unfold kiV; rw [hv, if_pos rfl, if_neg h0, if_neg (by omega)]; rfl
            rw [he]
            go_enter Tryd.func69, Tryd.ntmps69
            go_wp2_with (go_at_call 65; refine (valid_any _ _ _ _).mono ?_; rintro e w1 ⟨rfl, hb1⟩; have k1 := one_box hb1; obtain ⟨c0, c1, c2, f0, f1, f2⟩ := three_cells k1; replace hB := Below.trans (below_al hB _) (hb1.mono (below_al hB _).size); clear hb1 k1)
            go_ret
            exact ⟨rfl, hB⟩
          · have h74 : b = 74 := by have := valid_base hv; omega
            subst h74
            have he : kiV d 74 n = 2 := by unfold kiV; rw [hv, if_pos rfl, if_neg h0, if_neg (by omega)]; rfl
            rw [he]
            go_enter Tryd.func69, Tryd.ntmps69
            go_wp2_with (go_at_call 65; refine (valid_any _ _ _ _).mono ?_; rintro e w1 ⟨rfl, hb1⟩; have k1 := one_box hb1; obtain ⟨c0, c1, c2, f0, f1, f2⟩ := three_cells k1; replace hB := Below.trans (below_al hB _) (hb1.mono (below_al hB _).size); clear hb1 k1)
            go_ret
            exact ⟨rfl, hB⟩

theorem rkind_any (d b : Int) (n : ByteArray) (hn : n.size ≤ 9223372036854775807) (w : World) :
    Calls Tryd.prog 70 #[.agg #[.int .i64 d, .int .u8 b, .string n]] w fun e w' => e = .returned (.int .i64 (kiV d b n)) ∧ Below w.heap.size w w' := by
  have hB : Below w.heap.size w w := Below.refl _ _
  cases hv : validB d b n with
  | false =>
    have he : kiV d b n = 0 := by unfold kiV; rw [hv]; rfl
    rw [he]
    go_enter Tryd.func70, Tryd.ntmps70
    go_wp2_with (go_at_call 67; refine (rvalid_any _ _ _ hn _).mono ?_; rintro e w1 ⟨rfl, hb1⟩; have k1 := one_box hb1; obtain ⟨c0, c1, c2, f0, f1, f2⟩ := three_cells k1; replace hB := Below.trans (below_al hB _) (hb1.mono (below_al hB _).size); clear hb1 k1)
    go_ret
    exact ⟨rfl, hB⟩
  | true =>
    have hd := valid_bd hv
    by_cases h0 : b = 86
    · subst h0
      have he : kiV d 86 n = 0 := by unfold kiV; rw [hv]; rfl
      rw [he]
      go_enter Tryd.func70, Tryd.ntmps70
      go_wp2_with (go_at_call 67; refine (rvalid_any _ _ _ hn _).mono ?_; rintro e w1 ⟨rfl, hb1⟩; have k1 := one_box hb1; obtain ⟨c0, c1, c2, f0, f1, f2⟩ := three_cells k1; replace hB := Below.trans (below_al hB _) (hb1.mono (below_al hB _).size); clear hb1 k1)
      go_ret
      exact ⟨rfl, hB⟩
    · have e0 := beqF h0
      by_cases hp : 0 < d
      · have he : kiV d b n = 3 := by unfold kiV; rw [hv, if_pos rfl, if_neg h0, if_pos (Or.inl hp)]
        rw [he]
        go_enter Tryd.func70, Tryd.ntmps70
        go_wp2_with (go_at_call 67; refine (rvalid_any _ _ _ hn _).mono ?_; rintro e w1 ⟨rfl, hb1⟩; have k1 := one_box hb1; obtain ⟨c0, c1, c2, f0, f1, f2⟩ := three_cells k1; replace hB := Below.trans (below_al hB _) (hb1.mono (below_al hB _).size); clear hb1 k1)
        go_ret
        exact ⟨rfl, hB⟩
      · by_cases h76 : b = 76
        · subst h76
          have he : kiV d 76 n = 3 := by unfold kiV; rw [hv, if_pos rfl, if_neg h0, if_pos (Or.inr rfl)]
          rw [he]
          go_enter Tryd.func70, Tryd.ntmps70
          go_wp2_with (go_at_call 67; refine (rvalid_any _ _ _ hn _).mono ?_; rintro e w1 ⟨rfl, hb1⟩; have k1 := one_box hb1; obtain ⟨c0, c1, c2, f0, f1, f2⟩ := three_cells k1; replace hB := Below.trans (below_al hB _) (hb1.mono (below_al hB _).size); clear hb1 k1)
          go_ret
          exact ⟨rfl, hB⟩
        · have e76 := beqF h76
          by_cases h73 : b = 73
          · subst h73
            have he : kiV d 73 n = 1 := by unfold kiV; rw [hv, if_pos rfl, if_neg h0, if_neg (by omega)]; rfl
            rw [he]
            go_enter Tryd.func70, Tryd.ntmps70
            go_wp2_with (go_at_call 67; refine (rvalid_any _ _ _ hn _).mono ?_; rintro e w1 ⟨rfl, hb1⟩; have k1 := one_box hb1; obtain ⟨c0, c1, c2, f0, f1, f2⟩ := three_cells k1; replace hB := Below.trans (below_al hB _) (hb1.mono (below_al hB _).size); clear hb1 k1)
            go_ret
            exact ⟨rfl, hB⟩
          · have h74 : b = 74 := by have := valid_base hv; omega
            subst h74
            have he : kiV d 74 n = 2 := by unfold kiV; rw [hv, if_pos rfl, if_neg h0, if_neg (by omega)]; rfl
            rw [he]
            go_enter Tryd.func70, Tryd.ntmps70
            go_wp2_with (go_at_call 67; refine (rvalid_any _ _ _ hn _).mono ?_; rintro e w1 ⟨rfl, hb1⟩; have k1 := one_box hb1; obtain ⟨c0, c1, c2, f0, f1, f2⟩ := three_cells k1; replace hB := Below.trans (below_al hB _) (hb1.mono (below_al hB _).size); clear hb1 k1)
            go_ret
            exact ⟨rfl, hB⟩

end Go.Proofs.YthifmcnemeiphaaDoor
