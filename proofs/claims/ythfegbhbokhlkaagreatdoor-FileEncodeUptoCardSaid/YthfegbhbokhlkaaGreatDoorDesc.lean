/- Layer 4: types. Valid, Element, ArrayOf, Kind, in the package and in its reference. -/
import Derived.Test.YthfegbhbokhlkaaGreatDoorNameLast
namespace Go.Proofs.YthfegbhbokhlkaaGreatDoor
open Go.ChangeShapes Go.WideShapes Go.ChangeAt Go.RowKit Go.PlainAid
set_option linter.unusedSimpArgs false
set_option linter.unusedVariables false

theorem below_al {w W : World} (h : Below w.heap.size w W) (o : Obj) : Below w.heap.size w (W.alloc o) := h.alloc h.size _
def tyV (d b : Int) (n : ByteArray) : Value := .agg #[.int .i64 d, .int .u8 b, .string n]
def validB (d b : Int) (n : ByteArray) : Bool :=
  decide (0 ≤ d ∧ d ≤ 8) && (if b = 73 ∨ b = 74 then n.toList.isEmpty else if b = 76 then clsB n else if b = 86 then decide (d = 0) && n.toList.isEmpty else false)

theorem valid_far {d b : Int} {n : ByteArray} (h : ¬ (0 ≤ d ∧ d ≤ 8)) : validB d b n = false := by unfold validB; rw [decide_eq_false h, Bool.false_and]
theorem valid_in {d b : Int} {n : ByteArray} (h : 0 ≤ d ∧ d ≤ 8) : validB d b n = (if b = 73 ∨ b = 74 then n.toList.isEmpty else if b = 76 then clsB n else if b = 86 then decide (d = 0) && n.toList.isEmpty else false) := by
  unfold validB; rw [decide_eq_true h, Bool.true_and]

theorem valid_any (d b : Int) (n : ByteArray) (w : World) :
    Calls Tryz.prog 112 #[.agg #[.int .i64 d, .int .u8 b, .string n]] w fun e w' => e = .returned (.bool (validB d b n)) ∧ Below w.heap.size w w' := by
  have hB : Below w.heap.size w w := Below.refl _ _
  by_cases hd : 0 ≤ d ∧ d ≤ 8
  · rw [valid_in hd]
    by_cases h1 : b = 73
    · subst h1
      rw [if_pos (by simp)]
      go_enter Tryz.func112, Tryz.ntmps112
      go_wp2
      go_ret
      exact ⟨rfl, below_al hB _⟩
    · by_cases h2 : b = 74
      · subst h2
        rw [if_pos (by simp)]
        go_enter Tryz.func112, Tryz.ntmps112
        go_wp2
        go_ret
        exact ⟨rfl, below_al hB _⟩
      · rw [if_neg (by omega)]
        have e1 := beqF h1
        have e2 := beqF h2
        by_cases h3 : b = 76
        · subst h3
          rw [if_pos rfl]
          go_enter Tryz.func112, Tryz.ntmps112
          go_wp2_with (go_at_call 97; refine (cls_any _ _).mono ?_; rintro e w1 ⟨rfl, hb1⟩; (first | replace hB := Below.trans hB (hb1.mono hB.size) | replace hB := Below.trans (below_al hB _) (hb1.mono (below_al hB _).size) | replace hB := Below.trans (below_al (below_al hB _) _) (hb1.mono (below_al (below_al hB _) _).size)); clear hb1)
          go_ret
          exact ⟨rfl, hB⟩
        · rw [if_neg h3]
          have e3 := beqF h3
          by_cases h4 : b = 86
          · subst h4
            rw [if_pos rfl]
            by_cases h0 : d = 0
            · subst h0
              go_enter Tryz.func112, Tryz.ntmps112
              go_wp2
              go_ret
              exact ⟨rfl, below_al hB _⟩
            · have e0 := beqF h0
              rw [decide_eq_false h0]
              go_enter Tryz.func112, Tryz.ntmps112
              go_wp2
              go_ret
              exact ⟨rfl, below_al hB _⟩
          · rw [if_neg h4]
            have e4 := beqF h4
            go_enter Tryz.func112, Tryz.ntmps112
            go_wp2
            go_ret
            exact ⟨rfl, below_al hB _⟩
  · rw [valid_far hd]
    by_cases h0 : d < 0
    · go_enter Tryz.func112, Tryz.ntmps112
      go_wp2
      go_ret
      exact ⟨rfl, below_al hB _⟩
    · have h8 : 8 < d := by omega
      go_enter Tryz.func112, Tryz.ntmps112
      go_wp2
      go_ret
      exact ⟨rfl, below_al hB _⟩

theorem rvalid_any (d b : Int) (n : ByteArray) (hn : n.size ≤ 9223372036854775807) (w : World) :
    Calls Tryz.prog 108 #[.agg #[.int .i64 d, .int .u8 b, .string n]] w fun e w' => e = .returned (.bool (validB d b n)) ∧ Below w.heap.size w w' := by
  have hB : Below w.heap.size w w := Below.refl _ _
  by_cases hd : 0 ≤ d ∧ d ≤ 8
  · rw [valid_in hd]
    by_cases h1 : b = 73
    · subst h1
      rw [if_pos (by simp)]
      go_enter Tryz.func108, Tryz.ntmps108
      go_wp2
      go_ret
      exact ⟨rfl, below_al hB _⟩
    · by_cases h2 : b = 74
      · subst h2
        rw [if_pos (by simp)]
        go_enter Tryz.func108, Tryz.ntmps108
        go_wp2
        go_ret
        exact ⟨rfl, below_al hB _⟩
      · rw [if_neg (by omega)]
        have e1 := beqF h1
        have e2 := beqF h2
        by_cases h3 : b = 76
        · subst h3
          rw [if_pos rfl]
          go_enter Tryz.func108, Tryz.ntmps108
          go_wp2_with (go_at_call 93; refine (rcls_any _ hn _).mono ?_; rintro e w' ⟨rfl, rfl⟩)
          go_ret
          exact ⟨rfl, below_al hB _⟩
        · rw [if_neg h3]
          have e3 := beqF h3
          by_cases h4 : b = 86
          · subst h4
            rw [if_pos rfl]
            cases hz : n.toList.isEmpty with
            | true =>
              go_enter Tryz.func108, Tryz.ntmps108
              go_wp2
              go_ret
              exact ⟨ret_bool (by by_cases h0 : d = 0 <;> simp [h0]), below_al hB _⟩
            | false =>
              go_enter Tryz.func108, Tryz.ntmps108
              go_wp2
              go_ret
              exact ⟨ret_bool (by by_cases h0 : d = 0 <;> simp [h0]), below_al hB _⟩
          · rw [if_neg h4]
            have e4 := beqF h4
            go_enter Tryz.func108, Tryz.ntmps108
            go_wp2
            go_ret
            exact ⟨rfl, below_al hB _⟩
  · rw [valid_far hd]
    by_cases h0 : d < 0
    · go_enter Tryz.func108, Tryz.ntmps108
      go_wp2
      go_ret
      exact ⟨rfl, below_al hB _⟩
    · have h8 : 8 < d := by omega
      go_enter Tryz.func108, Tryz.ntmps108
      go_wp2
      go_ret
      exact ⟨rfl, below_al hB _⟩

end Go.Proofs.YthfegbhbokhlkaaGreatDoor
