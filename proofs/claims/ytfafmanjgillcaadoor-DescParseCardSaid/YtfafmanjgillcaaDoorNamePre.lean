/- Layer 3: what prefixes a string has. -/
import Derived.Test.YtfafmanjgillcaaDoorNameLaw
namespace Go.Proofs.YtfafmanjgillcaaDoor
open Go.ChangeShapes Go.WideShapes Go.ChangeAt Go.RowKit Go.PlainAid
set_option linter.unusedSimpArgs false
set_option linter.unusedVariables false

theorem app_data (s t : ByteArray) : (s ++ t).data.toList = s.data.toList ++ t.data.toList := by simp
theorem pfx_iff (s p : ByteArray) : pfxB s p = true ↔ p.data.toList <+: s.data.toList := by
  unfold pfxB
  rw [Bool.and_eq_true, decide_eq_true_iff, beq_iff_eq, Lib.toList_data, Lib.toList_data, data_extract, List.drop_zero, Nat.sub_zero, ← len_data p, ← len_data s, List.prefix_iff_eq_take]
  constructor
  · exact fun h => h.2.symm
  · intro h
    refine ⟨?_, h.symm⟩
    have := congrArg List.length h
    rw [List.length_take] at this
    omega
theorem pfx_app (s t : ByteArray) : pfxB (s ++ t) s = true := (pfx_iff _ _).2 (by rw [app_data]; exact List.prefix_append _ _)
theorem pfx_cut (s : ByteArray) (k : Nat) : pfxB s (s.extract 0 k) = true := (pfx_iff _ _).2 (by rw [data_extract]; exact List.take_prefix _ _)
theorem pfx_none (s : ByteArray) : pfxB s ⟨#[]⟩ = true := (pfx_iff _ _).2 (List.nil_prefix)
theorem pfx_over (s t : ByteArray) : pfxB s (s ++ t) = t.toList.isEmpty := by
  rw [Lib.toList_data]
  cases h : t.data.toList with
  | nil => exact (pfx_iff _ _).2 (by rw [app_data, h, List.append_nil]; exact List.prefix_refl _)
  | cons c l =>
    cases hh : pfxB s (s ++ t) with
    | false => rfl
    | true =>
      have := ((pfx_iff _ _).1 hh).length_le
      rw [app_data, h, List.length_append, List.length_cons] at this
      omega

theorem u8_of {a : Int} (h : (Lit.int .u8 a).wf = true) : 0 ≤ a ∧ a ≤ 255 := by
  simp only [Lit.wf, Bool.and_eq_true, decide_eq_true_iff] at h
  exact ⟨h.1, h.2⟩

theorem prefix_law (s t : ByteArray) (a : Int) (ha : 0 ≤ a ∧ a ≤ 255) (hs : s.size ≤ 140737488351232) (ht : t.size ≤ 140737488351232) (w : World) :
    Calls Tryd.prog 6 #[.string s, .string t, .int .u8 a] w fun e w' => e = .returned (.bool true) ∧ Below w.heap.size w w' := by
  have hB : Below w.heap.size w w := Below.refl _ _
  by_cases h : 300 < s.size ∨ 300 < t.size
  · by_cases h1 : 300 < s.size
    · go_enter Tryd.func6, Tryd.ntmps6
      go_wp2_with (go_at_call 14; refine (awake_any _).mono ?_; rintro e w1 ⟨rfl, hb1⟩; replace hB := Below.trans hB (hb1.mono hB.size); clear hb1)
      go_ret
      exact ⟨rfl, hB⟩
    · have h2 : 300 < t.size := by omega
      go_enter Tryd.func6, Tryd.ntmps6
      go_wp2_with (go_at_call 14; refine (awake_any _).mono ?_; rintro e w1 ⟨rfl, hb1⟩; replace hB := Below.trans hB (hb1.mono hB.size); clear hb1)
      go_ret
      exact ⟨rfl, hB⟩
  · have h1 : s.size ≤ 300 := by omega
    have h2 : t.size ≤ 300 := by omega
    clear h
    have p1 := pfx_app s t
    have p2 := pfx_cut s
    have p3 := pfx_none s
    have p4 := pfx_over s t
    have h3 : (s ++ t).size ≤ 600 := by rw [ByteArray.size_append]; omega
    have h5 : 0 ≤ a % ((s.size : Int) + 1) ∧ a % ((s.size : Int) + 1) ≤ s.size := ⟨Int.emod_nonneg _ (by omega), by have := Int.emod_lt_of_pos a (show (0 : Int) < (s.size : Int) + 1 by omega); omega⟩
    go_enter Tryd.func6, Tryd.ntmps6
    go_wp2_with (first | (go_at_call 14; refine (awake_any _).mono ?_; rintro e w1 ⟨rfl, hb1⟩; replace hB := Below.trans hB (hb1.mono hB.size); clear hb1) | (go_at_call 25; refine (pfx_any _ _ (by omega) _).mono ?_; rintro e w' ⟨rfl, rfl⟩) | (go_at_call 28; refine (spfx_any _ _ (by omega) _).mono ?_; rintro e w' ⟨rfl, rfl⟩))
    go_ret
    exact ⟨rfl, hB⟩

end Go.Proofs.YtfafmanjgillcaaDoor
