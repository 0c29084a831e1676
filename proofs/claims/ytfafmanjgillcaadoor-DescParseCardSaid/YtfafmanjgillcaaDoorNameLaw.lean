/- Layer 3's examples, and the statement that holds the package against its reference. -/
import Derived.Test.YtfafmanjgillcaaDoorNameLast
namespace Go.Proofs.YtfafmanjgillcaaDoor
open Go.ChangeShapes Go.WideShapes Go.ChangeAt Go.RowKit Go.PlainAid
set_option linter.unusedSimpArgs false
set_option linter.unusedVariables false

theorem aw1 : clsB ⟨#[97, 47, 98, 95, 49, 47, 36, 99]⟩ = true := by decide +kernel
theorem aw2 : clsB ⟨#[97, 47, 47, 98]⟩ = false := by decide +kernel
theorem aw3 : clsB ⟨#[49, 97]⟩ = false := by decide +kernel
theorem aw4 : clsB ⟨#[]⟩ = false := by decide +kernel
theorem aw5 : clsB ⟨#[60, 105, 110, 105, 116, 62]⟩ = false := by decide +kernel
theorem aw6 : memB ⟨#[60, 105, 110, 105, 116, 62]⟩ = true := by decide +kernel
theorem aw7 : pkgB ⟨#[97, 47, 98, 47, 99]⟩ = ⟨#[97, 47, 98]⟩ := by decide +kernel
theorem aw8 : simB ⟨#[97, 47, 98, 47, 99]⟩ = ⟨#[99]⟩ := by decide +kernel
theorem aw9 : joinB ⟨#[]⟩ ⟨#[120]⟩ = ⟨#[120]⟩ := by decide +kernel
theorem aw10 : joinB ⟨#[112]⟩ ⟨#[120]⟩ = ⟨#[112, 47, 120]⟩ := by decide +kernel
theorem aw11 : pfxB ⟨#[97, 98, 99]⟩ ⟨#[97, 98]⟩ = true := by decide +kernel
theorem aw12 : pfxB ⟨#[97, 98]⟩ ⟨#[97, 98, 99]⟩ = false := by decide +kernel

set_option maxRecDepth 100000 in
set_option maxHeartbeats 2000000 in
theorem awake_any (w : World) : Calls Tryd.prog 14 #[] w fun e w' => e = .returned (.bool true) ∧ Below w.heap.size w w' := by
  have hB : Below w.heap.size w w := Below.refl _ _
  have a1 := aw1
  have a2 := aw2
  have a3 := aw3
  have a4 := aw4
  have a5 := aw5
  have a6 := aw6
  have a7 := aw7
  have a8 := aw8
  have a9 := aw9
  have a10 := aw10
  have a11 := aw11
  have a12 := aw12
  go_enter Tryd.func14, Tryd.ntmps14
  go_wp2_with (first | (go_at_call 15; refine (cls_any _ _).mono ?_; rintro e w1 ⟨rfl, hb1⟩; replace hB := Below.trans hB (hb1.mono hB.size); clear hb1) | (go_at_call 17; refine (mem_any _ (by decide) _).mono ?_; rintro e w' ⟨rfl, rfl⟩) | (go_at_call 19; refine (pkg_any _ (by decide) _).mono ?_; rintro e w' ⟨rfl, rfl⟩) | (go_at_call 21; refine (sim_any _ (by decide) _).mono ?_; rintro e w' ⟨rfl, rfl⟩) | (go_at_call 23; refine (join_any _ _ (by decide) (by decide) _).mono ?_; rintro e w' ⟨rfl, rfl⟩) | (go_at_call 25; refine (pfx_any _ _ (by decide) _).mono ?_; rintro e w' ⟨rfl, rfl⟩))
  go_ret
  exact ⟨rfl, hB⟩

theorem validity_law (s t : ByteArray) (hs : s.size ≤ 140737488351232) (ht : t.size ≤ 140737488351232) (w : World) :
    Calls Tryd.prog 3 #[.string s, .string t] w fun e w' => e = .returned (.bool true) ∧ Below w.heap.size w w' := by
  have hB : Below w.heap.size w w := Below.refl _ _
  by_cases h : 2000 < s.size ∨ 2000 < t.size
  · by_cases h1 : 2000 < s.size
    · go_enter Tryd.func3, Tryd.ntmps3
      go_wp2_with (go_at_call 14; refine (awake_any _).mono ?_; rintro e w1 ⟨rfl, hb1⟩; replace hB := Below.trans hB (hb1.mono hB.size); clear hb1)
      go_ret
      exact ⟨rfl, hB⟩
    · have h2 : 2000 < t.size := by omega
      go_enter Tryd.func3, Tryd.ntmps3
      go_wp2_with (go_at_call 14; refine (awake_any _).mono ?_; rintro e w1 ⟨rfl, hb1⟩; replace hB := Below.trans hB (hb1.mono hB.size); clear hb1)
      go_ret
      exact ⟨rfl, hB⟩
  · have h1 : s.size ≤ 2000 := by omega
    have h2 : t.size ≤ 2000 := by omega
    clear h
    go_enter Tryd.func3, Tryd.ntmps3
    go_wp2_with (first | (go_at_call 14; refine (awake_any _).mono ?_; rintro e w1 ⟨rfl, hb1⟩; replace hB := Below.trans hB (hb1.mono hB.size); clear hb1) | (go_at_call 15; refine (cls_any _ _).mono ?_; rintro e w1 ⟨rfl, hb1⟩; replace hB := Below.trans hB (hb1.mono hB.size); clear hb1) | (go_at_call 17; refine (mem_any _ (by omega) _).mono ?_; rintro e w' ⟨rfl, rfl⟩) | (go_at_call 19; refine (pkg_any _ (by omega) _).mono ?_; rintro e w' ⟨rfl, rfl⟩) | (go_at_call 21; refine (sim_any _ (by omega) _).mono ?_; rintro e w' ⟨rfl, rfl⟩) | (go_at_call 23; refine (join_any _ _ (by omega) (by omega) _).mono ?_; rintro e w' ⟨rfl, rfl⟩) | (go_at_call 25; refine (pfx_any _ _ (by omega) _).mono ?_; rintro e w' ⟨rfl, rfl⟩) | (go_at_call 16; refine (rcls_any _ (by omega) _).mono ?_; rintro e w' ⟨rfl, rfl⟩) | (go_at_call 18; refine (rmem_any _ (by omega) _).mono ?_; rintro e w' ⟨rfl, rfl⟩) | (go_at_call 20; refine (rpkg_any _ (by omega) _).mono ?_; rintro e w' ⟨rfl, rfl⟩) | (go_at_call 22; refine (rsim_any _ (by omega) _).mono ?_; rintro e w' ⟨rfl, rfl⟩) | (go_at_call 24; refine (rjoin_any _ _ (by omega) (by omega) _).mono ?_; rintro e w' ⟨rfl, rfl⟩) | (go_at_call 26; refine (rpfx_any _ _ (by omega) _).mono ?_; rintro e w' ⟨rfl, rfl⟩))
    go_ret
    exact ⟨rfl, hB⟩

end Go.Proofs.YtfafmanjgillcaaDoor
