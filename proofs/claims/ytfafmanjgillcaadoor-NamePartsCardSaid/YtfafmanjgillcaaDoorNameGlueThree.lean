/- Layer 3: the statement on what class names are made of. -/
import Derived.Test.YtfafmanjgillcaaDoorNameGlue
namespace Go.Proofs.YtfafmanjgillcaaDoor
open Go.ChangeShapes Go.WideShapes Go.ChangeAt Go.RowKit Go.PlainAid
set_option linter.unusedSimpArgs false
set_option linter.unusedVariables false

set_option maxHeartbeats 4000000 in
theorem parts_c_out (s t : ByteArray) (c : Int) (hc : 0 ≤ c ∧ c ≤ 255) (h1 : s.size ≤ 200) (h2 : t.size ≤ 200) (e1 : clsB s = true) (e2 : clsB t = true) (e3 : (s.size : Int) + t.size + 1 ≤ 64) (hf : foreignB c) (w : World) :
    Calls Tryd.prog 5 #[.string s, .string t, .int .u8 c] w fun e w' => e = .returned (.bool true) ∧ Below w.heap.size w w' := by
  have hB : Below w.heap.size w w := Below.refl _ _
  have f1 := cls_glued s t e1 e2
  rw [decide_eq_true e3] at f1
  have f2 := cls_double s t
  have f3 := cls_blank s t
  have kc := conv_one c
  have z1 := one_size c
  have hq := three_chars hc
  rw [show Lib.indexByte [47, 95, 36] c.toNat.toUInt8 = threeI c from rfl] at hq
  unfold foreignB at hf
  have hi : threeI c < 0 := by omega
  have d1 := cls_odd s t hc hf
  have d2 := mem_odd s t hc hf
  have h3 : (s ++ one c ++ t).size ≤ 9223372036854775807 := by rw [ByteArray.size_append, ByteArray.size_append, z1]; omega
  obtain ⟨_, _, _, hf1, hf2, hf3⟩ := hf
  by_cases h60 : c = 60
  · subst h60
    clear d2 hq
    go_enter Tryd.func5, Tryd.ntmps5
    go_wp2_with (first | (go_at_call 14; refine (awake_any _).mono ?_; rintro e w1 ⟨rfl, hb1⟩; (first | replace hB := Below.trans hB (hb1.mono hB.size) | replace hB := Below.trans (below_al hB _) (hb1.mono (below_al hB _).size) | replace hB := Below.trans (below_al (below_al hB _) _) (hb1.mono (below_al (below_al hB _) _).size)); clear hb1) | (go_at_call 15; refine (cls_any _ _).mono ?_; rintro e w1 ⟨rfl, hb1⟩; (first | replace hB := Below.trans hB (hb1.mono hB.size) | replace hB := Below.trans (below_al hB _) (hb1.mono (below_al hB _).size) | replace hB := Below.trans (below_al (below_al hB _) _) (hb1.mono (below_al (below_al hB _) _).size)); clear hb1) | (go_at_call 17; refine (mem_any _ (by omega) _).mono ?_; rintro e w' ⟨rfl, rfl⟩) | (go_at_call 27; refine (contains_one _ _).mono ?_; rintro e w' ⟨rfl, rfl⟩))
    all_goals go_ret
    all_goals exact ⟨rfl, by first | exact hB | exact below_al hB _ | exact below_al (below_al hB _) _⟩
  · by_cases h62 : c = 62
    · subst h62
      clear d2 hq
      go_enter Tryd.func5, Tryd.ntmps5
      go_wp2_with (first | (go_at_call 14; refine (awake_any _).mono ?_; rintro e w1 ⟨rfl, hb1⟩; (first | replace hB := Below.trans hB (hb1.mono hB.size) | replace hB := Below.trans (below_al hB _) (hb1.mono (below_al hB _).size) | replace hB := Below.trans (below_al (below_al hB _) _) (hb1.mono (below_al (below_al hB _) _).size)); clear hb1) | (go_at_call 15; refine (cls_any _ _).mono ?_; rintro e w1 ⟨rfl, hb1⟩; (first | replace hB := Below.trans hB (hb1.mono hB.size) | replace hB := Below.trans (below_al hB _) (hb1.mono (below_al hB _).size) | replace hB := Below.trans (below_al (below_al hB _) _) (hb1.mono (below_al (below_al hB _) _).size)); clear hb1) | (go_at_call 17; refine (mem_any _ (by omega) _).mono ?_; rintro e w' ⟨rfl, rfl⟩) | (go_at_call 27; refine (contains_one _ _).mono ?_; rintro e w' ⟨rfl, rfl⟩))
      all_goals go_ret
      all_goals exact ⟨rfl, by first | exact hB | exact below_al hB _ | exact below_al (below_al hB _) _⟩
    · have d3 := d2 h60 h62
      clear d2 hq
      go_enter Tryd.func5, Tryd.ntmps5
      go_wp2_with (first | (go_at_call 14; refine (awake_any _).mono ?_; rintro e w1 ⟨rfl, hb1⟩; (first | replace hB := Below.trans hB (hb1.mono hB.size) | replace hB := Below.trans (below_al hB _) (hb1.mono (below_al hB _).size) | replace hB := Below.trans (below_al (below_al hB _) _) (hb1.mono (below_al (below_al hB _) _).size)); clear hb1) | (go_at_call 15; refine (cls_any _ _).mono ?_; rintro e w1 ⟨rfl, hb1⟩; (first | replace hB := Below.trans hB (hb1.mono hB.size) | replace hB := Below.trans (below_al hB _) (hb1.mono (below_al hB _).size) | replace hB := Below.trans (below_al (below_al hB _) _) (hb1.mono (below_al (below_al hB _) _).size)); clear hb1) | (go_at_call 17; refine (mem_any _ (by omega) _).mono ?_; rintro e w' ⟨rfl, rfl⟩) | (go_at_call 27; refine (contains_one _ _).mono ?_; rintro e w' ⟨rfl, rfl⟩))
      all_goals go_ret
      all_goals exact ⟨rfl, by first | exact hB | exact below_al hB _ | exact below_al (below_al hB _) _⟩

set_option maxHeartbeats 4000000 in
theorem parts_d_out (s t : ByteArray) (c : Int) (hc : 0 ≤ c ∧ c ≤ 255) (h1 : s.size ≤ 200) (h2 : t.size ≤ 200) (e1 : clsB s = true) (e2 : clsB t = true) (e3 : ¬ ((s.size : Int) + t.size + 1 ≤ 64)) (hf : foreignB c) (w : World) :
    Calls Tryd.prog 5 #[.string s, .string t, .int .u8 c] w fun e w' => e = .returned (.bool true) ∧ Below w.heap.size w w' := by
  have hB : Below w.heap.size w w := Below.refl _ _
  have f1 := cls_glued s t e1 e2
  rw [decide_eq_false e3] at f1
  have f2 := cls_double s t
  have f3 := cls_blank s t
  have kc := conv_one c
  have z1 := one_size c
  have hq := three_chars hc
  rw [show Lib.indexByte [47, 95, 36] c.toNat.toUInt8 = threeI c from rfl] at hq
  unfold foreignB at hf
  have hi : threeI c < 0 := by omega
  have d1 := cls_odd s t hc hf
  have d2 := mem_odd s t hc hf
  have h3 : (s ++ one c ++ t).size ≤ 9223372036854775807 := by rw [ByteArray.size_append, ByteArray.size_append, z1]; omega
  obtain ⟨_, _, _, hf1, hf2, hf3⟩ := hf
  by_cases h60 : c = 60
  · subst h60
    clear d2 hq
    go_enter Tryd.func5, Tryd.ntmps5
    go_wp2_with (first | (go_at_call 14; refine (awake_any _).mono ?_; rintro e w1 ⟨rfl, hb1⟩; (first | replace hB := Below.trans hB (hb1.mono hB.size) | replace hB := Below.trans (below_al hB _) (hb1.mono (below_al hB _).size) | replace hB := Below.trans (below_al (below_al hB _) _) (hb1.mono (below_al (below_al hB _) _).size)); clear hb1) | (go_at_call 15; refine (cls_any _ _).mono ?_; rintro e w1 ⟨rfl, hb1⟩; (first | replace hB := Below.trans hB (hb1.mono hB.size) | replace hB := Below.trans (below_al hB _) (hb1.mono (below_al hB _).size) | replace hB := Below.trans (below_al (below_al hB _) _) (hb1.mono (below_al (below_al hB _) _).size)); clear hb1) | (go_at_call 17; refine (mem_any _ (by omega) _).mono ?_; rintro e w' ⟨rfl, rfl⟩) | (go_at_call 27; refine (contains_one _ _).mono ?_; rintro e w' ⟨rfl, rfl⟩))
    all_goals go_ret
    all_goals exact ⟨rfl, by first | exact hB | exact below_al hB _ | exact below_al (below_al hB _) _⟩
  · by_cases h62 : c = 62
    · subst h62
      clear d2 hq
      go_enter Tryd.func5, Tryd.ntmps5
      go_wp2_with (first | (go_at_call 14; refine (awake_any _).mono ?_; rintro e w1 ⟨rfl, hb1⟩; (first | replace hB := Below.trans hB (hb1.mono hB.size) | replace hB := Below.trans (below_al hB _) (hb1.mono (below_al hB _).size) | replace hB := Below.trans (below_al (below_al hB _) _) (hb1.mono (below_al (below_al hB _) _).size)); clear hb1) | (go_at_call 15; refine (cls_any _ _).mono ?_; rintro e w1 ⟨rfl, hb1⟩; (first | replace hB := Below.trans hB (hb1.mono hB.size) | replace hB := Below.trans (below_al hB _) (hb1.mono (below_al hB _).size) | replace hB := Below.trans (below_al (below_al hB _) _) (hb1.mono (below_al (below_al hB _) _).size)); clear hb1) | (go_at_call 17; refine (mem_any _ (by omega) _).mono ?_; rintro e w' ⟨rfl, rfl⟩) | (go_at_call 27; refine (contains_one _ _).mono ?_; rintro e w' ⟨rfl, rfl⟩))
      all_goals go_ret
      all_goals exact ⟨rfl, by first | exact hB | exact below_al hB _ | exact below_al (below_al hB _) _⟩
    · have d3 := d2 h60 h62
      clear d2 hq
      go_enter Tryd.func5, Tryd.ntmps5
      go_wp2_with (first | (go_at_call 14; refine (awake_any _).mono ?_; rintro e w1 ⟨rfl, hb1⟩; (first | replace hB := Below.trans hB (hb1.mono hB.size) | replace hB := Below.trans (below_al hB _) (hb1.mono (below_al hB _).size) | replace hB := Below.trans (below_al (below_al hB _) _) (hb1.mono (below_al (below_al hB _) _).size)); clear hb1) | (go_at_call 15; refine (cls_any _ _).mono ?_; rintro e w1 ⟨rfl, hb1⟩; (first | replace hB := Below.trans hB (hb1.mono hB.size) | replace hB := Below.trans (below_al hB _) (hb1.mono (below_al hB _).size) | replace hB := Below.trans (below_al (below_al hB _) _) (hb1.mono (below_al (below_al hB _) _).size)); clear hb1) | (go_at_call 17; refine (mem_any _ (by omega) _).mono ?_; rintro e w' ⟨rfl, rfl⟩) | (go_at_call 27; refine (contains_one _ _).mono ?_; rintro e w' ⟨rfl, rfl⟩))
      all_goals go_ret
      all_goals exact ⟨rfl, by first | exact hB | exact below_al hB _ | exact below_al (below_al hB _) _⟩

end Go.Proofs.YtfafmanjgillcaaDoor
