/- Layer 3: the statement on what class names are made of. -/
import Derived.Test.YtfafmanjgillcaaDoorNameParts
namespace Go.Proofs.YtfafmanjgillcaaDoor
open Go.ChangeShapes Go.WideShapes Go.ChangeAt Go.RowKit Go.PlainAid
set_option linter.unusedSimpArgs false
set_option linter.unusedVariables false

def threeI (c : Int) : Int := Lib.indexByte [47, 95, 36] c.toNat.toUInt8
theorem contains_one (c : Int) (w : World) :
    Calls Tryd.prog 27 #[.string ⟨#[47, 95, 36]⟩, .string (one c)] w fun e w' => e = .returned (.bool (decide (0 ≤ threeI c))) ∧ w = w' := by
  have h : one c = ⟨#[c.toNat.toUInt8]⟩ := ba_ext (one_data c)
  rw [h]
  exact contains_any ⟨#[47, 95, 36]⟩ c.toNat.toUInt8 w
theorem one_size (c : Int) : (one c).size = 1 := by rw [← len_data, one_data]; rfl

set_option maxHeartbeats 4000000 in
theorem parts_a_in (s t : ByteArray) (c : Int) (hc : 0 ≤ c ∧ c ≤ 255) (h1 : s.size ≤ 200) (h2 : t.size ≤ 200) (e1 : clsB s = false) (hf : ¬ foreignB c) (w : World) :
    Calls Tryd.prog 5 #[.string s, .string t, .int .u8 c] w fun e w' => e = .returned (.bool true) ∧ Below w.heap.size w w' := by
  have hB : Below w.heap.size w w := Below.refl _ _
  have f2 := cls_double s t
  have f3 := cls_blank s t
  have kc := conv_one c
  have z1 := one_size c
  have hq := three_chars hc
  rw [show Lib.indexByte [47, 95, 36] c.toNat.toUInt8 = threeI c from rfl] at hq
  have hf' : 0 ≤ threeI c ∨ (48 ≤ c ∧ c ≤ 57) ∨ (97 ≤ c ∧ c ≤ 122) ∨ (65 ≤ c ∧ c ≤ 90) := by unfold foreignB at hf; omega
  clear hf hq
  go_enter Tryd.func5, Tryd.ntmps5
  go_wp2_with (first | (go_at_call 14; refine (awake_any _).mono ?_; rintro e w1 ⟨rfl, hb1⟩; (first | replace hB := Below.trans hB (hb1.mono hB.size) | replace hB := Below.trans (below_al hB _) (hb1.mono (below_al hB _).size) | replace hB := Below.trans (below_al (below_al hB _) _) (hb1.mono (below_al (below_al hB _) _).size)); clear hb1) | (go_at_call 15; refine (cls_any _ _).mono ?_; rintro e w1 ⟨rfl, hb1⟩; (first | replace hB := Below.trans hB (hb1.mono hB.size) | replace hB := Below.trans (below_al hB _) (hb1.mono (below_al hB _).size) | replace hB := Below.trans (below_al (below_al hB _) _) (hb1.mono (below_al (below_al hB _) _).size)); clear hb1) | (go_at_call 17; refine (mem_any _ (by omega) _).mono ?_; rintro e w' ⟨rfl, rfl⟩) | (go_at_call 27; refine (contains_one c _).mono ?_; rintro e w' ⟨rfl, rfl⟩))
  all_goals go_ret
  all_goals exact ⟨rfl, by first | exact hB | exact below_al hB _ | exact below_al (below_al hB _) _⟩

set_option maxHeartbeats 4000000 in
theorem parts_b_in (s t : ByteArray) (c : Int) (hc : 0 ≤ c ∧ c ≤ 255) (h1 : s.size ≤ 200) (h2 : t.size ≤ 200) (e1 : clsB s = true) (e2 : clsB t = false) (hf : ¬ foreignB c) (w : World) :
    Calls Tryd.prog 5 #[.string s, .string t, .int .u8 c] w fun e w' => e = .returned (.bool true) ∧ Below w.heap.size w w' := by
  have hB : Below w.heap.size w w := Below.refl _ _
  have f2 := cls_double s t
  have f3 := cls_blank s t
  have kc := conv_one c
  have z1 := one_size c
  have hq := three_chars hc
  rw [show Lib.indexByte [47, 95, 36] c.toNat.toUInt8 = threeI c from rfl] at hq
  have hf' : 0 ≤ threeI c ∨ (48 ≤ c ∧ c ≤ 57) ∨ (97 ≤ c ∧ c ≤ 122) ∨ (65 ≤ c ∧ c ≤ 90) := by unfold foreignB at hf; omega
  clear hf hq
  go_enter Tryd.func5, Tryd.ntmps5
  go_wp2_with (first | (go_at_call 14; refine (awake_any _).mono ?_; rintro e w1 ⟨rfl, hb1⟩; (first | replace hB := Below.trans hB (hb1.mono hB.size) | replace hB := Below.trans (below_al hB _) (hb1.mono (below_al hB _).size) | replace hB := Below.trans (below_al (below_al hB _) _) (hb1.mono (below_al (below_al hB _) _).size)); clear hb1) | (go_at_call 15; refine (cls_any _ _).mono ?_; rintro e w1 ⟨rfl, hb1⟩; (first | replace hB := Below.trans hB (hb1.mono hB.size) | replace hB := Below.trans (below_al hB _) (hb1.mono (below_al hB _).size) | replace hB := Below.trans (below_al (below_al hB _) _) (hb1.mono (below_al (below_al hB _) _).size)); clear hb1) | (go_at_call 17; refine (mem_any _ (by omega) _).mono ?_; rintro e w' ⟨rfl, rfl⟩) | (go_at_call 27; refine (contains_one c _).mono ?_; rintro e w' ⟨rfl, rfl⟩))
  all_goals go_ret
  all_goals exact ⟨rfl, by first | exact hB | exact below_al hB _ | exact below_al (below_al hB _) _⟩

set_option maxHeartbeats 4000000 in
theorem parts_c_in (s t : ByteArray) (c : Int) (hc : 0 ≤ c ∧ c ≤ 255) (h1 : s.size ≤ 200) (h2 : t.size ≤ 200) (e1 : clsB s = true) (e2 : clsB t = true) (e3 : (s.size : Int) + t.size + 1 ≤ 64) (hf : ¬ foreignB c) (w : World) :
    Calls Tryd.prog 5 #[.string s, .string t, .int .u8 c] w fun e w' => e = .returned (.bool true) ∧ Below w.heap.size w w' := by
  have hB : Below w.heap.size w w := Below.refl _ _
  have f1 := cls_glued s t e1 e2
  rw [decide_eq_true e3] at f1
  have f2 := cls_double s t
  have f3 := cls_blank s t
  have kc := conv_one c
  have z1 := one_size c
  have hq := three_chars hc
  rw [show Lib.indexByte [47, 95, 36] c.toNat.toUInt8 = threeI c from rfl] at hq
  have hf' : 0 ≤ threeI c ∨ (48 ≤ c ∧ c ≤ 57) ∨ (97 ≤ c ∧ c ≤ 122) ∨ (65 ≤ c ∧ c ≤ 90) := by unfold foreignB at hf; omega
  clear hf hq
  go_enter Tryd.func5, Tryd.ntmps5
  go_wp2_with (first | (go_at_call 14; refine (awake_any _).mono ?_; rintro e w1 ⟨rfl, hb1⟩; (first | replace hB := Below.trans hB (hb1.mono hB.size) | replace hB := Below.trans (below_al hB _) (hb1.mono (below_al hB _).size) | replace hB := Below.trans (below_al (below_al hB _) _) (hb1.mono (below_al (below_al hB _) _).size)); clear hb1) | (go_at_call 15; refine (cls_any _ _).mono ?_; rintro e w1 ⟨rfl, hb1⟩; (first | replace hB := Below.trans hB (hb1.mono hB.size) | replace hB := Below.trans (below_al hB _) (hb1.mono (below_al hB _).size) | replace hB := Below.trans (below_al (below_al hB _) _) (hb1.mono (below_al (below_al hB _) _).size)); clear hb1) | (go_at_call 17; refine (mem_any _ (by omega) _).mono ?_; rintro e w' ⟨rfl, rfl⟩) | (go_at_call 27; refine (contains_one c _).mono ?_; rintro e w' ⟨rfl, rfl⟩))
  all_goals go_ret
  all_goals exact ⟨rfl, by first | exact hB | exact below_al hB _ | exact below_al (below_al hB _) _⟩

set_option maxHeartbeats 4000000 in
theorem parts_d_in (s t : ByteArray) (c : Int) (hc : 0 ≤ c ∧ c ≤ 255) (h1 : s.size ≤ 200) (h2 : t.size ≤ 200) (e1 : clsB s = true) (e2 : clsB t = true) (e3 : ¬ ((s.size : Int) + t.size + 1 ≤ 64)) (hf : ¬ foreignB c) (w : World) :
    Calls Tryd.prog 5 #[.string s, .string t, .int .u8 c] w fun e w' => e = .returned (.bool true) ∧ Below w.heap.size w w' := by
  have hB : Below w.heap.size w w := Below.refl _ _
  have f1 := cls_glued s t e1 e2
  rw [decide_eq_false e3] at f1
  have f2 := cls_double s t
  have f3 := cls_blank s t
  have kc := conv_one c
  have z1 := one_size c
  have hq := three_chars hc
  rw [show Lib.indexByte [47, 95, 36] c.toNat.toUInt8 = threeI c from rfl] at hq
  have hf' : 0 ≤ threeI c ∨ (48 ≤ c ∧ c ≤ 57) ∨ (97 ≤ c ∧ c ≤ 122) ∨ (65 ≤ c ∧ c ≤ 90) := by unfold foreignB at hf; omega
  clear hf hq
  go_enter Tryd.func5, Tryd.ntmps5
  go_wp2_with (first | (go_at_call 14; refine (awake_any _).mono ?_; rintro e w1 ⟨rfl, hb1⟩; (first | replace hB := Below.trans hB (hb1.mono hB.size) | replace hB := Below.trans (below_al hB _) (hb1.mono (below_al hB _).size) | replace hB := Below.trans (below_al (below_al hB _) _) (hb1.mono (below_al (below_al hB _) _).size)); clear hb1) | (go_at_call 15; refine (cls_any _ _).mono ?_; rintro e w1 ⟨rfl, hb1⟩; (first | replace hB := Below.trans hB (hb1.mono hB.size) | replace hB := Below.trans (below_al hB _) (hb1.mono (below_al hB _).size) | replace hB := Below.trans (below_al (below_al hB _) _) (hb1.mono (below_al (below_al hB _) _).size)); clear hb1) | (go_at_call 17; refine (mem_any _ (by omega) _).mono ?_; rintro e w' ⟨rfl, rfl⟩) | (go_at_call 27; refine (contains_one c _).mono ?_; rintro e w' ⟨rfl, rfl⟩))
  all_goals go_ret
  all_goals exact ⟨rfl, by first | exact hB | exact below_al hB _ | exact below_al (below_al hB _) _⟩

end Go.Proofs.YtfafmanjgillcaaDoor
