/- Layer 5: AddUTF8, AddClass, AddString, AddMemberRef, in the package and in its reference. -/
import Derived.Test.YthfegbhbokhlkaaGreatDoorPoolAddRef
namespace Go.Proofs.YthfegbhbokhlkaaGreatDoor
open Go.ChangeShapes Go.WideShapes Go.ChangeAt Go.RowKit Go.PlainAid
set_option linter.unusedSimpArgs false
set_option linter.unusedVariables false

abbrev cu (s : ByteArray) : Cn := ⟨1, s, 0, 0, 0⟩
abbrev ct (t a b : Int) : Cn := ⟨t, ⟨#[]⟩, 0, a, b⟩
def anR (L : List Cn) (t : Int) (s : ByteArray) : List Cn × Int × Int := if (adE L (cu s)) = 0 then if (adE (adL L (cu s)) (ct t (adI L (cu s)) 0)) = 0 then ((adL (adL L (cu s)) (ct t (adI L (cu s)) 0)), (adI (adL L (cu s)) (ct t (adI L (cu s)) 0)), 0) else (L, 0, (adE (adL L (cu s)) (ct t (adI L (cu s)) 0))) else (L, 0, (adE L (cu s)))
def anL (L : List Cn) (t : Int) (s : ByteArray) : List Cn := (anR L t s).1
def anI (L : List Cn) (t : Int) (s : ByteArray) : Int := (anR L t s).2.1
def anE (L : List Cn) (t : Int) (s : ByteArray) : Int := (anR L t s).2.2
theorem an_1 {L : List Cn} {t : Int} {s : ByteArray}  (h1 : ¬ (adE L (cu s)) = 0) : anL L t s = L ∧ anI L t s = 0 ∧ anE L t s = (adE L (cu s)) := by unfold anL anI anE anR; rw [if_neg h1]; exact ⟨rfl, rfl, rfl⟩
theorem an_2 {L : List Cn} {t : Int} {s : ByteArray} (h1 : (adE L (cu s)) = 0) (h2 : ¬ (adE (adL L (cu s)) (ct t (adI L (cu s)) 0)) = 0) : anL L t s = L ∧ anI L t s = 0 ∧ anE L t s = (adE (adL L (cu s)) (ct t (adI L (cu s)) 0)) := by unfold anL anI anE anR; rw [if_pos h1, if_neg h2]; exact ⟨rfl, rfl, rfl⟩
theorem an_3 {L : List Cn} {t : Int} {s : ByteArray} (h1 : (adE L (cu s)) = 0) (h2 : (adE (adL L (cu s)) (ct t (adI L (cu s)) 0)) = 0) : anL L t s = (adL (adL L (cu s)) (ct t (adI L (cu s)) 0)) ∧ anI L t s = (adI (adL L (cu s)) (ct t (adI L (cu s)) 0)) ∧ anE L t s = 0 := by unfold anL anI anE anR; rw [if_pos h1, if_pos h2]; exact ⟨rfl, rfl, rfl⟩
theorem an_len {L : List Cn} {t : Int} {s : ByteArray} (h : L.length ≤ 100000) : (anL L t s).length ≤ 100000 := by
  unfold anL anR
  repeat (split; rotate_left; exact h)
  exact ad_len (ad_len h)
def am2 (L : List Cn) (a b : ByteArray) : List Cn := adL (anL L 7 a) (cu b)
def am2I (L : List Cn) (a b : ByteArray) : Int := adI (anL L 7 a) (cu b)
def am2E (L : List Cn) (a b : ByteArray) : Int := adE (anL L 7 a) (cu b)
def am3 (L : List Cn) (a b d : ByteArray) : List Cn := adL (am2 L a b) (cu d)
def am3I (L : List Cn) (a b d : ByteArray) : Int := adI (am2 L a b) (cu d)
def am3E (L : List Cn) (a b d : ByteArray) : Int := adE (am2 L a b) (cu d)
def am4 (L : List Cn) (a b d : ByteArray) : List Cn := adL (am3 L a b d) (ct 12 (am2I L a b) (am3I L a b d))
def am4I (L : List Cn) (a b d : ByteArray) : Int := adI (am3 L a b d) (ct 12 (am2I L a b) (am3I L a b d))
def am4E (L : List Cn) (a b d : ByteArray) : Int := adE (am3 L a b d) (ct 12 (am2I L a b) (am3I L a b d))
def am5 (L : List Cn) (t : Int) (a b d : ByteArray) : List Cn := adL (am4 L a b d) (ct t (anI L 7 a) (am4I L a b d))
def am5I (L : List Cn) (t : Int) (a b d : ByteArray) : Int := adI (am4 L a b d) (ct t (anI L 7 a) (am4I L a b d))
def am5E (L : List Cn) (t : Int) (a b d : ByteArray) : Int := adE (am4 L a b d) (ct t (anI L 7 a) (am4I L a b d))
def amR (L : List Cn) (t : Int) (a b d : ByteArray) : List Cn × Int × Int := if anE L 7 a = 0 then if am2E L a b = 0 then if am3E L a b d = 0 then if am4E L a b d = 0 then if am5E L t a b d = 0 then (am5 L t a b d, am5I L t a b d, 0) else (L, 0, am5E L t a b d) else (L, 0, am4E L a b d) else (L, 0, am3E L a b d) else (L, 0, am2E L a b) else (L, 0, anE L 7 a)
def amL (L : List Cn) (t : Int) (a b d : ByteArray) : List Cn := (amR L t a b d).1
def amI (L : List Cn) (t : Int) (a b d : ByteArray) : Int := (amR L t a b d).2.1
def amE (L : List Cn) (t : Int) (a b d : ByteArray) : Int := (amR L t a b d).2.2
theorem am_1 {L : List Cn} {t : Int} {a b d : ByteArray}  (h1 : ¬ anE L 7 a = 0) : amL L t a b d = L ∧ amI L t a b d = 0 ∧ amE L t a b d = anE L 7 a := by unfold amL amI amE amR; rw [if_neg h1]; exact ⟨rfl, rfl, rfl⟩
theorem am_2 {L : List Cn} {t : Int} {a b d : ByteArray} (h1 : anE L 7 a = 0) (h2 : ¬ am2E L a b = 0) : amL L t a b d = L ∧ amI L t a b d = 0 ∧ amE L t a b d = am2E L a b := by unfold amL amI amE amR; rw [if_pos h1, if_neg h2]; exact ⟨rfl, rfl, rfl⟩
theorem am_3 {L : List Cn} {t : Int} {a b d : ByteArray} (h1 : anE L 7 a = 0) (h2 : am2E L a b = 0) (h3 : ¬ am3E L a b d = 0) : amL L t a b d = L ∧ amI L t a b d = 0 ∧ amE L t a b d = am3E L a b d := by unfold amL amI amE amR; rw [if_pos h1, if_pos h2, if_neg h3]; exact ⟨rfl, rfl, rfl⟩
theorem am_4 {L : List Cn} {t : Int} {a b d : ByteArray} (h1 : anE L 7 a = 0) (h2 : am2E L a b = 0) (h3 : am3E L a b d = 0) (h4 : ¬ am4E L a b d = 0) : amL L t a b d = L ∧ amI L t a b d = 0 ∧ amE L t a b d = am4E L a b d := by unfold amL amI amE amR; rw [if_pos h1, if_pos h2, if_pos h3, if_neg h4]; exact ⟨rfl, rfl, rfl⟩
theorem am_5 {L : List Cn} {t : Int} {a b d : ByteArray} (h1 : anE L 7 a = 0) (h2 : am2E L a b = 0) (h3 : am3E L a b d = 0) (h4 : am4E L a b d = 0) (h5 : ¬ am5E L t a b d = 0) : amL L t a b d = L ∧ amI L t a b d = 0 ∧ amE L t a b d = am5E L t a b d := by unfold amL amI amE amR; rw [if_pos h1, if_pos h2, if_pos h3, if_pos h4, if_neg h5]; exact ⟨rfl, rfl, rfl⟩
theorem am_6 {L : List Cn} {t : Int} {a b d : ByteArray} (h1 : anE L 7 a = 0) (h2 : am2E L a b = 0) (h3 : am3E L a b d = 0) (h4 : am4E L a b d = 0) (h5 : am5E L t a b d = 0) : amL L t a b d = am5 L t a b d ∧ amI L t a b d = am5I L t a b d ∧ amE L t a b d = 0 := by unfold amL amI amE amR; rw [if_pos h1, if_pos h2, if_pos h3, if_pos h4, if_pos h5]; exact ⟨rfl, rfl, rfl⟩
theorem am5_len {L : List Cn} {t : Int} {a b d : ByteArray} (h : L.length ≤ 100000) : (am5 L t a b d).length ≤ 100000 := ad_len (ad_len (ad_len (ad_len (an_len h))))
theorem am_len {L : List Cn} {t : Int} {a b d : ByteArray} (h : L.length ≤ 100000) : (amL L t a b d).length ≤ 100000 := by
  by_cases h1 : anE L 7 a = 0
  rotate_left
  · rw [(am_1 h1).1]; exact h
  by_cases h2 : am2E L a b = 0
  rotate_left
  · rw [(am_2 h1 h2).1]; exact h
  by_cases h3 : am3E L a b d = 0
  rotate_left
  · rw [(am_3 h1 h2 h3).1]; exact h
  by_cases h4 : am4E L a b d = 0
  rotate_left
  · rw [(am_4 h1 h2 h3 h4).1]; exact h
  by_cases h5 : am5E L t a b d = 0
  rotate_left
  · rw [(am_5 h1 h2 h3 h4 h5).1]; exact h
  rw [(am_6 h1 h2 h3 h4 h5).1]; exact am5_len h

end Go.Proofs.YthfegbhbokhlkaaGreatDoor
