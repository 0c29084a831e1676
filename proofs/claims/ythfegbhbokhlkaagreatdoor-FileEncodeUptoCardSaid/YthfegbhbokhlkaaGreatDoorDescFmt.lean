/- Layer 4: Format and FormatClassConstant, in the package and in its reference. -/
import Derived.Test.YthfegbhbokhlkaaGreatDoorDescText
namespace Go.Proofs.YthfegbhbokhlkaaGreatDoor
open Go.ChangeShapes Go.WideShapes Go.ChangeAt Go.RowKit Go.PlainAid
set_option linter.unusedSimpArgs false
set_option linter.unusedVariables false

theorem notF {b : Bool} (h : (!b) = false) : b = true := by cases b <;> simp_all
theorem beqT {a b : Int} (h : (a == b) = true) : a = b := by simpa using h
theorem beqN {a b : Int} (h : (a == b) = false) : ¬ a = b := by simpa using h
theorem bneT {a b : Int} (h : (a != b) = true) : ¬ a = b := by simpa using h
theorem bneF {a b : Int} (h : (a != b) = false) : a = b := by simpa using h
theorem notT {b : Bool} (h : (!b) = true) : b = false := by cases b <;> simp_all

def fmE (d b : Int) (n : ByteArray) : Int := if validB d b n = true then 0 else 13
def fmS (d b : Int) (n : ByteArray) : ByteArray := if validB d b n = true then txt d b n else ⟨#[]⟩
theorem fm_ok {d b : Int} {n : ByteArray} (h : validB d b n = true) : fmS d b n = txt d b n ∧ fmE d b n = 0 := by unfold fmS fmE; rw [if_pos h, if_pos h]; exact ⟨rfl, rfl⟩
theorem fm_bad {d b : Int} {n : ByteArray} (h : validB d b n = false) : fmS d b n = ⟨#[]⟩ ∧ fmE d b n = 13 := by unfold fmS fmE; rw [h]; exact ⟨rfl, rfl⟩

def fcE (d b : Int) (n : ByteArray) : Int := if validB d b n = true then if 0 < d ∨ b = 76 then 0 else 1 else 13
def fcS (d b : Int) (n : ByteArray) : ByteArray := if validB d b n = true then if 0 < d then txt d b n else if b = 76 then n else ⟨#[]⟩ else ⟨#[]⟩
theorem fc_bad {d b : Int} {n : ByteArray} (h : validB d b n = false) : fcS d b n = ⟨#[]⟩ ∧ fcE d b n = 13 := by unfold fcS fcE; rw [h]; exact ⟨rfl, rfl⟩
theorem fc_arr {d b : Int} {n : ByteArray} (h : validB d b n = true) (h0 : 0 < d) : fcS d b n = txt d b n ∧ fcE d b n = 0 := by unfold fcS fcE; rw [if_pos h, if_pos h, if_pos h0, if_pos (Or.inl h0)]; exact ⟨rfl, rfl⟩
theorem fc_cls {d b : Int} {n : ByteArray} (h : validB d b n = true) (h0 : ¬ 0 < d) (hb : b = 76) : fcS d b n = n ∧ fcE d b n = 0 := by unfold fcS fcE; rw [if_pos h, if_pos h, if_neg h0, if_pos hb, if_pos (Or.inr hb)]; exact ⟨rfl, rfl⟩
theorem fc_prim {d b : Int} {n : ByteArray} (h : validB d b n = true) (h0 : ¬ 0 < d) (hb : ¬ b = 76) : fcS d b n = ⟨#[]⟩ ∧ fcE d b n = 1 := by unfold fcS fcE; rw [if_pos h, if_pos h, if_neg h0, if_neg hb, if_neg (by omega)]; exact ⟨rfl, rfl⟩

theorem bars_succ (k : Nat) : bars k ++ ⟨#[91]⟩ = bars (k + 1) := by
  apply ByteArray.ext
  unfold bars
  rw [ByteArray.data_append]
  apply Array.ext'
  simp [List.replicate_succ']

end Go.Proofs.YthfegbhbokhlkaaGreatDoor
