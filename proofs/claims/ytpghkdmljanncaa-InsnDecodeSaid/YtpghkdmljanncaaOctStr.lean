/- Contracts of PutString and GetString, and of their reference; the statement that holds the one against the other. -/
import Derived.Test.YtpghkdmljanncaaOctLawTwo
namespace Go.Proofs.Ytpghkdmljanncaa
open Go.ChangeShapes Go.WideShapes Go.ChangeAt Go.RowKit Go.PlainAid
set_option linter.unusedSimpArgs false
set_option linter.unusedVariables false

def psB (s : ByteArray) : ByteArray := if s.size ≤ 65535 then strOfNums (putL s.size 2) ++ s else strOfNums []
def psE (s : ByteArray) : Int := if s.size ≤ 65535 then 0 else 8

theorem put2_size (n : Int) : (strOfNums (putL n 2)).size = 2 := by rw [strOfNums_size]; rfl

def gsE (s : ByteArray) (p : Int) : Int := if unsE s p 2 ≠ 0 then unsE s p 2 else if s.size - (p + 2) < unsV s p 2 then 3 else 0
def gsB (s : ByteArray) (p : Int) : ByteArray := if gsE s p = 0 then s.extract (p + 2).toNat (p + 2 + unsV s p 2).toNat else ⟨#[]⟩
def gsN (s : ByteArray) (p : Int) : Int := if gsE s p = 0 then p + 2 + unsV s p 2 else 0

theorem uns2_bd (s : ByteArray) (p : Int) : 0 ≤ unsV s p 2 ∧ unsV s p 2 ≤ 65535 := by
  have h0 := fromB_bd s p.toNat 0
  have h1 := fromB_bd s p.toNat 1
  unfold unsV; split
  · simp [rdU]; unfold wrap64; omega
  · omega
theorem gs_cases (s : ByteArray) (p : Int) :
    (unsE s p 2 ≠ 0 ∧ gsE s p = unsE s p 2 ∧ gsB s p = ⟨#[]⟩ ∧ gsN s p = 0) ∨
    (unsE s p 2 = 0 ∧ 0 ≤ p ∧ p + 2 ≤ s.size ∧ s.size - (p + 2) < unsV s p 2 ∧ gsE s p = 3 ∧ gsB s p = ⟨#[]⟩ ∧ gsN s p = 0) ∨
    (unsE s p 2 = 0 ∧ 0 ≤ p ∧ p + 2 + unsV s p 2 ≤ s.size ∧ gsE s p = 0 ∧ gsB s p = s.extract (p + 2).toNat (p + 2 + unsV s p 2).toNat ∧ gsN s p = p + 2 + unsV s p 2) := by
  have hc := unsE_cases s p 2
  unfold gsB gsN gsE
  by_cases h : unsE s p 2 = 0
  · have hp : 0 ≤ p ∧ p + 2 ≤ s.size := by omega
    by_cases h2 : s.size - (p + 2) < unsV s p 2
    · simp [h, h2]; omega
    · simp [h, h2]; omega
  · simp [h]

end Go.Proofs.Ytpghkdmljanncaa
