/- Layer 4: the text of a valid type. -/
import Derived.Test.YthfegbhbokhlkaaGreatDoorDescKind
import Derived.Test.YthfegbhbokhlkaaGreatDoorShelf
namespace Go.Proofs.YthfegbhbokhlkaaGreatDoor
open Go.ChangeShapes Go.WideShapes Go.ChangeAt Go.RowKit Go.PlainAid
set_option linter.unusedSimpArgs false
set_option linter.unusedVariables false

def bars (k : Nat) : ByteArray := ⟨(List.replicate k 91).toArray⟩
theorem undrew {W w1 : World} (h : Below W.drew.heap.size W.drew w1) : Below W.heap.size W w1 := ((Below.refl W.heap.size W).drew).trans h
theorem bars_size (k : Nat) : (bars k).size = k := by unfold bars; show (List.replicate k (91 : UInt8)).toArray.size = k; simp

/-- the text of a type -/
def txt (d b : Int) (n : ByteArray) : ByteArray := if b = 76 then bars d.toNat ++ ⟨#[76]⟩ ++ (n ++ ⟨#[59]⟩) else bars d.toNat ++ ⟨#[b.toNat.toUInt8]⟩

end Go.Proofs.YthfegbhbokhlkaaGreatDoor
