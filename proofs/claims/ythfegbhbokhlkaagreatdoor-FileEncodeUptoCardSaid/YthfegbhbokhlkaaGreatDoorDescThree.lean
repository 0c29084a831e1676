/- Layer 4: ArrayOf, in the package and in its reference. -/
import Derived.Test.YthfegbhbokhlkaaGreatDoorDescTwo
namespace Go.Proofs.YthfegbhbokhlkaaGreatDoor
open Go.ChangeShapes Go.WideShapes Go.ChangeAt Go.RowKit Go.PlainAid
set_option linter.unusedSimpArgs false
set_option linter.unusedVariables false

def arE (d b : Int) (n : ByteArray) : Int := if validB d b n = true then if b = 86 then 1 else if d = 8 then 9 else 0 else 13
def arV (d b : Int) (n : ByteArray) : Value := if arE d b n = 0 then .agg #[.int .i64 (d + 1), .int .u8 b, .string n] else .agg #[.int .i64 0, .int .u8 0, .string ⟨#[]⟩]

end Go.Proofs.YthfegbhbokhlkaaGreatDoor
