/- Layer 8: the reference's small, aims and keys. -/
import Derived.Test.YtdppooflbjlbcaaDoorInChk
namespace Go.Proofs.YtdppooflbjlbcaaDoor.I
open Go.ChangeShapes Go.WideShapes Go.ChangeAt Go.RowKit Go.PlainAid
set_option linter.unusedSimpArgs false
set_option linter.unusedVariables false

def rkE (i : In) : Int := if i.op = 53 then tsE i else ksE i
end Go.Proofs.YtdppooflbjlbcaaDoor.I
