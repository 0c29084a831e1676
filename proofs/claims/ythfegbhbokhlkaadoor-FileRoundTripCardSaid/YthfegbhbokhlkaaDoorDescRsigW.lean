/- Layer 4: the reference's ParseSignature, the walk. -/
import Derived.Test.YthfegbhbokhlkaaDoorDescRsig
namespace Go.Proofs.YthfegbhbokhlkaaDoor
open Go.ChangeShapes Go.WideShapes Go.ChangeAt Go.RowKit Go.PlainAid
set_option linter.unusedSimpArgs false
set_option linter.unusedVariables false

end Go.Proofs.YthfegbhbokhlkaaDoor
