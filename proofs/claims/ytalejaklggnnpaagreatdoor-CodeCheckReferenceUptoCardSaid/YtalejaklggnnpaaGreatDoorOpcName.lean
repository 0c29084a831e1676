import Derived.Test.YtalejaklggnnpaaGreatDoorOpcNum
import Derived.Laws.Rows
import Derived.Lib.Strings
/- Contracts of package opcode: the table of mnemonics, Name and Lookup; and of the reference's. (Written by wip/gen/opcname.py.) -/
namespace Go.Proofs.YtalejaklggnnpaaGreatDoor.I
open Go.ChangeShapes Go.WideShapes Go.ChangeAt Go.RowKit
set_option linter.unusedSimpArgs false
set_option linter.unusedVariables false
end Go.Proofs.YtalejaklggnnpaaGreatDoor.I
