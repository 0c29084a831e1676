/-
  DERIVED. GIVEN WITH THE SEED: THE CARDS: each row of YtdppooflbjlbcaaDoorRows.lean that lists a variable, with what it lists TIED to the program's text (the seventh form; the later family's looks); each row that meets fmt, with fmt's text TOLD by the authors' own Lean function (tested against real Go, not proved from fmt's source: count such statements apart). THE CARD IS WHAT COUNTS. Prove the row's statement (the work); the ties are given (YtdppooflbjlbcaaDoorTie.lean); close each card by the builder's one call (the guide's Derived/Test/ToyasCard.lean, 'card_holds'). Laid BY PROGRAM, IN A SANDBOX (cutbox-door.mjs). By AI agents, Wed Nov 11 2026. No macro, syntax, notation, axiom, sorry.
-/
import Derived.Test.YtdppooflbjlbcaaDoorRows
import GoSem.ClaimSeven
namespace Go.Proofs.YtdppooflbjlbcaaDoor
namespace Rows

/-- THE TIED CARD OF 'armaturelaw09.CodeBlocksReference'. -/
def codeBlocksReferenceCard : Claim7 := { stood := { row := codeBlocksReferenceRow, standIns := [], harness := (true, "f4e52fb7616b7cfe564b20b7741733bfa31f1dc23bd367927bef8d2c4f002d2e"), looks := false }, kinds := [], alts := [], laidByText := true, laidKinds := [.data, .pinned], laidTests := true, laidLooks := .later }
def CodeBlocksReferenceCardSaid : Prop := Claim7.holds Tryd.pinned (.plain (OpenSpec.ofChange codeBlocksReferenceSpec)) codeBlocksReferenceCard

/-- THE TIED CARD OF 'armaturelaw09.CodeValidIndexes'. -/
def codeValidIndexesCard : Claim7 := { stood := { row := codeValidIndexesRow, standIns := [], harness := (true, "f4e52fb7616b7cfe564b20b7741733bfa31f1dc23bd367927bef8d2c4f002d2e"), looks := false }, kinds := [], alts := [], laidByText := true, laidKinds := [.data, .pinned], laidTests := true, laidLooks := .later }
def CodeValidIndexesCardSaid : Prop := Claim7.holds Tryd.pinned (.plain (OpenSpec.ofChange codeValidIndexesSpec)) codeValidIndexesCard

/-- THE TIED CARD OF 'armaturelaw09.CodeStaysValid'. -/
def codeStaysValidCard : Claim7 := { stood := { row := codeStaysValidRow, standIns := [], harness := (true, "f4e52fb7616b7cfe564b20b7741733bfa31f1dc23bd367927bef8d2c4f002d2e"), looks := false }, kinds := [], alts := [], laidByText := true, laidKinds := [.data, .pinned], laidTests := true, laidLooks := .later }
def CodeStaysValidCardSaid : Prop := Claim7.holds Tryd.pinned (.plain (OpenSpec.ofChange codeStaysValidSpec)) codeStaysValidCard

/-- THE TIED CARD OF 'armaturelaw09.CodeBlocksPartition'. -/
def codeBlocksPartitionCard : Claim7 := { stood := { row := codeBlocksPartitionRow, standIns := [], harness := (true, "f4e52fb7616b7cfe564b20b7741733bfa31f1dc23bd367927bef8d2c4f002d2e"), looks := false }, kinds := [], alts := [], laidByText := true, laidKinds := [.data, .pinned], laidTests := true, laidLooks := .later }
def CodeBlocksPartitionCardSaid : Prop := Claim7.holds Tryd.pinned (.plain (OpenSpec.ofChange codeBlocksPartitionSpec)) codeBlocksPartitionCard

/-- THE TIED CARD OF 'armaturelaw22.StackmapRequired'. -/
def stackmapRequiredCard : Claim7 := { stood := { row := stackmapRequiredRow, standIns := [], harness := (true, "f4e52fb7616b7cfe564b20b7741733bfa31f1dc23bd367927bef8d2c4f002d2e"), looks := false }, kinds := [], alts := [], laidByText := true, laidKinds := [.data, .pinned], laidTests := true, laidLooks := .later }
def StackmapRequiredCardSaid : Prop := Claim7.holds Tryd.pinned (.plain (OpenSpec.ofChange stackmapRequiredSpec)) stackmapRequiredCard

/-- THE TIED CARD OF 'armaturelaw22.StackmapCheck'. -/
def stackmapCheckCard : Claim7 := { stood := { row := stackmapCheckRow, standIns := [], harness := (true, "f4e52fb7616b7cfe564b20b7741733bfa31f1dc23bd367927bef8d2c4f002d2e"), looks := false }, kinds := [], alts := [], laidByText := true, laidKinds := [.data, .pinned], laidTests := true, laidLooks := .later }
def StackmapCheckCardSaid : Prop := Claim7.holds Tryd.pinned (.plain (OpenSpec.ofChange stackmapCheckSpec)) stackmapCheckCard

/-- THE TIED CARD OF 'armaturelaw22.StackmapSelect'. -/
def stackmapSelectCard : Claim7 := { stood := { row := stackmapSelectRow, standIns := [], harness := (true, "f4e52fb7616b7cfe564b20b7741733bfa31f1dc23bd367927bef8d2c4f002d2e"), looks := false }, kinds := [], alts := [], laidByText := true, laidKinds := [.data, .pinned], laidTests := true, laidLooks := .later }
def StackmapSelectCardSaid : Prop := Claim7.holds Tryd.pinned (.plain (OpenSpec.ofChange stackmapSelectSpec)) stackmapSelectCard

/-- THE TIED CARD OF 'armaturelaw22.StackmapAttach'. -/
def stackmapAttachCard : Claim7 := { stood := { row := stackmapAttachRow, standIns := [], harness := (true, "f4e52fb7616b7cfe564b20b7741733bfa31f1dc23bd367927bef8d2c4f002d2e"), looks := false }, kinds := [], alts := [], laidByText := true, laidKinds := [.data, .pinned], laidTests := true, laidLooks := .later }
def StackmapAttachCardSaid : Prop := Claim7.holds Tryd.pinned (.plain (OpenSpec.ofChange stackmapAttachSpec)) stackmapAttachCard

/-- THE SECOND FORM's CARD OF 'armaturelaw09.CodeBlocksReference'. -/
def codeBlocksReferenceUptoCard : Claim7 := { stood := { row := codeBlocksReferenceUptoRow, standIns := [], harness := (true, "f4e52fb7616b7cfe564b20b7741733bfa31f1dc23bd367927bef8d2c4f002d2e"), looks := false }, kinds := [], alts := [], laidByText := true, laidKinds := [.data, .pinned], laidTests := true, laidLooks := .later }
def CodeBlocksReferenceUptoCardSaid : Prop := Claim7.holds Tryd.pinned (.plain (OpenSpec.upto codeBlocksReferenceSpec)) codeBlocksReferenceUptoCard

/-- THE SECOND FORM's CARD OF 'armaturelaw09.CodeValidIndexes'. -/
def codeValidIndexesUptoCard : Claim7 := { stood := { row := codeValidIndexesUptoRow, standIns := [], harness := (true, "f4e52fb7616b7cfe564b20b7741733bfa31f1dc23bd367927bef8d2c4f002d2e"), looks := false }, kinds := [], alts := [], laidByText := true, laidKinds := [.data, .pinned], laidTests := true, laidLooks := .later }
def CodeValidIndexesUptoCardSaid : Prop := Claim7.holds Tryd.pinned (.plain (OpenSpec.upto codeValidIndexesSpec)) codeValidIndexesUptoCard

/-- THE SECOND FORM's CARD OF 'armaturelaw09.CodeStaysValid'. -/
def codeStaysValidUptoCard : Claim7 := { stood := { row := codeStaysValidUptoRow, standIns := [], harness := (true, "f4e52fb7616b7cfe564b20b7741733bfa31f1dc23bd367927bef8d2c4f002d2e"), looks := false }, kinds := [], alts := [], laidByText := true, laidKinds := [.data, .pinned], laidTests := true, laidLooks := .later }
def CodeStaysValidUptoCardSaid : Prop := Claim7.holds Tryd.pinned (.plain (OpenSpec.upto codeStaysValidSpec)) codeStaysValidUptoCard

/-- THE SECOND FORM's CARD OF 'armaturelaw09.CodeBlocksPartition'. -/
def codeBlocksPartitionUptoCard : Claim7 := { stood := { row := codeBlocksPartitionUptoRow, standIns := [], harness := (true, "f4e52fb7616b7cfe564b20b7741733bfa31f1dc23bd367927bef8d2c4f002d2e"), looks := false }, kinds := [], alts := [], laidByText := true, laidKinds := [.data, .pinned], laidTests := true, laidLooks := .later }
def CodeBlocksPartitionUptoCardSaid : Prop := Claim7.holds Tryd.pinned (.plain (OpenSpec.upto codeBlocksPartitionSpec)) codeBlocksPartitionUptoCard

/-- THE SECOND FORM's CARD OF 'armaturelaw22.StackmapRequired'. -/
def stackmapRequiredUptoCard : Claim7 := { stood := { row := stackmapRequiredUptoRow, standIns := [], harness := (true, "f4e52fb7616b7cfe564b20b7741733bfa31f1dc23bd367927bef8d2c4f002d2e"), looks := false }, kinds := [], alts := [], laidByText := true, laidKinds := [.data, .pinned], laidTests := true, laidLooks := .later }
def StackmapRequiredUptoCardSaid : Prop := Claim7.holds Tryd.pinned (.plain (OpenSpec.upto stackmapRequiredSpec)) stackmapRequiredUptoCard

/-- THE SECOND FORM's CARD OF 'armaturelaw22.StackmapCheck'. -/
def stackmapCheckUptoCard : Claim7 := { stood := { row := stackmapCheckUptoRow, standIns := [], harness := (true, "f4e52fb7616b7cfe564b20b7741733bfa31f1dc23bd367927bef8d2c4f002d2e"), looks := false }, kinds := [], alts := [], laidByText := true, laidKinds := [.data, .pinned], laidTests := true, laidLooks := .later }
def StackmapCheckUptoCardSaid : Prop := Claim7.holds Tryd.pinned (.plain (OpenSpec.upto stackmapCheckSpec)) stackmapCheckUptoCard

/-- THE SECOND FORM's CARD OF 'armaturelaw22.StackmapSelect'. -/
def stackmapSelectUptoCard : Claim7 := { stood := { row := stackmapSelectUptoRow, standIns := [], harness := (true, "f4e52fb7616b7cfe564b20b7741733bfa31f1dc23bd367927bef8d2c4f002d2e"), looks := false }, kinds := [], alts := [], laidByText := true, laidKinds := [.data, .pinned], laidTests := true, laidLooks := .later }
def StackmapSelectUptoCardSaid : Prop := Claim7.holds Tryd.pinned (.plain (OpenSpec.upto stackmapSelectSpec)) stackmapSelectUptoCard

/-- THE SECOND FORM's CARD OF 'armaturelaw22.StackmapAttach'. -/
def stackmapAttachUptoCard : Claim7 := { stood := { row := stackmapAttachUptoRow, standIns := [], harness := (true, "f4e52fb7616b7cfe564b20b7741733bfa31f1dc23bd367927bef8d2c4f002d2e"), looks := false }, kinds := [], alts := [], laidByText := true, laidKinds := [.data, .pinned], laidTests := true, laidLooks := .later }
def StackmapAttachUptoCardSaid : Prop := Claim7.holds Tryd.pinned (.plain (OpenSpec.upto stackmapAttachSpec)) stackmapAttachUptoCard
end Rows
end Go.Proofs.YtdppooflbjlbcaaDoor
