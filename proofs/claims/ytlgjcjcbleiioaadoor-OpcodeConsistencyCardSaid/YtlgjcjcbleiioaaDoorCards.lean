/-
  DERIVED. GIVEN WITH THE SEED: THE CARDS: each row of YtlgjcjcbleiioaaDoorRows.lean that lists a variable, with what it lists TIED to the program's text (the seventh form; the later family's looks); each row that meets fmt, with fmt's text TOLD by the authors' own Lean function (tested against real Go, not proved from fmt's source: count such statements apart). THE CARD IS WHAT COUNTS. Prove the row's statement (the work); the ties are given (YtlgjcjcbleiioaaDoorTie.lean); close each card by the builder's one call (the guide's Derived/Test/ToyasCard.lean, 'card_holds'). Laid BY PROGRAM, IN A SANDBOX (cutbox-door.mjs). By AI agents, Wed Nov 11 2026. No macro, syntax, notation, axiom, sorry.
-/
import Derived.Test.YtlgjcjcbleiioaaDoorRows
import GoSem.ClaimSeven
namespace Go.Proofs.YtlgjcjcbleiioaaDoor
namespace Rows

/-- THE TIED CARD OF 'armaturelaw07.OpcodeNames'. -/
def opcodeNamesCard : Claim7 := { stood := { row := opcodeNamesRow, standIns := [], harness := (true, "50108cf93889a82f9b23c1e99ec88ae36c2e972b873451204a85564bbf1542e3"), looks := false }, kinds := [], alts := [], laidByText := true, laidKinds := [.data], laidTests := true, laidLooks := .later }
def OpcodeNamesCardSaid : Prop := Claim7.holds Tryd.pinned (.plain (OpenSpec.ofChange opcodeNamesSpec)) opcodeNamesCard

/-- THE TIED CARD OF 'armaturelaw07.OpcodeOperands'. -/
def opcodeOperandsCard : Claim7 := { stood := { row := opcodeOperandsRow, standIns := [], harness := (true, "50108cf93889a82f9b23c1e99ec88ae36c2e972b873451204a85564bbf1542e3"), looks := false }, kinds := [], alts := [], laidByText := true, laidKinds := [.data], laidTests := true, laidLooks := .later }
def OpcodeOperandsCardSaid : Prop := Claim7.holds Tryd.pinned (.plain (OpenSpec.ofChange opcodeOperandsSpec)) opcodeOperandsCard

/-- THE TIED CARD OF 'armaturelaw07.OpcodeUniqueNames'. -/
def opcodeUniqueNamesCard : Claim7 := { stood := { row := opcodeUniqueNamesRow, standIns := [], harness := (true, "50108cf93889a82f9b23c1e99ec88ae36c2e972b873451204a85564bbf1542e3"), looks := false }, kinds := [], alts := [], laidByText := true, laidKinds := [.data], laidTests := true, laidLooks := .later }
def OpcodeUniqueNamesCardSaid : Prop := Claim7.holds Tryd.pinned (.plain (OpenSpec.ofChange opcodeUniqueNamesSpec)) opcodeUniqueNamesCard

/-- THE TIED CARD OF 'armaturelaw07.OpcodeConsistency'. -/
def opcodeConsistencyCard : Claim7 := { stood := { row := opcodeConsistencyRow, standIns := [], harness := (true, "50108cf93889a82f9b23c1e99ec88ae36c2e972b873451204a85564bbf1542e3"), looks := false }, kinds := [], alts := [], laidByText := true, laidKinds := [.data], laidTests := true, laidLooks := .later }
def OpcodeConsistencyCardSaid : Prop := Claim7.holds Tryd.pinned (.plain (OpenSpec.ofChange opcodeConsistencySpec)) opcodeConsistencyCard

/-- THE SECOND FORM's CARD OF 'armaturelaw07.OpcodeNames'. -/
def opcodeNamesUptoCard : Claim7 := { stood := { row := opcodeNamesUptoRow, standIns := [], harness := (true, "50108cf93889a82f9b23c1e99ec88ae36c2e972b873451204a85564bbf1542e3"), looks := false }, kinds := [], alts := [], laidByText := true, laidKinds := [.data], laidTests := true, laidLooks := .later }
def OpcodeNamesUptoCardSaid : Prop := Claim7.holds Tryd.pinned (.plain (OpenSpec.upto opcodeNamesSpec)) opcodeNamesUptoCard

/-- THE SECOND FORM's CARD OF 'armaturelaw07.OpcodeOperands'. -/
def opcodeOperandsUptoCard : Claim7 := { stood := { row := opcodeOperandsUptoRow, standIns := [], harness := (true, "50108cf93889a82f9b23c1e99ec88ae36c2e972b873451204a85564bbf1542e3"), looks := false }, kinds := [], alts := [], laidByText := true, laidKinds := [.data], laidTests := true, laidLooks := .later }
def OpcodeOperandsUptoCardSaid : Prop := Claim7.holds Tryd.pinned (.plain (OpenSpec.upto opcodeOperandsSpec)) opcodeOperandsUptoCard

/-- THE SECOND FORM's CARD OF 'armaturelaw07.OpcodeUniqueNames'. -/
def opcodeUniqueNamesUptoCard : Claim7 := { stood := { row := opcodeUniqueNamesUptoRow, standIns := [], harness := (true, "50108cf93889a82f9b23c1e99ec88ae36c2e972b873451204a85564bbf1542e3"), looks := false }, kinds := [], alts := [], laidByText := true, laidKinds := [.data], laidTests := true, laidLooks := .later }
def OpcodeUniqueNamesUptoCardSaid : Prop := Claim7.holds Tryd.pinned (.plain (OpenSpec.upto opcodeUniqueNamesSpec)) opcodeUniqueNamesUptoCard

/-- THE SECOND FORM's CARD OF 'armaturelaw07.OpcodeConsistency'. -/
def opcodeConsistencyUptoCard : Claim7 := { stood := { row := opcodeConsistencyUptoRow, standIns := [], harness := (true, "50108cf93889a82f9b23c1e99ec88ae36c2e972b873451204a85564bbf1542e3"), looks := false }, kinds := [], alts := [], laidByText := true, laidKinds := [.data], laidTests := true, laidLooks := .later }
def OpcodeConsistencyUptoCardSaid : Prop := Claim7.holds Tryd.pinned (.plain (OpenSpec.upto opcodeConsistencySpec)) opcodeConsistencyUptoCard
end Rows
end Go.Proofs.YtlgjcjcbleiioaaDoor
