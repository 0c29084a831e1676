/-
  DERIVED. GIVEN WITH THE SEED: THE CARDS: each row of YtfpdnhbbbadegaaGreatDoorRows.lean that lists a variable, with what it lists TIED to the program's text (the seventh form; the later family's looks); each row that meets fmt, with fmt's text TOLD by the authors' own Lean function (tested against real Go, not proved from fmt's source: count such statements apart). THE CARD IS WHAT COUNTS. Prove the row's statement (the work); the ties are given (YtfpdnhbbbadegaaGreatDoorTie.lean); close each card by the builder's one call (the guide's Derived/Test/ToyasCard.lean, 'card_holds'). Laid BY PROGRAM, IN A SANDBOX (cutbox-door.mjs). By AI agents, Wed Nov 11 2026. No macro, syntax, notation, axiom, sorry.
-/
import Derived.Test.YtfpdnhbbbadegaaGreatDoorRows
import GoSem.ClaimSeven
namespace Go.Proofs.YtfpdnhbbbadegaaGreatDoor
namespace Rows

/-- THE TIED CARD OF 'armaturelaw53.LexTokenizeReference'. -/
def lexTokenizeReferenceCard : Claim7 := { stood := { row := lexTokenizeReferenceRow, standIns := [], harness := (true, "ec353ba90d9313ea753c7af2d707f89952e43e5b2f0d234baae9864dec48aed8"), looks := true }, kinds := [], alts := [], laidByText := true, laidKinds := [.data, .data, .data, .data, .sentinel, .sentinel, .listed, .data, .pinned], laidTests := true, laidLooks := .later }
def LexTokenizeReferenceCardSaid : Prop := Claim7.holds Tryz.pinned (.plain (OpenSpec.ofChange lexTokenizeReferenceSpec)) lexTokenizeReferenceCard

/-- THE TIED CARD OF 'armaturelaw53.LexFormatReference'. -/
def lexFormatReferenceCard : Claim7 := { stood := { row := lexFormatReferenceRow, standIns := [], harness := (true, "ec353ba90d9313ea753c7af2d707f89952e43e5b2f0d234baae9864dec48aed8"), looks := true }, kinds := [], alts := [], laidByText := true, laidKinds := [.data, .data, .data, .data, .sentinel, .sentinel, .listed, .data, .pinned], laidTests := true, laidLooks := .later }
def LexFormatReferenceCardSaid : Prop := Claim7.holds Tryz.pinned (.plain (OpenSpec.ofChange lexFormatReferenceSpec)) lexFormatReferenceCard

/-- THE SECOND FORM's CARD OF 'armaturelaw53.LexTokenizeReference'. -/
def lexTokenizeReferenceUptoCard : Claim7 := { stood := { row := lexTokenizeReferenceUptoRow, standIns := [], harness := (true, "ec353ba90d9313ea753c7af2d707f89952e43e5b2f0d234baae9864dec48aed8"), looks := true }, kinds := [], alts := [], laidByText := true, laidKinds := [.data, .data, .data, .data, .sentinel, .sentinel, .listed, .data, .pinned], laidTests := true, laidLooks := .later }
def LexTokenizeReferenceUptoCardSaid : Prop := Claim7.holds Tryz.pinned (.plain (OpenSpec.upto lexTokenizeReferenceSpec)) lexTokenizeReferenceUptoCard

/-- THE SECOND FORM's CARD OF 'armaturelaw53.LexFormatReference'. -/
def lexFormatReferenceUptoCard : Claim7 := { stood := { row := lexFormatReferenceUptoRow, standIns := [], harness := (true, "ec353ba90d9313ea753c7af2d707f89952e43e5b2f0d234baae9864dec48aed8"), looks := true }, kinds := [], alts := [], laidByText := true, laidKinds := [.data, .data, .data, .data, .sentinel, .sentinel, .listed, .data, .pinned], laidTests := true, laidLooks := .later }
def LexFormatReferenceUptoCardSaid : Prop := Claim7.holds Tryz.pinned (.plain (OpenSpec.upto lexFormatReferenceSpec)) lexFormatReferenceUptoCard
end Rows
end Go.Proofs.YtfpdnhbbbadegaaGreatDoor
