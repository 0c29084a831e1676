/-
  DERIVED. GIVEN WITH THE SEED: THE CARDS: each row of YtalejaklggnnpaaGreatDoorRows.lean that lists a variable, with what it lists TIED to the program's text (the seventh form; the later family's looks); each row that meets fmt, with fmt's text TOLD by the authors' own Lean function (tested against real Go, not proved from fmt's source: count such statements apart). THE CARD IS WHAT COUNTS. Prove the row's statement (the work); the ties are given (YtalejaklggnnpaaGreatDoorTie.lean); close each card by the builder's one call (the guide's Derived/Test/ToyasCard.lean, 'card_holds'). Laid BY PROGRAM, IN A SANDBOX (cutbox-door.mjs). By AI agents, Wed Nov 11 2026. No macro, syntax, notation, axiom, sorry.
-/
import Derived.Test.YtalejaklggnnpaaGreatDoorRows
import GoSem.ClaimSeven
namespace Go.Proofs.YtalejaklggnnpaaGreatDoor
namespace Rows

/-- THE TIED CARD OF 'armaturelaw09.CodeCheckReference'. -/
def codeCheckReferenceCard : Claim7 := { stood := { row := codeCheckReferenceRow, standIns := [], harness := (true, "1bcfe956ac48e280d7047409b05b80a714479d6e382b030fa88d32821a6703e2"), looks := false }, kinds := [], alts := [], laidByText := true, laidKinds := [.data, .pinned], laidTests := true, laidLooks := .later }
def CodeCheckReferenceCardSaid : Prop := Claim7.holds Tryz.pinned (.plain (OpenSpec.ofChange codeCheckReferenceSpec)) codeCheckReferenceCard

/-- THE TIED CARD OF 'armaturelaw10.AttrEncodeCode'. -/
def attrEncodeCodeCard : Claim7 := { stood := { row := attrEncodeCodeRow, standIns := [], harness := (true, "1bcfe956ac48e280d7047409b05b80a714479d6e382b030fa88d32821a6703e2"), looks := false }, kinds := [], alts := [], laidByText := true, laidKinds := [.data, .pinned], laidTests := true, laidLooks := .later }
def AttrEncodeCodeCardSaid : Prop := Claim7.holds Tryz.pinned (.plain (OpenSpec.ofChange attrEncodeCodeSpec)) attrEncodeCodeCard

/-- THE TIED CARD OF 'armaturelaw10.AttrDecodeCode'. -/
def attrDecodeCodeCard : Claim7 := { stood := { row := attrDecodeCodeRow, standIns := [], harness := (true, "1bcfe956ac48e280d7047409b05b80a714479d6e382b030fa88d32821a6703e2"), looks := false }, kinds := [], alts := [], laidByText := true, laidKinds := [.data, .pinned], laidTests := true, laidLooks := .later }
def AttrDecodeCodeCardSaid : Prop := Claim7.holds Tryz.pinned (.plain (OpenSpec.ofChange attrDecodeCodeSpec)) attrDecodeCodeCard

/-- THE TIED CARD OF 'armaturelaw10.AttrRoundTrip'. -/
def attrRoundTripCard : Claim7 := { stood := { row := attrRoundTripRow, standIns := [], harness := (true, "1bcfe956ac48e280d7047409b05b80a714479d6e382b030fa88d32821a6703e2"), looks := false }, kinds := [], alts := [], laidByText := true, laidKinds := [.data, .pinned], laidTests := true, laidLooks := .later }
def AttrRoundTripCardSaid : Prop := Claim7.holds Tryz.pinned (.plain (OpenSpec.ofChange attrRoundTripSpec)) attrRoundTripCard

/-- THE TIED CARD OF 'armaturelaw10.AttrCanonical'. -/
def attrCanonicalCard : Claim7 := { stood := { row := attrCanonicalRow, standIns := [], harness := (true, "1bcfe956ac48e280d7047409b05b80a714479d6e382b030fa88d32821a6703e2"), looks := false }, kinds := [], alts := [], laidByText := true, laidKinds := [.data, .pinned], laidTests := true, laidLooks := .later }
def AttrCanonicalCardSaid : Prop := Claim7.holds Tryz.pinned (.plain (OpenSpec.ofChange attrCanonicalSpec)) attrCanonicalCard

/-- THE SECOND FORM's CARD OF 'armaturelaw09.CodeCheckReference'. -/
def codeCheckReferenceUptoCard : Claim7 := { stood := { row := codeCheckReferenceUptoRow, standIns := [], harness := (true, "1bcfe956ac48e280d7047409b05b80a714479d6e382b030fa88d32821a6703e2"), looks := false }, kinds := [], alts := [], laidByText := true, laidKinds := [.data, .pinned], laidTests := true, laidLooks := .later }
def CodeCheckReferenceUptoCardSaid : Prop := Claim7.holds Tryz.pinned (.plain (OpenSpec.upto codeCheckReferenceSpec)) codeCheckReferenceUptoCard

/-- THE SECOND FORM's CARD OF 'armaturelaw10.AttrEncodeCode'. -/
def attrEncodeCodeUptoCard : Claim7 := { stood := { row := attrEncodeCodeUptoRow, standIns := [], harness := (true, "1bcfe956ac48e280d7047409b05b80a714479d6e382b030fa88d32821a6703e2"), looks := false }, kinds := [], alts := [], laidByText := true, laidKinds := [.data, .pinned], laidTests := true, laidLooks := .later }
def AttrEncodeCodeUptoCardSaid : Prop := Claim7.holds Tryz.pinned (.plain (OpenSpec.upto attrEncodeCodeSpec)) attrEncodeCodeUptoCard

/-- THE SECOND FORM's CARD OF 'armaturelaw10.AttrDecodeCode'. -/
def attrDecodeCodeUptoCard : Claim7 := { stood := { row := attrDecodeCodeUptoRow, standIns := [], harness := (true, "1bcfe956ac48e280d7047409b05b80a714479d6e382b030fa88d32821a6703e2"), looks := false }, kinds := [], alts := [], laidByText := true, laidKinds := [.data, .pinned], laidTests := true, laidLooks := .later }
def AttrDecodeCodeUptoCardSaid : Prop := Claim7.holds Tryz.pinned (.plain (OpenSpec.upto attrDecodeCodeSpec)) attrDecodeCodeUptoCard

/-- THE SECOND FORM's CARD OF 'armaturelaw10.AttrRoundTrip'. -/
def attrRoundTripUptoCard : Claim7 := { stood := { row := attrRoundTripUptoRow, standIns := [], harness := (true, "1bcfe956ac48e280d7047409b05b80a714479d6e382b030fa88d32821a6703e2"), looks := false }, kinds := [], alts := [], laidByText := true, laidKinds := [.data, .pinned], laidTests := true, laidLooks := .later }
def AttrRoundTripUptoCardSaid : Prop := Claim7.holds Tryz.pinned (.plain (OpenSpec.upto attrRoundTripSpec)) attrRoundTripUptoCard

/-- THE SECOND FORM's CARD OF 'armaturelaw10.AttrCanonical'. -/
def attrCanonicalUptoCard : Claim7 := { stood := { row := attrCanonicalUptoRow, standIns := [], harness := (true, "1bcfe956ac48e280d7047409b05b80a714479d6e382b030fa88d32821a6703e2"), looks := false }, kinds := [], alts := [], laidByText := true, laidKinds := [.data, .pinned], laidTests := true, laidLooks := .later }
def AttrCanonicalUptoCardSaid : Prop := Claim7.holds Tryz.pinned (.plain (OpenSpec.upto attrCanonicalSpec)) attrCanonicalUptoCard
end Rows
end Go.Proofs.YtalejaklggnnpaaGreatDoor
