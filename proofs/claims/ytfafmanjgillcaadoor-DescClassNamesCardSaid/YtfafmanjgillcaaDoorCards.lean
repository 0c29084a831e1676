/-
  DERIVED. GIVEN WITH THE SEED: THE CARDS: each row of YtfafmanjgillcaaDoorRows.lean that lists a variable, with what it lists TIED to the program's text (the seventh form; the later family's looks); each row that meets fmt, with fmt's text TOLD by the authors' own Lean function (tested against real Go, not proved from fmt's source: count such statements apart). THE CARD IS WHAT COUNTS. Prove the row's statement (the work); the ties are given (YtfafmanjgillcaaDoorTie.lean); close each card by the builder's one call (the guide's Derived/Test/ToyasCard.lean, 'card_holds'). Laid BY PROGRAM, IN A SANDBOX (cutbox-door.mjs). By AI agents, Wed Nov 11 2026. No macro, syntax, notation, axiom, sorry.
-/
import Derived.Test.YtfafmanjgillcaaDoorRows
import GoSem.ClaimSeven
namespace Go.Proofs.YtfafmanjgillcaaDoor
namespace Rows

/-- THE TIED CARD OF 'armaturelaw03.NameValidity'. -/
def nameValidityCard : Claim7 := { stood := { row := nameValidityRow, standIns := [], harness := (true, "841c3998b854b953cc12aa159ac1d4f7cd4f4891e3ffc03261b4d4e92c2a7823"), looks := false }, kinds := [], alts := [], laidByText := true, laidKinds := [.data, .pinned], laidTests := true, laidLooks := .later }
def NameValidityCardSaid : Prop := Claim7.holds Tryd.pinned (.plain (OpenSpec.ofChange nameValiditySpec)) nameValidityCard

/-- THE TIED CARD OF 'armaturelaw03.NameJoin'. -/
def nameJoinCard : Claim7 := { stood := { row := nameJoinRow, standIns := [], harness := (true, "841c3998b854b953cc12aa159ac1d4f7cd4f4891e3ffc03261b4d4e92c2a7823"), looks := false }, kinds := [], alts := [], laidByText := true, laidKinds := [.data, .pinned], laidTests := true, laidLooks := .later }
def NameJoinCardSaid : Prop := Claim7.holds Tryd.pinned (.plain (OpenSpec.ofChange nameJoinSpec)) nameJoinCard

/-- THE TIED CARD OF 'armaturelaw03.NameParts'. -/
def namePartsCard : Claim7 := { stood := { row := namePartsRow, standIns := [], harness := (true, "841c3998b854b953cc12aa159ac1d4f7cd4f4891e3ffc03261b4d4e92c2a7823"), looks := false }, kinds := [], alts := [], laidByText := true, laidKinds := [.data, .pinned], laidTests := true, laidLooks := .later }
def NamePartsCardSaid : Prop := Claim7.holds Tryd.pinned (.plain (OpenSpec.ofChange namePartsSpec)) namePartsCard

/-- THE TIED CARD OF 'armaturelaw03.NamePrefix'. -/
def namePrefixCard : Claim7 := { stood := { row := namePrefixRow, standIns := [], harness := (true, "841c3998b854b953cc12aa159ac1d4f7cd4f4891e3ffc03261b4d4e92c2a7823"), looks := false }, kinds := [], alts := [], laidByText := true, laidKinds := [.data, .pinned], laidTests := true, laidLooks := .later }
def NamePrefixCardSaid : Prop := Claim7.holds Tryd.pinned (.plain (OpenSpec.ofChange namePrefixSpec)) namePrefixCard

/-- THE TIED CARD OF 'armaturelaw04.DescReference'. -/
def descReferenceCard : Claim7 := { stood := { row := descReferenceRow, standIns := [], harness := (true, "841c3998b854b953cc12aa159ac1d4f7cd4f4891e3ffc03261b4d4e92c2a7823"), looks := false }, kinds := [], alts := [], laidByText := true, laidKinds := [.data, .pinned], laidTests := true, laidLooks := .later }
def DescReferenceCardSaid : Prop := Claim7.holds Tryd.pinned (.plain (OpenSpec.ofChange descReferenceSpec)) descReferenceCard

/-- THE TIED CARD OF 'armaturelaw04.DescParse'. -/
def descParseCard : Claim7 := { stood := { row := descParseRow, standIns := [], harness := (true, "841c3998b854b953cc12aa159ac1d4f7cd4f4891e3ffc03261b4d4e92c2a7823"), looks := false }, kinds := [], alts := [], laidByText := true, laidKinds := [.data, .pinned], laidTests := true, laidLooks := .later }
def DescParseCardSaid : Prop := Claim7.holds Tryd.pinned (.plain (OpenSpec.ofChange descParseSpec)) descParseCard

/-- THE TIED CARD OF 'armaturelaw04.DescFormatSignature'. -/
def descFormatSignatureCard : Claim7 := { stood := { row := descFormatSignatureRow, standIns := [], harness := (true, "841c3998b854b953cc12aa159ac1d4f7cd4f4891e3ffc03261b4d4e92c2a7823"), looks := false }, kinds := [], alts := [], laidByText := true, laidKinds := [.data, .pinned], laidTests := true, laidLooks := .later }
def DescFormatSignatureCardSaid : Prop := Claim7.holds Tryd.pinned (.plain (OpenSpec.ofChange descFormatSignatureSpec)) descFormatSignatureCard

/-- THE TIED CARD OF 'armaturelaw04.DescParseSignature'. -/
def descParseSignatureCard : Claim7 := { stood := { row := descParseSignatureRow, standIns := [], harness := (true, "841c3998b854b953cc12aa159ac1d4f7cd4f4891e3ffc03261b4d4e92c2a7823"), looks := false }, kinds := [], alts := [], laidByText := true, laidKinds := [.data, .pinned], laidTests := true, laidLooks := .later }
def DescParseSignatureCardSaid : Prop := Claim7.holds Tryd.pinned (.plain (OpenSpec.ofChange descParseSignatureSpec)) descParseSignatureCard

/-- THE TIED CARD OF 'armaturelaw04.DescClassNames'. -/
def descClassNamesCard : Claim7 := { stood := { row := descClassNamesRow, standIns := [], harness := (true, "841c3998b854b953cc12aa159ac1d4f7cd4f4891e3ffc03261b4d4e92c2a7823"), looks := false }, kinds := [], alts := [], laidByText := true, laidKinds := [.data, .pinned], laidTests := true, laidLooks := .later }
def DescClassNamesCardSaid : Prop := Claim7.holds Tryd.pinned (.plain (OpenSpec.ofChange descClassNamesSpec)) descClassNamesCard

/-- THE TIED CARD OF 'armaturelaw04.DescRoundTrip'. -/
def descRoundTripCard : Claim7 := { stood := { row := descRoundTripRow, standIns := [], harness := (true, "841c3998b854b953cc12aa159ac1d4f7cd4f4891e3ffc03261b4d4e92c2a7823"), looks := false }, kinds := [], alts := [], laidByText := true, laidKinds := [.data, .pinned], laidTests := true, laidLooks := .later }
def DescRoundTripCardSaid : Prop := Claim7.holds Tryd.pinned (.plain (OpenSpec.ofChange descRoundTripSpec)) descRoundTripCard

/-- THE TIED CARD OF 'armaturelaw04.DescCanonical'. -/
def descCanonicalCard : Claim7 := { stood := { row := descCanonicalRow, standIns := [], harness := (true, "841c3998b854b953cc12aa159ac1d4f7cd4f4891e3ffc03261b4d4e92c2a7823"), looks := false }, kinds := [], alts := [], laidByText := true, laidKinds := [.data, .pinned], laidTests := true, laidLooks := .later }
def DescCanonicalCardSaid : Prop := Claim7.holds Tryd.pinned (.plain (OpenSpec.ofChange descCanonicalSpec)) descCanonicalCard

/-- THE SECOND FORM's CARD OF 'armaturelaw03.NameValidity'. -/
def nameValidityUptoCard : Claim7 := { stood := { row := nameValidityUptoRow, standIns := [], harness := (true, "841c3998b854b953cc12aa159ac1d4f7cd4f4891e3ffc03261b4d4e92c2a7823"), looks := false }, kinds := [], alts := [], laidByText := true, laidKinds := [.data, .pinned], laidTests := true, laidLooks := .later }
def NameValidityUptoCardSaid : Prop := Claim7.holds Tryd.pinned (.plain (OpenSpec.upto nameValiditySpec)) nameValidityUptoCard

/-- THE SECOND FORM's CARD OF 'armaturelaw03.NameJoin'. -/
def nameJoinUptoCard : Claim7 := { stood := { row := nameJoinUptoRow, standIns := [], harness := (true, "841c3998b854b953cc12aa159ac1d4f7cd4f4891e3ffc03261b4d4e92c2a7823"), looks := false }, kinds := [], alts := [], laidByText := true, laidKinds := [.data, .pinned], laidTests := true, laidLooks := .later }
def NameJoinUptoCardSaid : Prop := Claim7.holds Tryd.pinned (.plain (OpenSpec.upto nameJoinSpec)) nameJoinUptoCard

/-- THE SECOND FORM's CARD OF 'armaturelaw03.NameParts'. -/
def namePartsUptoCard : Claim7 := { stood := { row := namePartsUptoRow, standIns := [], harness := (true, "841c3998b854b953cc12aa159ac1d4f7cd4f4891e3ffc03261b4d4e92c2a7823"), looks := false }, kinds := [], alts := [], laidByText := true, laidKinds := [.data, .pinned], laidTests := true, laidLooks := .later }
def NamePartsUptoCardSaid : Prop := Claim7.holds Tryd.pinned (.plain (OpenSpec.upto namePartsSpec)) namePartsUptoCard

/-- THE SECOND FORM's CARD OF 'armaturelaw03.NamePrefix'. -/
def namePrefixUptoCard : Claim7 := { stood := { row := namePrefixUptoRow, standIns := [], harness := (true, "841c3998b854b953cc12aa159ac1d4f7cd4f4891e3ffc03261b4d4e92c2a7823"), looks := false }, kinds := [], alts := [], laidByText := true, laidKinds := [.data, .pinned], laidTests := true, laidLooks := .later }
def NamePrefixUptoCardSaid : Prop := Claim7.holds Tryd.pinned (.plain (OpenSpec.upto namePrefixSpec)) namePrefixUptoCard

/-- THE SECOND FORM's CARD OF 'armaturelaw04.DescReference'. -/
def descReferenceUptoCard : Claim7 := { stood := { row := descReferenceUptoRow, standIns := [], harness := (true, "841c3998b854b953cc12aa159ac1d4f7cd4f4891e3ffc03261b4d4e92c2a7823"), looks := false }, kinds := [], alts := [], laidByText := true, laidKinds := [.data, .pinned], laidTests := true, laidLooks := .later }
def DescReferenceUptoCardSaid : Prop := Claim7.holds Tryd.pinned (.plain (OpenSpec.upto descReferenceSpec)) descReferenceUptoCard

/-- THE SECOND FORM's CARD OF 'armaturelaw04.DescParse'. -/
def descParseUptoCard : Claim7 := { stood := { row := descParseUptoRow, standIns := [], harness := (true, "841c3998b854b953cc12aa159ac1d4f7cd4f4891e3ffc03261b4d4e92c2a7823"), looks := false }, kinds := [], alts := [], laidByText := true, laidKinds := [.data, .pinned], laidTests := true, laidLooks := .later }
def DescParseUptoCardSaid : Prop := Claim7.holds Tryd.pinned (.plain (OpenSpec.upto descParseSpec)) descParseUptoCard

/-- THE SECOND FORM's CARD OF 'armaturelaw04.DescFormatSignature'. -/
def descFormatSignatureUptoCard : Claim7 := { stood := { row := descFormatSignatureUptoRow, standIns := [], harness := (true, "841c3998b854b953cc12aa159ac1d4f7cd4f4891e3ffc03261b4d4e92c2a7823"), looks := false }, kinds := [], alts := [], laidByText := true, laidKinds := [.data, .pinned], laidTests := true, laidLooks := .later }
def DescFormatSignatureUptoCardSaid : Prop := Claim7.holds Tryd.pinned (.plain (OpenSpec.upto descFormatSignatureSpec)) descFormatSignatureUptoCard

/-- THE SECOND FORM's CARD OF 'armaturelaw04.DescParseSignature'. -/
def descParseSignatureUptoCard : Claim7 := { stood := { row := descParseSignatureUptoRow, standIns := [], harness := (true, "841c3998b854b953cc12aa159ac1d4f7cd4f4891e3ffc03261b4d4e92c2a7823"), looks := false }, kinds := [], alts := [], laidByText := true, laidKinds := [.data, .pinned], laidTests := true, laidLooks := .later }
def DescParseSignatureUptoCardSaid : Prop := Claim7.holds Tryd.pinned (.plain (OpenSpec.upto descParseSignatureSpec)) descParseSignatureUptoCard

/-- THE SECOND FORM's CARD OF 'armaturelaw04.DescClassNames'. -/
def descClassNamesUptoCard : Claim7 := { stood := { row := descClassNamesUptoRow, standIns := [], harness := (true, "841c3998b854b953cc12aa159ac1d4f7cd4f4891e3ffc03261b4d4e92c2a7823"), looks := false }, kinds := [], alts := [], laidByText := true, laidKinds := [.data, .pinned], laidTests := true, laidLooks := .later }
def DescClassNamesUptoCardSaid : Prop := Claim7.holds Tryd.pinned (.plain (OpenSpec.upto descClassNamesSpec)) descClassNamesUptoCard

/-- THE SECOND FORM's CARD OF 'armaturelaw04.DescRoundTrip'. -/
def descRoundTripUptoCard : Claim7 := { stood := { row := descRoundTripUptoRow, standIns := [], harness := (true, "841c3998b854b953cc12aa159ac1d4f7cd4f4891e3ffc03261b4d4e92c2a7823"), looks := false }, kinds := [], alts := [], laidByText := true, laidKinds := [.data, .pinned], laidTests := true, laidLooks := .later }
def DescRoundTripUptoCardSaid : Prop := Claim7.holds Tryd.pinned (.plain (OpenSpec.upto descRoundTripSpec)) descRoundTripUptoCard

/-- THE SECOND FORM's CARD OF 'armaturelaw04.DescCanonical'. -/
def descCanonicalUptoCard : Claim7 := { stood := { row := descCanonicalUptoRow, standIns := [], harness := (true, "841c3998b854b953cc12aa159ac1d4f7cd4f4891e3ffc03261b4d4e92c2a7823"), looks := false }, kinds := [], alts := [], laidByText := true, laidKinds := [.data, .pinned], laidTests := true, laidLooks := .later }
def DescCanonicalUptoCardSaid : Prop := Claim7.holds Tryd.pinned (.plain (OpenSpec.upto descCanonicalSpec)) descCanonicalUptoCard
end Rows
end Go.Proofs.YtfafmanjgillcaaDoor
