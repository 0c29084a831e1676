/-
  DERIVED. GIVEN WITH THE SEED: THE CARDS: each row of YthfegbhbokhlkaaDoorRows.lean that lists a variable, with what it lists TIED to the program's text (the seventh form; the later family's looks); each row that meets fmt, with fmt's text TOLD by the authors' own Lean function (tested against real Go, not proved from fmt's source: count such statements apart). THE CARD IS WHAT COUNTS. Prove the row's statement (the work); the ties are given (YthfegbhbokhlkaaDoorTie.lean); close each card by the builder's one call (the guide's Derived/Test/ToyasCard.lean, 'card_holds'). Laid BY PROGRAM, IN A SANDBOX (cutbox-door.mjs). By AI agents, Wed Nov 11 2026. No macro, syntax, notation, axiom, sorry.
-/
import Derived.Test.YthfegbhbokhlkaaDoorRows
import GoSem.ClaimSeven
namespace Go.Proofs.YthfegbhbokhlkaaDoor
namespace Rows

/-- THE TIED CARD OF 'armaturelaw11.FileRoundTrip'. -/
def fileRoundTripCard : Claim7 := { stood := { row := fileRoundTripRow, standIns := [], harness := (true, "d92d36a9e69c4810b380f6710820dc41e1f73382f102b34139835665a8342f9c"), looks := false }, kinds := [], alts := [], laidByText := true, laidKinds := [.data, .pinned], laidTests := true, laidLooks := .later }
def FileRoundTripCardSaid : Prop := Claim7.holds Tryd.pinned (.plain (OpenSpec.ofChange fileRoundTripSpec)) fileRoundTripCard

/-- THE TIED CARD OF 'armaturelaw11.FileCanonical'. -/
def fileCanonicalCard : Claim7 := { stood := { row := fileCanonicalRow, standIns := [], harness := (true, "d92d36a9e69c4810b380f6710820dc41e1f73382f102b34139835665a8342f9c"), looks := false }, kinds := [], alts := [], laidByText := true, laidKinds := [.data, .pinned], laidTests := true, laidLooks := .later }
def FileCanonicalCardSaid : Prop := Claim7.holds Tryd.pinned (.plain (OpenSpec.ofChange fileCanonicalSpec)) fileCanonicalCard

/-- THE TIED CARD OF 'armaturelaw11.FileComplete'. -/
def fileCompleteCard : Claim7 := { stood := { row := fileCompleteRow, standIns := [], harness := (true, "d92d36a9e69c4810b380f6710820dc41e1f73382f102b34139835665a8342f9c"), looks := false }, kinds := [], alts := [], laidByText := true, laidKinds := [.data, .pinned], laidTests := true, laidLooks := .later }
def FileCompleteCardSaid : Prop := Claim7.holds Tryd.pinned (.plain (OpenSpec.ofChange fileCompleteSpec)) fileCompleteCard

/-- THE SECOND FORM's CARD OF 'armaturelaw11.FileRoundTrip'. -/
def fileRoundTripUptoCard : Claim7 := { stood := { row := fileRoundTripUptoRow, standIns := [], harness := (true, "d92d36a9e69c4810b380f6710820dc41e1f73382f102b34139835665a8342f9c"), looks := false }, kinds := [], alts := [], laidByText := true, laidKinds := [.data, .pinned], laidTests := true, laidLooks := .later }
def FileRoundTripUptoCardSaid : Prop := Claim7.holds Tryd.pinned (.plain (OpenSpec.upto fileRoundTripSpec)) fileRoundTripUptoCard

/-- THE SECOND FORM's CARD OF 'armaturelaw11.FileCanonical'. -/
def fileCanonicalUptoCard : Claim7 := { stood := { row := fileCanonicalUptoRow, standIns := [], harness := (true, "d92d36a9e69c4810b380f6710820dc41e1f73382f102b34139835665a8342f9c"), looks := false }, kinds := [], alts := [], laidByText := true, laidKinds := [.data, .pinned], laidTests := true, laidLooks := .later }
def FileCanonicalUptoCardSaid : Prop := Claim7.holds Tryd.pinned (.plain (OpenSpec.upto fileCanonicalSpec)) fileCanonicalUptoCard

/-- THE SECOND FORM's CARD OF 'armaturelaw11.FileComplete'. -/
def fileCompleteUptoCard : Claim7 := { stood := { row := fileCompleteUptoRow, standIns := [], harness := (true, "d92d36a9e69c4810b380f6710820dc41e1f73382f102b34139835665a8342f9c"), looks := false }, kinds := [], alts := [], laidByText := true, laidKinds := [.data, .pinned], laidTests := true, laidLooks := .later }
def FileCompleteUptoCardSaid : Prop := Claim7.holds Tryd.pinned (.plain (OpenSpec.upto fileCompleteSpec)) fileCompleteUptoCard
end Rows
end Go.Proofs.YthfegbhbokhlkaaDoor
