/-
  DERIVED. GIVEN WITH THE SEED: THE CARDS: each row of YtfcefeepkpkcmaaDoorRows.lean that lists a variable, with what it lists TIED to the program's text (the seventh form; the later family's looks); each row that meets fmt, with fmt's text TOLD by the authors' own Lean function (tested against real Go, not proved from fmt's source: count such statements apart). THE CARD IS WHAT COUNTS. Prove the row's statement (the work); the ties are given (YtfcefeepkpkcmaaDoorTie.lean); close each card by the builder's one call (the guide's Derived/Test/ToyasCard.lean, 'card_holds'). Laid BY PROGRAM, IN A SANDBOX (cutbox-door.mjs). By AI agents, Wed Nov 11 2026. No macro, syntax, notation, axiom, sorry.
-/
import Derived.Test.YtfcefeepkpkcmaaDoorRows
import GoSem.ClaimSeven
namespace Go.Proofs.YtfcefeepkpkcmaaDoor
namespace Rows

/-- THE TIED CARD OF 'armaturelaw05.PoolReadReference'. -/
def poolReadReferenceCard : Claim7 := { stood := { row := poolReadReferenceRow, standIns := [], harness := (true, "f20b1ecda9710a9e14cfc120e1a52ec4fa7653155dee03831982236fa356f2fd"), looks := false }, kinds := [], alts := [], laidByText := true, laidKinds := [.data, .pinned], laidTests := true, laidLooks := .later }
def PoolReadReferenceCardSaid : Prop := Claim7.holds Tryd.pinned (.plain (OpenSpec.ofChange poolReadReferenceSpec)) poolReadReferenceCard

/-- THE TIED CARD OF 'armaturelaw05.PoolCheckReference'. -/
def poolCheckReferenceCard : Claim7 := { stood := { row := poolCheckReferenceRow, standIns := [], harness := (true, "f20b1ecda9710a9e14cfc120e1a52ec4fa7653155dee03831982236fa356f2fd"), looks := false }, kinds := [], alts := [], laidByText := true, laidKinds := [.data, .pinned], laidTests := true, laidLooks := .later }
def PoolCheckReferenceCardSaid : Prop := Claim7.holds Tryd.pinned (.plain (OpenSpec.ofChange poolCheckReferenceSpec)) poolCheckReferenceCard

/-- THE TIED CARD OF 'armaturelaw05.PoolAddReference'. -/
def poolAddReferenceCard : Claim7 := { stood := { row := poolAddReferenceRow, standIns := [], harness := (true, "f20b1ecda9710a9e14cfc120e1a52ec4fa7653155dee03831982236fa356f2fd"), looks := false }, kinds := [], alts := [], laidByText := true, laidKinds := [.data, .pinned], laidTests := true, laidLooks := .later }
def PoolAddReferenceCardSaid : Prop := Claim7.holds Tryd.pinned (.plain (OpenSpec.ofChange poolAddReferenceSpec)) poolAddReferenceCard

/-- THE TIED CARD OF 'armaturelaw05.PoolAddThenRead'. -/
def poolAddThenReadCard : Claim7 := { stood := { row := poolAddThenReadRow, standIns := [], harness := (true, "f20b1ecda9710a9e14cfc120e1a52ec4fa7653155dee03831982236fa356f2fd"), looks := false }, kinds := [], alts := [], laidByText := true, laidKinds := [.data, .pinned], laidTests := true, laidLooks := .later }
def PoolAddThenReadCardSaid : Prop := Claim7.holds Tryd.pinned (.plain (OpenSpec.ofChange poolAddThenReadSpec)) poolAddThenReadCard

/-- THE TIED CARD OF 'armaturelaw05.PoolValidReadable'. -/
def poolValidReadableCard : Claim7 := { stood := { row := poolValidReadableRow, standIns := [], harness := (true, "f20b1ecda9710a9e14cfc120e1a52ec4fa7653155dee03831982236fa356f2fd"), looks := false }, kinds := [], alts := [], laidByText := true, laidKinds := [.data, .pinned], laidTests := true, laidLooks := .later }
def PoolValidReadableCardSaid : Prop := Claim7.holds Tryd.pinned (.plain (OpenSpec.ofChange poolValidReadableSpec)) poolValidReadableCard

/-- THE TIED CARD OF 'armaturelaw06.PoolcodeEncode'. -/
def poolcodeEncodeCard : Claim7 := { stood := { row := poolcodeEncodeRow, standIns := [], harness := (true, "f20b1ecda9710a9e14cfc120e1a52ec4fa7653155dee03831982236fa356f2fd"), looks := false }, kinds := [], alts := [], laidByText := true, laidKinds := [.data, .pinned], laidTests := true, laidLooks := .later }
def PoolcodeEncodeCardSaid : Prop := Claim7.holds Tryd.pinned (.plain (OpenSpec.ofChange poolcodeEncodeSpec)) poolcodeEncodeCard

/-- THE TIED CARD OF 'armaturelaw06.PoolcodeDecode'. -/
def poolcodeDecodeCard : Claim7 := { stood := { row := poolcodeDecodeRow, standIns := [], harness := (true, "f20b1ecda9710a9e14cfc120e1a52ec4fa7653155dee03831982236fa356f2fd"), looks := false }, kinds := [], alts := [], laidByText := true, laidKinds := [.data, .pinned], laidTests := true, laidLooks := .later }
def PoolcodeDecodeCardSaid : Prop := Claim7.holds Tryd.pinned (.plain (OpenSpec.ofChange poolcodeDecodeSpec)) poolcodeDecodeCard

/-- THE TIED CARD OF 'armaturelaw06.PoolcodeRoundTrip'. -/
def poolcodeRoundTripCard : Claim7 := { stood := { row := poolcodeRoundTripRow, standIns := [], harness := (true, "f20b1ecda9710a9e14cfc120e1a52ec4fa7653155dee03831982236fa356f2fd"), looks := false }, kinds := [], alts := [], laidByText := true, laidKinds := [.data, .pinned], laidTests := true, laidLooks := .later }
def PoolcodeRoundTripCardSaid : Prop := Claim7.holds Tryd.pinned (.plain (OpenSpec.ofChange poolcodeRoundTripSpec)) poolcodeRoundTripCard

/-- THE TIED CARD OF 'armaturelaw06.PoolcodeCanonical'. -/
def poolcodeCanonicalCard : Claim7 := { stood := { row := poolcodeCanonicalRow, standIns := [], harness := (true, "f20b1ecda9710a9e14cfc120e1a52ec4fa7653155dee03831982236fa356f2fd"), looks := false }, kinds := [], alts := [], laidByText := true, laidKinds := [.data, .pinned], laidTests := true, laidLooks := .later }
def PoolcodeCanonicalCardSaid : Prop := Claim7.holds Tryd.pinned (.plain (OpenSpec.ofChange poolcodeCanonicalSpec)) poolcodeCanonicalCard

/-- THE SECOND FORM's CARD OF 'armaturelaw05.PoolReadReference'. -/
def poolReadReferenceUptoCard : Claim7 := { stood := { row := poolReadReferenceUptoRow, standIns := [], harness := (true, "f20b1ecda9710a9e14cfc120e1a52ec4fa7653155dee03831982236fa356f2fd"), looks := false }, kinds := [], alts := [], laidByText := true, laidKinds := [.data, .pinned], laidTests := true, laidLooks := .later }
def PoolReadReferenceUptoCardSaid : Prop := Claim7.holds Tryd.pinned (.plain (OpenSpec.upto poolReadReferenceSpec)) poolReadReferenceUptoCard

/-- THE SECOND FORM's CARD OF 'armaturelaw05.PoolCheckReference'. -/
def poolCheckReferenceUptoCard : Claim7 := { stood := { row := poolCheckReferenceUptoRow, standIns := [], harness := (true, "f20b1ecda9710a9e14cfc120e1a52ec4fa7653155dee03831982236fa356f2fd"), looks := false }, kinds := [], alts := [], laidByText := true, laidKinds := [.data, .pinned], laidTests := true, laidLooks := .later }
def PoolCheckReferenceUptoCardSaid : Prop := Claim7.holds Tryd.pinned (.plain (OpenSpec.upto poolCheckReferenceSpec)) poolCheckReferenceUptoCard

/-- THE SECOND FORM's CARD OF 'armaturelaw05.PoolAddReference'. -/
def poolAddReferenceUptoCard : Claim7 := { stood := { row := poolAddReferenceUptoRow, standIns := [], harness := (true, "f20b1ecda9710a9e14cfc120e1a52ec4fa7653155dee03831982236fa356f2fd"), looks := false }, kinds := [], alts := [], laidByText := true, laidKinds := [.data, .pinned], laidTests := true, laidLooks := .later }
def PoolAddReferenceUptoCardSaid : Prop := Claim7.holds Tryd.pinned (.plain (OpenSpec.upto poolAddReferenceSpec)) poolAddReferenceUptoCard

/-- THE SECOND FORM's CARD OF 'armaturelaw05.PoolAddThenRead'. -/
def poolAddThenReadUptoCard : Claim7 := { stood := { row := poolAddThenReadUptoRow, standIns := [], harness := (true, "f20b1ecda9710a9e14cfc120e1a52ec4fa7653155dee03831982236fa356f2fd"), looks := false }, kinds := [], alts := [], laidByText := true, laidKinds := [.data, .pinned], laidTests := true, laidLooks := .later }
def PoolAddThenReadUptoCardSaid : Prop := Claim7.holds Tryd.pinned (.plain (OpenSpec.upto poolAddThenReadSpec)) poolAddThenReadUptoCard

/-- THE SECOND FORM's CARD OF 'armaturelaw05.PoolValidReadable'. -/
def poolValidReadableUptoCard : Claim7 := { stood := { row := poolValidReadableUptoRow, standIns := [], harness := (true, "f20b1ecda9710a9e14cfc120e1a52ec4fa7653155dee03831982236fa356f2fd"), looks := false }, kinds := [], alts := [], laidByText := true, laidKinds := [.data, .pinned], laidTests := true, laidLooks := .later }
def PoolValidReadableUptoCardSaid : Prop := Claim7.holds Tryd.pinned (.plain (OpenSpec.upto poolValidReadableSpec)) poolValidReadableUptoCard

/-- THE SECOND FORM's CARD OF 'armaturelaw06.PoolcodeEncode'. -/
def poolcodeEncodeUptoCard : Claim7 := { stood := { row := poolcodeEncodeUptoRow, standIns := [], harness := (true, "f20b1ecda9710a9e14cfc120e1a52ec4fa7653155dee03831982236fa356f2fd"), looks := false }, kinds := [], alts := [], laidByText := true, laidKinds := [.data, .pinned], laidTests := true, laidLooks := .later }
def PoolcodeEncodeUptoCardSaid : Prop := Claim7.holds Tryd.pinned (.plain (OpenSpec.upto poolcodeEncodeSpec)) poolcodeEncodeUptoCard

/-- THE SECOND FORM's CARD OF 'armaturelaw06.PoolcodeDecode'. -/
def poolcodeDecodeUptoCard : Claim7 := { stood := { row := poolcodeDecodeUptoRow, standIns := [], harness := (true, "f20b1ecda9710a9e14cfc120e1a52ec4fa7653155dee03831982236fa356f2fd"), looks := false }, kinds := [], alts := [], laidByText := true, laidKinds := [.data, .pinned], laidTests := true, laidLooks := .later }
def PoolcodeDecodeUptoCardSaid : Prop := Claim7.holds Tryd.pinned (.plain (OpenSpec.upto poolcodeDecodeSpec)) poolcodeDecodeUptoCard

/-- THE SECOND FORM's CARD OF 'armaturelaw06.PoolcodeRoundTrip'. -/
def poolcodeRoundTripUptoCard : Claim7 := { stood := { row := poolcodeRoundTripUptoRow, standIns := [], harness := (true, "f20b1ecda9710a9e14cfc120e1a52ec4fa7653155dee03831982236fa356f2fd"), looks := false }, kinds := [], alts := [], laidByText := true, laidKinds := [.data, .pinned], laidTests := true, laidLooks := .later }
def PoolcodeRoundTripUptoCardSaid : Prop := Claim7.holds Tryd.pinned (.plain (OpenSpec.upto poolcodeRoundTripSpec)) poolcodeRoundTripUptoCard

/-- THE SECOND FORM's CARD OF 'armaturelaw06.PoolcodeCanonical'. -/
def poolcodeCanonicalUptoCard : Claim7 := { stood := { row := poolcodeCanonicalUptoRow, standIns := [], harness := (true, "f20b1ecda9710a9e14cfc120e1a52ec4fa7653155dee03831982236fa356f2fd"), looks := false }, kinds := [], alts := [], laidByText := true, laidKinds := [.data, .pinned], laidTests := true, laidLooks := .later }
def PoolcodeCanonicalUptoCardSaid : Prop := Claim7.holds Tryd.pinned (.plain (OpenSpec.upto poolcodeCanonicalSpec)) poolcodeCanonicalUptoCard
end Rows
end Go.Proofs.YtfcefeepkpkcmaaDoor
