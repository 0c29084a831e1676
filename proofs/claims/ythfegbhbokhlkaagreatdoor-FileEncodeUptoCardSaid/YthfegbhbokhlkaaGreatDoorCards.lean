/-
  DERIVED. GIVEN WITH THE SEED: THE CARDS: each row of YthfegbhbokhlkaaGreatDoorRows.lean that lists a variable, with what it lists TIED to the program's text (the seventh form; the later family's looks); each row that meets fmt, with fmt's text TOLD by the authors' own Lean function (tested against real Go, not proved from fmt's source: count such statements apart). THE CARD IS WHAT COUNTS. Prove the row's statement (the work); the ties are given (YthfegbhbokhlkaaGreatDoorTie.lean); close each card by the builder's one call (the guide's Derived/Test/ToyasCard.lean, 'card_holds'). Laid BY PROGRAM, IN A SANDBOX (cutbox-door.mjs). By AI agents, Wed Nov 11 2026. No macro, syntax, notation, axiom, sorry.
-/
import Derived.Test.YthfegbhbokhlkaaGreatDoorRows
import GoSem.ClaimSeven
namespace Go.Proofs.YthfegbhbokhlkaaGreatDoor
namespace Rows

/-- THE TIED CARD OF 'armaturelaw11.FileEncode'. -/
def fileEncodeCard : Claim7 := { stood := { row := fileEncodeRow, standIns := [], harness := (true, "2eb8e3b02465863dd23806ac3101ae0afe3eb97bd8dc6c539e53b727df43f6b5"), looks := false }, kinds := [], alts := [], laidByText := true, laidKinds := [.data, .pinned], laidTests := true, laidLooks := .later }
def FileEncodeCardSaid : Prop := Claim7.holds Tryz.pinned (.plain (OpenSpec.ofChange fileEncodeSpec)) fileEncodeCard

/-- THE TIED CARD OF 'armaturelaw11.FileDecode'. -/
def fileDecodeCard : Claim7 := { stood := { row := fileDecodeRow, standIns := [], harness := (true, "2eb8e3b02465863dd23806ac3101ae0afe3eb97bd8dc6c539e53b727df43f6b5"), looks := false }, kinds := [], alts := [], laidByText := true, laidKinds := [.data, .pinned], laidTests := true, laidLooks := .later }
def FileDecodeCardSaid : Prop := Claim7.holds Tryz.pinned (.plain (OpenSpec.ofChange fileDecodeSpec)) fileDecodeCard

/-- THE SECOND FORM's CARD OF 'armaturelaw11.FileEncode'. -/
def fileEncodeUptoCard : Claim7 := { stood := { row := fileEncodeUptoRow, standIns := [], harness := (true, "2eb8e3b02465863dd23806ac3101ae0afe3eb97bd8dc6c539e53b727df43f6b5"), looks := false }, kinds := [], alts := [], laidByText := true, laidKinds := [.data, .pinned], laidTests := true, laidLooks := .later }
def FileEncodeUptoCardSaid : Prop := Claim7.holds Tryz.pinned (.plain (OpenSpec.upto fileEncodeSpec)) fileEncodeUptoCard

/-- THE SECOND FORM's CARD OF 'armaturelaw11.FileDecode'. -/
def fileDecodeUptoCard : Claim7 := { stood := { row := fileDecodeUptoRow, standIns := [], harness := (true, "2eb8e3b02465863dd23806ac3101ae0afe3eb97bd8dc6c539e53b727df43f6b5"), looks := false }, kinds := [], alts := [], laidByText := true, laidKinds := [.data, .pinned], laidTests := true, laidLooks := .later }
def FileDecodeUptoCardSaid : Prop := Claim7.holds Tryz.pinned (.plain (OpenSpec.upto fileDecodeSpec)) fileDecodeUptoCard
end Rows
end Go.Proofs.YthfegbhbokhlkaaGreatDoor
