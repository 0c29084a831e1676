/-
  DERIVED. GIVEN WITH THE SEED: THE CARDS: each row of YthifmcnemeiphaaDoorRows.lean that lists a variable, with what it lists TIED to the program's text (the seventh form; the later family's looks); each row that meets fmt, with fmt's text TOLD by the authors' own Lean function (tested against real Go, not proved from fmt's source: count such statements apart). THE CARD IS WHAT COUNTS. Prove the row's statement (the work); the ties are given (YthifmcnemeiphaaDoorTie.lean); close each card by the builder's one call (the guide's Derived/Test/ToyasCard.lean, 'card_holds'). Laid BY PROGRAM, IN A SANDBOX (cutbox-door.mjs). By AI agents, Wed Nov 11 2026. No macro, syntax, notation, axiom, sorry.
-/
import Derived.Test.YthifmcnemeiphaaDoorRows
import GoSem.ClaimSeven
namespace Go.Proofs.YthifmcnemeiphaaDoor
namespace Rows

/-- THE TIED CARD OF 'armaturelaw16.HierCheckReference'. -/
def hierCheckReferenceCard : Claim7 := { stood := { row := hierCheckReferenceRow, standIns := [], harness := (true, "240fb06e94927d263fae2714f937bc5dc002e9ccc2760f22c60a6e434cfe8b37"), looks := false }, kinds := [], alts := [], laidByText := true, laidKinds := [.data, .pinned], laidTests := true, laidLooks := .later }
def HierCheckReferenceCardSaid : Prop := Claim7.holds Tryd.pinned (.plain (OpenSpec.ofChange hierCheckReferenceSpec)) hierCheckReferenceCard

/-- THE TIED CARD OF 'armaturelaw16.HierQueryReference'. -/
def hierQueryReferenceCard : Claim7 := { stood := { row := hierQueryReferenceRow, standIns := [], harness := (true, "240fb06e94927d263fae2714f937bc5dc002e9ccc2760f22c60a6e434cfe8b37"), looks := false }, kinds := [], alts := [], laidByText := true, laidKinds := [.data, .pinned], laidTests := true, laidLooks := .later }
def HierQueryReferenceCardSaid : Prop := Claim7.holds Tryd.pinned (.plain (OpenSpec.ofChange hierQueryReferenceSpec)) hierQueryReferenceCard

/-- THE TIED CARD OF 'armaturelaw16.HierPartialOrder'. -/
def hierPartialOrderCard : Claim7 := { stood := { row := hierPartialOrderRow, standIns := [], harness := (true, "240fb06e94927d263fae2714f937bc5dc002e9ccc2760f22c60a6e434cfe8b37"), looks := false }, kinds := [], alts := [], laidByText := true, laidKinds := [.data, .pinned], laidTests := true, laidLooks := .later }
def HierPartialOrderCardSaid : Prop := Claim7.holds Tryd.pinned (.plain (OpenSpec.ofChange hierPartialOrderSpec)) hierPartialOrderCard

/-- THE TIED CARD OF 'armaturelaw16.HierSuperclassChain'. -/
def hierSuperclassChainCard : Claim7 := { stood := { row := hierSuperclassChainRow, standIns := [], harness := (true, "240fb06e94927d263fae2714f937bc5dc002e9ccc2760f22c60a6e434cfe8b37"), looks := false }, kinds := [], alts := [], laidByText := true, laidKinds := [.data, .pinned], laidTests := true, laidLooks := .later }
def HierSuperclassChainCardSaid : Prop := Claim7.holds Tryd.pinned (.plain (OpenSpec.ofChange hierSuperclassChainSpec)) hierSuperclassChainCard

/-- THE TIED CARD OF 'armaturelaw16.HierInterfacesComplete'. -/
def hierInterfacesCompleteCard : Claim7 := { stood := { row := hierInterfacesCompleteRow, standIns := [], harness := (true, "240fb06e94927d263fae2714f937bc5dc002e9ccc2760f22c60a6e434cfe8b37"), looks := false }, kinds := [], alts := [], laidByText := true, laidKinds := [.data, .pinned], laidTests := true, laidLooks := .later }
def HierInterfacesCompleteCardSaid : Prop := Claim7.holds Tryd.pinned (.plain (OpenSpec.ofChange hierInterfacesCompleteSpec)) hierInterfacesCompleteCard

/-- THE TIED CARD OF 'armaturelaw16.HierOrderIrrelevant'. -/
def hierOrderIrrelevantCard : Claim7 := { stood := { row := hierOrderIrrelevantRow, standIns := [], harness := (true, "240fb06e94927d263fae2714f937bc5dc002e9ccc2760f22c60a6e434cfe8b37"), looks := false }, kinds := [], alts := [], laidByText := true, laidKinds := [.data, .pinned], laidTests := true, laidLooks := .later }
def HierOrderIrrelevantCardSaid : Prop := Claim7.holds Tryd.pinned (.plain (OpenSpec.ofChange hierOrderIrrelevantSpec)) hierOrderIrrelevantCard

/-- THE TIED CARD OF 'armaturelaw17.VtypeReference'. -/
def vtypeReferenceCard : Claim7 := { stood := { row := vtypeReferenceRow, standIns := [], harness := (true, "240fb06e94927d263fae2714f937bc5dc002e9ccc2760f22c60a6e434cfe8b37"), looks := false }, kinds := [], alts := [], laidByText := true, laidKinds := [.data, .data, .data, .data, .pinned], laidTests := true, laidLooks := .later }
def VtypeReferenceCardSaid : Prop := Claim7.holds Tryd.pinned (.plain (OpenSpec.ofChange vtypeReferenceSpec)) vtypeReferenceCard

/-- THE TIED CARD OF 'armaturelaw18.MergeReference'. -/
def mergeReferenceCard : Claim7 := { stood := { row := mergeReferenceRow, standIns := [], harness := (true, "240fb06e94927d263fae2714f937bc5dc002e9ccc2760f22c60a6e434cfe8b37"), looks := false }, kinds := [], alts := [], laidByText := true, laidKinds := [.data, .pinned], laidTests := true, laidLooks := .later }
def MergeReferenceCardSaid : Prop := Claim7.holds Tryd.pinned (.plain (OpenSpec.ofChange mergeReferenceSpec)) mergeReferenceCard

/-- THE TIED CARD OF 'armaturelaw18.MergeFrames'. -/
def mergeFramesCard : Claim7 := { stood := { row := mergeFramesRow, standIns := [], harness := (true, "240fb06e94927d263fae2714f937bc5dc002e9ccc2760f22c60a6e434cfe8b37"), looks := false }, kinds := [], alts := [], laidByText := true, laidKinds := [.data, .pinned], laidTests := true, laidLooks := .later }
def MergeFramesCardSaid : Prop := Claim7.holds Tryd.pinned (.plain (OpenSpec.ofChange mergeFramesSpec)) mergeFramesCard

/-- THE TIED CARD OF 'armaturelaw18.MergeUpperBound'. -/
def mergeUpperBoundCard : Claim7 := { stood := { row := mergeUpperBoundRow, standIns := [], harness := (true, "240fb06e94927d263fae2714f937bc5dc002e9ccc2760f22c60a6e434cfe8b37"), looks := false }, kinds := [], alts := [], laidByText := true, laidKinds := [.data, .pinned], laidTests := true, laidLooks := .later }
def MergeUpperBoundCardSaid : Prop := Claim7.holds Tryd.pinned (.plain (OpenSpec.ofChange mergeUpperBoundSpec)) mergeUpperBoundCard

/-- THE TIED CARD OF 'armaturelaw18.MergeCommutative'. -/
def mergeCommutativeCard : Claim7 := { stood := { row := mergeCommutativeRow, standIns := [], harness := (true, "240fb06e94927d263fae2714f937bc5dc002e9ccc2760f22c60a6e434cfe8b37"), looks := false }, kinds := [], alts := [], laidByText := true, laidKinds := [.data, .pinned], laidTests := true, laidLooks := .later }
def MergeCommutativeCardSaid : Prop := Claim7.holds Tryd.pinned (.plain (OpenSpec.ofChange mergeCommutativeSpec)) mergeCommutativeCard

/-- THE TIED CARD OF 'armaturelaw18.MergeLeastUpperBound'. -/
def mergeLeastUpperBoundCard : Claim7 := { stood := { row := mergeLeastUpperBoundRow, standIns := [], harness := (true, "240fb06e94927d263fae2714f937bc5dc002e9ccc2760f22c60a6e434cfe8b37"), looks := false }, kinds := [], alts := [], laidByText := true, laidKinds := [.data, .pinned], laidTests := true, laidLooks := .later }
def MergeLeastUpperBoundCardSaid : Prop := Claim7.holds Tryd.pinned (.plain (OpenSpec.ofChange mergeLeastUpperBoundSpec)) mergeLeastUpperBoundCard

/-- THE SECOND FORM's CARD OF 'armaturelaw16.HierCheckReference'. -/
def hierCheckReferenceUptoCard : Claim7 := { stood := { row := hierCheckReferenceUptoRow, standIns := [], harness := (true, "240fb06e94927d263fae2714f937bc5dc002e9ccc2760f22c60a6e434cfe8b37"), looks := false }, kinds := [], alts := [], laidByText := true, laidKinds := [.data, .pinned], laidTests := true, laidLooks := .later }
def HierCheckReferenceUptoCardSaid : Prop := Claim7.holds Tryd.pinned (.plain (OpenSpec.upto hierCheckReferenceSpec)) hierCheckReferenceUptoCard

/-- THE SECOND FORM's CARD OF 'armaturelaw16.HierQueryReference'. -/
def hierQueryReferenceUptoCard : Claim7 := { stood := { row := hierQueryReferenceUptoRow, standIns := [], harness := (true, "240fb06e94927d263fae2714f937bc5dc002e9ccc2760f22c60a6e434cfe8b37"), looks := false }, kinds := [], alts := [], laidByText := true, laidKinds := [.data, .pinned], laidTests := true, laidLooks := .later }
def HierQueryReferenceUptoCardSaid : Prop := Claim7.holds Tryd.pinned (.plain (OpenSpec.upto hierQueryReferenceSpec)) hierQueryReferenceUptoCard

/-- THE SECOND FORM's CARD OF 'armaturelaw16.HierPartialOrder'. -/
def hierPartialOrderUptoCard : Claim7 := { stood := { row := hierPartialOrderUptoRow, standIns := [], harness := (true, "240fb06e94927d263fae2714f937bc5dc002e9ccc2760f22c60a6e434cfe8b37"), looks := false }, kinds := [], alts := [], laidByText := true, laidKinds := [.data, .pinned], laidTests := true, laidLooks := .later }
def HierPartialOrderUptoCardSaid : Prop := Claim7.holds Tryd.pinned (.plain (OpenSpec.upto hierPartialOrderSpec)) hierPartialOrderUptoCard

/-- THE SECOND FORM's CARD OF 'armaturelaw16.HierSuperclassChain'. -/
def hierSuperclassChainUptoCard : Claim7 := { stood := { row := hierSuperclassChainUptoRow, standIns := [], harness := (true, "240fb06e94927d263fae2714f937bc5dc002e9ccc2760f22c60a6e434cfe8b37"), looks := false }, kinds := [], alts := [], laidByText := true, laidKinds := [.data, .pinned], laidTests := true, laidLooks := .later }
def HierSuperclassChainUptoCardSaid : Prop := Claim7.holds Tryd.pinned (.plain (OpenSpec.upto hierSuperclassChainSpec)) hierSuperclassChainUptoCard

/-- THE SECOND FORM's CARD OF 'armaturelaw16.HierInterfacesComplete'. -/
def hierInterfacesCompleteUptoCard : Claim7 := { stood := { row := hierInterfacesCompleteUptoRow, standIns := [], harness := (true, "240fb06e94927d263fae2714f937bc5dc002e9ccc2760f22c60a6e434cfe8b37"), looks := false }, kinds := [], alts := [], laidByText := true, laidKinds := [.data, .pinned], laidTests := true, laidLooks := .later }
def HierInterfacesCompleteUptoCardSaid : Prop := Claim7.holds Tryd.pinned (.plain (OpenSpec.upto hierInterfacesCompleteSpec)) hierInterfacesCompleteUptoCard

/-- THE SECOND FORM's CARD OF 'armaturelaw16.HierOrderIrrelevant'. -/
def hierOrderIrrelevantUptoCard : Claim7 := { stood := { row := hierOrderIrrelevantUptoRow, standIns := [], harness := (true, "240fb06e94927d263fae2714f937bc5dc002e9ccc2760f22c60a6e434cfe8b37"), looks := false }, kinds := [], alts := [], laidByText := true, laidKinds := [.data, .pinned], laidTests := true, laidLooks := .later }
def HierOrderIrrelevantUptoCardSaid : Prop := Claim7.holds Tryd.pinned (.plain (OpenSpec.upto hierOrderIrrelevantSpec)) hierOrderIrrelevantUptoCard

/-- THE SECOND FORM's CARD OF 'armaturelaw17.VtypeReference'. -/
def vtypeReferenceUptoCard : Claim7 := { stood := { row := vtypeReferenceUptoRow, standIns := [], harness := (true, "240fb06e94927d263fae2714f937bc5dc002e9ccc2760f22c60a6e434cfe8b37"), looks := false }, kinds := [], alts := [], laidByText := true, laidKinds := [.data, .data, .data, .data, .pinned], laidTests := true, laidLooks := .later }
def VtypeReferenceUptoCardSaid : Prop := Claim7.holds Tryd.pinned (.plain (OpenSpec.upto vtypeReferenceSpec)) vtypeReferenceUptoCard

/-- THE SECOND FORM's CARD OF 'armaturelaw18.MergeReference'. -/
def mergeReferenceUptoCard : Claim7 := { stood := { row := mergeReferenceUptoRow, standIns := [], harness := (true, "240fb06e94927d263fae2714f937bc5dc002e9ccc2760f22c60a6e434cfe8b37"), looks := false }, kinds := [], alts := [], laidByText := true, laidKinds := [.data, .pinned], laidTests := true, laidLooks := .later }
def MergeReferenceUptoCardSaid : Prop := Claim7.holds Tryd.pinned (.plain (OpenSpec.upto mergeReferenceSpec)) mergeReferenceUptoCard

/-- THE SECOND FORM's CARD OF 'armaturelaw18.MergeFrames'. -/
def mergeFramesUptoCard : Claim7 := { stood := { row := mergeFramesUptoRow, standIns := [], harness := (true, "240fb06e94927d263fae2714f937bc5dc002e9ccc2760f22c60a6e434cfe8b37"), looks := false }, kinds := [], alts := [], laidByText := true, laidKinds := [.data, .pinned], laidTests := true, laidLooks := .later }
def MergeFramesUptoCardSaid : Prop := Claim7.holds Tryd.pinned (.plain (OpenSpec.upto mergeFramesSpec)) mergeFramesUptoCard

/-- THE SECOND FORM's CARD OF 'armaturelaw18.MergeUpperBound'. -/
def mergeUpperBoundUptoCard : Claim7 := { stood := { row := mergeUpperBoundUptoRow, standIns := [], harness := (true, "240fb06e94927d263fae2714f937bc5dc002e9ccc2760f22c60a6e434cfe8b37"), looks := false }, kinds := [], alts := [], laidByText := true, laidKinds := [.data, .pinned], laidTests := true, laidLooks := .later }
def MergeUpperBoundUptoCardSaid : Prop := Claim7.holds Tryd.pinned (.plain (OpenSpec.upto mergeUpperBoundSpec)) mergeUpperBoundUptoCard

/-- THE SECOND FORM's CARD OF 'armaturelaw18.MergeCommutative'. -/
def mergeCommutativeUptoCard : Claim7 := { stood := { row := mergeCommutativeUptoRow, standIns := [], harness := (true, "240fb06e94927d263fae2714f937bc5dc002e9ccc2760f22c60a6e434cfe8b37"), looks := false }, kinds := [], alts := [], laidByText := true, laidKinds := [.data, .pinned], laidTests := true, laidLooks := .later }
def MergeCommutativeUptoCardSaid : Prop := Claim7.holds Tryd.pinned (.plain (OpenSpec.upto mergeCommutativeSpec)) mergeCommutativeUptoCard

/-- THE SECOND FORM's CARD OF 'armaturelaw18.MergeLeastUpperBound'. -/
def mergeLeastUpperBoundUptoCard : Claim7 := { stood := { row := mergeLeastUpperBoundUptoRow, standIns := [], harness := (true, "240fb06e94927d263fae2714f937bc5dc002e9ccc2760f22c60a6e434cfe8b37"), looks := false }, kinds := [], alts := [], laidByText := true, laidKinds := [.data, .pinned], laidTests := true, laidLooks := .later }
def MergeLeastUpperBoundUptoCardSaid : Prop := Claim7.holds Tryd.pinned (.plain (OpenSpec.upto mergeLeastUpperBoundSpec)) mergeLeastUpperBoundUptoCard
end Rows
end Go.Proofs.YthifmcnemeiphaaDoor
