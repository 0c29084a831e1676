/-
  NARROWER THAN 'FOR EVERY INPUT', by the rows' own cells (each row's printed sentence says how): HierCheckReference: laid · HierQueryReference: laid · HierPartialOrder: laid · HierSuperclassChain: laid · HierInterfacesComplete: laid · HierOrderIrrelevant: laid · VtypeReference: laid · MergeReference: laid · MergeFrames: laid · MergeUpperBound: laid · MergeCommutative: laid · MergeLeastUpperBound: laid.
  DERIVED. THE GIVEN ROWS OF THIS SEAT. 12 by the template 'for every input the law returns true; each argument reads behind the call as it read before'; 0 by the template 'total and deterministic' (their statements: YthifmcnemeiphaaDoorTotals.lean).
  GIVEN WITH THE SEED: the statements are not yours to turn. If you find one false, say at which input.
  Laid BY PROGRAM, IN A SANDBOX (cutbox-rows.mjs): the forced cells as the released guide's own fill.sh prints them over the translation 5d34200c2425c75b… (all of the seat's roots in one cut). By AI agents, Wed Nov 11 2026. No macro, syntax, notation, axiom, sorry.
-/
import Derived.Test.YthifmcnemeiphaaDoorChecked
import GoSem.PinnedTables
import GoSem.Claim
import GoSem.ClaimJoined
import GoSem.ClaimMapViews
import Derived.JoinedTies
import Derived.KernelRfl
namespace Go.Proofs.YthifmcnemeiphaaDoor
/- THE CELL 'sum', in the pinned program and in every row, IS THE sha256 OF THE DUMP (.gsa) THAT YthifmcnemeiphaaDoorProg.lean LOADS. Nothing in Lean hashes anything: it is a label: what it is worth is what the hold of that sum in a sandbox is worth. -/
noncomputable def Tryd.pinned : Pinned := { name := "ythifmcnemeiphaadoor", sum := "5d34200c2425c75bfb54126edec793070514ea0de823885c7c5f260f3bc2d040", checked := Tryd.checked }
namespace Rows
def none {H : Type} : Left H := { results := [], args := [] }

/- WHAT THE LISTED PACKAGE-LEVEL VARIABLES READ AS WHEN THE CALL BEGINS. Each datum BY PROGRAM (the guide's laid-datum.mjs) off the statement by which the dump's own 'gosem.cut.vars' lays the variable. In a bare row this is a premise. The card (YthifmcnemeiphaaDoorCards.lean) ties it to the program's text. -/
def laid_unicode_utf8_acceptRanges {H : Type} : DataW H := .agg [.agg [.lit (.int .u8 128), .lit (.int .u8 191)], .agg [.lit (.int .u8 160), .lit (.int .u8 191)], .agg [.lit (.int .u8 128), .lit (.int .u8 159)], .agg [.lit (.int .u8 144), .lit (.int .u8 191)], .agg [.lit (.int .u8 128), .lit (.int .u8 143)], .agg [.lit (.int .u8 0), .lit (.int .u8 0)], .agg [.lit (.int .u8 0), .lit (.int .u8 0)], .agg [.lit (.int .u8 0), .lit (.int .u8 0)], .agg [.lit (.int .u8 0), .lit (.int .u8 0)], .agg [.lit (.int .u8 0), .lit (.int .u8 0)], .agg [.lit (.int .u8 0), .lit (.int .u8 0)], .agg [.lit (.int .u8 0), .lit (.int .u8 0)], .agg [.lit (.int .u8 0), .lit (.int .u8 0)], .agg [.lit (.int .u8 0), .lit (.int .u8 0)], .agg [.lit (.int .u8 0), .lit (.int .u8 0)], .agg [.lit (.int .u8 0), .lit (.int .u8 0)]]
/-- One of Go's own tables, pinned by name: the form's constant. -/
def laid_unicode_utf8_first : DataW Unit := Go.Pinned.utf8First
def laid_math_bits_deBruijn32tab {H : Type} : DataW H := .agg [.lit (.int .u8 0), .lit (.int .u8 1), .lit (.int .u8 28), .lit (.int .u8 2), .lit (.int .u8 29), .lit (.int .u8 14), .lit (.int .u8 24), .lit (.int .u8 3), .lit (.int .u8 30), .lit (.int .u8 22), .lit (.int .u8 20), .lit (.int .u8 15), .lit (.int .u8 25), .lit (.int .u8 17), .lit (.int .u8 4), .lit (.int .u8 8), .lit (.int .u8 31), .lit (.int .u8 27), .lit (.int .u8 13), .lit (.int .u8 23), .lit (.int .u8 21), .lit (.int .u8 19), .lit (.int .u8 16), .lit (.int .u8 7), .lit (.int .u8 26), .lit (.int .u8 12), .lit (.int .u8 18), .lit (.int .u8 6), .lit (.int .u8 11), .lit (.int .u8 5), .lit (.int .u8 10), .lit (.int .u8 9)]
def laid_math_bits_deBruijn64tab {H : Type} : DataW H := .agg [.lit (.int .u8 0), .lit (.int .u8 1), .lit (.int .u8 56), .lit (.int .u8 2), .lit (.int .u8 57), .lit (.int .u8 49), .lit (.int .u8 28), .lit (.int .u8 3), .lit (.int .u8 61), .lit (.int .u8 58), .lit (.int .u8 42), .lit (.int .u8 50), .lit (.int .u8 38), .lit (.int .u8 29), .lit (.int .u8 17), .lit (.int .u8 4), .lit (.int .u8 62), .lit (.int .u8 47), .lit (.int .u8 59), .lit (.int .u8 36), .lit (.int .u8 45), .lit (.int .u8 43), .lit (.int .u8 51), .lit (.int .u8 22), .lit (.int .u8 53), .lit (.int .u8 39), .lit (.int .u8 33), .lit (.int .u8 30), .lit (.int .u8 24), .lit (.int .u8 18), .lit (.int .u8 12), .lit (.int .u8 5), .lit (.int .u8 63), .lit (.int .u8 55), .lit (.int .u8 48), .lit (.int .u8 27), .lit (.int .u8 60), .lit (.int .u8 41), .lit (.int .u8 37), .lit (.int .u8 16), .lit (.int .u8 46), .lit (.int .u8 35), .lit (.int .u8 44), .lit (.int .u8 21), .lit (.int .u8 52), .lit (.int .u8 32), .lit (.int .u8 23), .lit (.int .u8 11), .lit (.int .u8 54), .lit (.int .u8 26), .lit (.int .u8 40), .lit (.int .u8 15), .lit (.int .u8 34), .lit (.int .u8 20), .lit (.int .u8 31), .lit (.int .u8 10), .lit (.int .u8 25), .lit (.int .u8 14), .lit (.int .u8 19), .lit (.int .u8 9), .lit (.int .u8 13), .lit (.int .u8 8), .lit (.int .u8 7), .lit (.int .u8 6)]
def laid_internal_strconv_uint64pow10 {H : Type} : DataW H := .agg [.lit (.int .u64 1), .lit (.int .u64 10), .lit (.int .u64 100), .lit (.int .u64 1000), .lit (.int .u64 10000), .lit (.int .u64 100000), .lit (.int .u64 1000000), .lit (.int .u64 10000000), .lit (.int .u64 100000000), .lit (.int .u64 1000000000), .lit (.int .u64 10000000000), .lit (.int .u64 100000000000), .lit (.int .u64 1000000000000), .lit (.int .u64 10000000000000), .lit (.int .u64 100000000000000), .lit (.int .u64 1000000000000000), .lit (.int .u64 10000000000000000), .lit (.int .u64 100000000000000000), .lit (.int .u64 1000000000000000000), .lit (.int .u64 10000000000000000000)]

/-- 'armaturelaw16.HierCheckReference': WHATEVER THE INPUT: true; the input reads as it did. -/
def hierCheckReferenceSpec : ChangeSpec := { name := "hierCheckReference", fn := fun _ => fun
  | [d] => { results := [.lit (.bool true)], args := [d] }
  | _ => none }
def hierCheckReferenceRow : OpenClaim := { program := "ythifmcnemeiphaadoor", sum := "5d34200c2425c75bfb54126edec793070514ea0de823885c7c5f260f3bc2d040", func := "armature/armaturelaw16.HierCheckReference", spec := "hierCheckReference", inPlace := ["internal/bytealg.IndexByteString", "internal/bytealg.IndexString"], unfollowed := true, recurses := true, named := ["unicode/utf8.first", "unicode/utf8.acceptRanges", "internal/bytealg.MaxLen"], apart := false, laid := [("unicode/utf8.acceptRanges", laid_unicode_utf8_acceptRanges), ("unicode/utf8.first", laid_unicode_utf8_first)] }
def HierCheckReferenceSaid : Prop := hierCheckReferenceRow.holds Tryd.pinned (OpenSpec.ofChange hierCheckReferenceSpec)

/-- ITS FALSE NEIGHBOUR: 'it returns false'. Refute it at one input. -/
def hierCheckReferenceWrong : ChangeSpec := { name := "hierCheckReference", fn := fun _ => fun
  | [d] => { results := [.lit (.bool false)], args := [d] }
  | _ => none }
def HierCheckReferenceWrongFalsely : Prop := hierCheckReferenceRow.holds Tryd.pinned (OpenSpec.ofChange hierCheckReferenceWrong)

/-- 'armaturelaw16.HierQueryReference': WHATEVER THE INPUT: true; the input reads as it did. -/
def hierQueryReferenceSpec : ChangeSpec := { name := "hierQueryReference", fn := fun _ => fun
  | [d1, d2, d3] => { results := [.lit (.bool true)], args := [d1, d2, d3] }
  | _ => none }
def hierQueryReferenceRow : OpenClaim := { program := "ythifmcnemeiphaadoor", sum := "5d34200c2425c75bfb54126edec793070514ea0de823885c7c5f260f3bc2d040", func := "armature/armaturelaw16.HierQueryReference", spec := "hierQueryReference", inPlace := ["internal/bytealg.IndexByteString", "internal/bytealg.IndexString"], unfollowed := true, recurses := true, named := ["unicode/utf8.first", "unicode/utf8.acceptRanges", "internal/bytealg.MaxLen"], apart := false, laid := [("unicode/utf8.acceptRanges", laid_unicode_utf8_acceptRanges), ("unicode/utf8.first", laid_unicode_utf8_first)] }
def HierQueryReferenceSaid : Prop := hierQueryReferenceRow.holds Tryd.pinned (OpenSpec.ofChange hierQueryReferenceSpec)

/-- ITS FALSE NEIGHBOUR: 'it returns false'. Refute it at one input. -/
def hierQueryReferenceWrong : ChangeSpec := { name := "hierQueryReference", fn := fun _ => fun
  | [d1, d2, d3] => { results := [.lit (.bool false)], args := [d1, d2, d3] }
  | _ => none }
def HierQueryReferenceWrongFalsely : Prop := hierQueryReferenceRow.holds Tryd.pinned (OpenSpec.ofChange hierQueryReferenceWrong)

/-- 'armaturelaw16.HierPartialOrder': WHATEVER THE INPUT: true; the input reads as it did. -/
def hierPartialOrderSpec : ChangeSpec := { name := "hierPartialOrder", fn := fun _ => fun
  | [d1, d2, d3, d4] => { results := [.lit (.bool true)], args := [d1, d2, d3, d4] }
  | _ => none }
def hierPartialOrderRow : OpenClaim := { program := "ythifmcnemeiphaadoor", sum := "5d34200c2425c75bfb54126edec793070514ea0de823885c7c5f260f3bc2d040", func := "armature/armaturelaw16.HierPartialOrder", spec := "hierPartialOrder", inPlace := ["internal/bytealg.IndexByteString", "internal/bytealg.IndexString"], unfollowed := true, recurses := true, named := ["unicode/utf8.first", "unicode/utf8.acceptRanges", "internal/bytealg.MaxLen"], apart := false, laid := [("unicode/utf8.acceptRanges", laid_unicode_utf8_acceptRanges), ("unicode/utf8.first", laid_unicode_utf8_first)] }
def HierPartialOrderSaid : Prop := hierPartialOrderRow.holds Tryd.pinned (OpenSpec.ofChange hierPartialOrderSpec)

/-- ITS FALSE NEIGHBOUR: 'it returns false'. Refute it at one input. -/
def hierPartialOrderWrong : ChangeSpec := { name := "hierPartialOrder", fn := fun _ => fun
  | [d1, d2, d3, d4] => { results := [.lit (.bool false)], args := [d1, d2, d3, d4] }
  | _ => none }
def HierPartialOrderWrongFalsely : Prop := hierPartialOrderRow.holds Tryd.pinned (OpenSpec.ofChange hierPartialOrderWrong)

/-- 'armaturelaw16.HierSuperclassChain': WHATEVER THE INPUT: true; the input reads as it did. -/
def hierSuperclassChainSpec : ChangeSpec := { name := "hierSuperclassChain", fn := fun _ => fun
  | [d1, d2, d3] => { results := [.lit (.bool true)], args := [d1, d2, d3] }
  | _ => none }
def hierSuperclassChainRow : OpenClaim := { program := "ythifmcnemeiphaadoor", sum := "5d34200c2425c75bfb54126edec793070514ea0de823885c7c5f260f3bc2d040", func := "armature/armaturelaw16.HierSuperclassChain", spec := "hierSuperclassChain", inPlace := ["internal/bytealg.IndexByteString", "internal/bytealg.IndexString"], unfollowed := true, recurses := true, named := ["unicode/utf8.first", "unicode/utf8.acceptRanges", "internal/bytealg.MaxLen"], apart := false, laid := [("unicode/utf8.acceptRanges", laid_unicode_utf8_acceptRanges), ("unicode/utf8.first", laid_unicode_utf8_first)] }
def HierSuperclassChainSaid : Prop := hierSuperclassChainRow.holds Tryd.pinned (OpenSpec.ofChange hierSuperclassChainSpec)

/-- ITS FALSE NEIGHBOUR: 'it returns false'. Refute it at one input. -/
def hierSuperclassChainWrong : ChangeSpec := { name := "hierSuperclassChain", fn := fun _ => fun
  | [d1, d2, d3] => { results := [.lit (.bool false)], args := [d1, d2, d3] }
  | _ => none }
def HierSuperclassChainWrongFalsely : Prop := hierSuperclassChainRow.holds Tryd.pinned (OpenSpec.ofChange hierSuperclassChainWrong)

/-- 'armaturelaw16.HierInterfacesComplete': WHATEVER THE INPUT: true; the input reads as it did. -/
def hierInterfacesCompleteSpec : ChangeSpec := { name := "hierInterfacesComplete", fn := fun _ => fun
  | [d1, d2] => { results := [.lit (.bool true)], args := [d1, d2] }
  | _ => none }
def hierInterfacesCompleteRow : OpenClaim := { program := "ythifmcnemeiphaadoor", sum := "5d34200c2425c75bfb54126edec793070514ea0de823885c7c5f260f3bc2d040", func := "armature/armaturelaw16.HierInterfacesComplete", spec := "hierInterfacesComplete", inPlace := ["internal/bytealg.IndexByteString", "internal/bytealg.IndexString"], unfollowed := true, recurses := true, named := ["unicode/utf8.first", "unicode/utf8.acceptRanges", "internal/bytealg.MaxLen"], apart := false, laid := [("unicode/utf8.acceptRanges", laid_unicode_utf8_acceptRanges), ("unicode/utf8.first", laid_unicode_utf8_first)] }
def HierInterfacesCompleteSaid : Prop := hierInterfacesCompleteRow.holds Tryd.pinned (OpenSpec.ofChange hierInterfacesCompleteSpec)

/-- ITS FALSE NEIGHBOUR: 'it returns false'. Refute it at one input. -/
def hierInterfacesCompleteWrong : ChangeSpec := { name := "hierInterfacesComplete", fn := fun _ => fun
  | [d1, d2] => { results := [.lit (.bool false)], args := [d1, d2] }
  | _ => none }
def HierInterfacesCompleteWrongFalsely : Prop := hierInterfacesCompleteRow.holds Tryd.pinned (OpenSpec.ofChange hierInterfacesCompleteWrong)

/-- 'armaturelaw16.HierOrderIrrelevant': WHATEVER THE INPUT: true; the input reads as it did. -/
def hierOrderIrrelevantSpec : ChangeSpec := { name := "hierOrderIrrelevant", fn := fun _ => fun
  | [d1, d2, d3] => { results := [.lit (.bool true)], args := [d1, d2, d3] }
  | _ => none }
def hierOrderIrrelevantRow : OpenClaim := { program := "ythifmcnemeiphaadoor", sum := "5d34200c2425c75bfb54126edec793070514ea0de823885c7c5f260f3bc2d040", func := "armature/armaturelaw16.HierOrderIrrelevant", spec := "hierOrderIrrelevant", inPlace := ["internal/bytealg.IndexByteString", "internal/bytealg.IndexString"], unfollowed := true, recurses := true, named := ["unicode/utf8.first", "unicode/utf8.acceptRanges", "internal/bytealg.MaxLen"], apart := false, laid := [("unicode/utf8.acceptRanges", laid_unicode_utf8_acceptRanges), ("unicode/utf8.first", laid_unicode_utf8_first)] }
def HierOrderIrrelevantSaid : Prop := hierOrderIrrelevantRow.holds Tryd.pinned (OpenSpec.ofChange hierOrderIrrelevantSpec)

/-- ITS FALSE NEIGHBOUR: 'it returns false'. Refute it at one input. -/
def hierOrderIrrelevantWrong : ChangeSpec := { name := "hierOrderIrrelevant", fn := fun _ => fun
  | [d1, d2, d3] => { results := [.lit (.bool false)], args := [d1, d2, d3] }
  | _ => none }
def HierOrderIrrelevantWrongFalsely : Prop := hierOrderIrrelevantRow.holds Tryd.pinned (OpenSpec.ofChange hierOrderIrrelevantWrong)

/-- 'armaturelaw17.VtypeReference': WHATEVER THE INPUT: true; the input reads as it did. -/
def vtypeReferenceSpec : ChangeSpec := { name := "vtypeReference", fn := fun _ => fun
  | [d1, d2] => { results := [.lit (.bool true)], args := [d1, d2] }
  | _ => none }
def vtypeReferenceRow : OpenClaim := { program := "ythifmcnemeiphaadoor", sum := "5d34200c2425c75bfb54126edec793070514ea0de823885c7c5f260f3bc2d040", func := "armature/armaturelaw17.VtypeReference", spec := "vtypeReference", inPlace := ["internal/bytealg.IndexByteString", "internal/bytealg.IndexString", "internal/abi.NoEscape", "internal/bytealg.MakeNoZero"], unfollowed := true, recurses := true, named := ["unicode/utf8.first", "unicode/utf8.acceptRanges", "internal/bytealg.MaxLen", "internal/strconv.uint64pow10", "math/bits.deBruijn32tab", "math/bits.deBruijn64tab"], apart := false, laid := [("math/bits.deBruijn32tab", laid_math_bits_deBruijn32tab), ("math/bits.deBruijn64tab", laid_math_bits_deBruijn64tab), ("internal/strconv.uint64pow10", laid_internal_strconv_uint64pow10), ("unicode/utf8.acceptRanges", laid_unicode_utf8_acceptRanges), ("unicode/utf8.first", laid_unicode_utf8_first)] }
def VtypeReferenceSaid : Prop := vtypeReferenceRow.holds Tryd.pinned (OpenSpec.ofChange vtypeReferenceSpec)

/-- ITS FALSE NEIGHBOUR: 'it returns false'. Refute it at one input. -/
def vtypeReferenceWrong : ChangeSpec := { name := "vtypeReference", fn := fun _ => fun
  | [d1, d2] => { results := [.lit (.bool false)], args := [d1, d2] }
  | _ => none }
def VtypeReferenceWrongFalsely : Prop := vtypeReferenceRow.holds Tryd.pinned (OpenSpec.ofChange vtypeReferenceWrong)

/-- 'armaturelaw18.MergeReference': WHATEVER THE INPUT: true; the input reads as it did. -/
def mergeReferenceSpec : ChangeSpec := { name := "mergeReference", fn := fun _ => fun
  | [d1, d2, d3] => { results := [.lit (.bool true)], args := [d1, d2, d3] }
  | _ => none }
def mergeReferenceRow : OpenClaim := { program := "ythifmcnemeiphaadoor", sum := "5d34200c2425c75bfb54126edec793070514ea0de823885c7c5f260f3bc2d040", func := "armature/armaturelaw18.MergeReference", spec := "mergeReference", inPlace := ["internal/bytealg.IndexByteString", "internal/bytealg.IndexString"], unfollowed := true, recurses := true, named := ["unicode/utf8.first", "unicode/utf8.acceptRanges", "internal/bytealg.MaxLen"], apart := false, laid := [("unicode/utf8.acceptRanges", laid_unicode_utf8_acceptRanges), ("unicode/utf8.first", laid_unicode_utf8_first)] }
def MergeReferenceSaid : Prop := mergeReferenceRow.holds Tryd.pinned (OpenSpec.ofChange mergeReferenceSpec)

/-- ITS FALSE NEIGHBOUR: 'it returns false'. Refute it at one input. -/
def mergeReferenceWrong : ChangeSpec := { name := "mergeReference", fn := fun _ => fun
  | [d1, d2, d3] => { results := [.lit (.bool false)], args := [d1, d2, d3] }
  | _ => none }
def MergeReferenceWrongFalsely : Prop := mergeReferenceRow.holds Tryd.pinned (OpenSpec.ofChange mergeReferenceWrong)

/-- 'armaturelaw18.MergeFrames': WHATEVER THE INPUT: true; the input reads as it did. -/
def mergeFramesSpec : ChangeSpec := { name := "mergeFrames", fn := fun _ => fun
  | [d1, d2, d3] => { results := [.lit (.bool true)], args := [d1, d2, d3] }
  | _ => none }
def mergeFramesRow : OpenClaim := { program := "ythifmcnemeiphaadoor", sum := "5d34200c2425c75bfb54126edec793070514ea0de823885c7c5f260f3bc2d040", func := "armature/armaturelaw18.MergeFrames", spec := "mergeFrames", inPlace := ["internal/bytealg.IndexByteString", "internal/bytealg.IndexString"], unfollowed := true, recurses := true, named := ["unicode/utf8.first", "unicode/utf8.acceptRanges", "internal/bytealg.MaxLen"], apart := false, laid := [("unicode/utf8.acceptRanges", laid_unicode_utf8_acceptRanges), ("unicode/utf8.first", laid_unicode_utf8_first)] }
def MergeFramesSaid : Prop := mergeFramesRow.holds Tryd.pinned (OpenSpec.ofChange mergeFramesSpec)

/-- ITS FALSE NEIGHBOUR: 'it returns false'. Refute it at one input. -/
def mergeFramesWrong : ChangeSpec := { name := "mergeFrames", fn := fun _ => fun
  | [d1, d2, d3] => { results := [.lit (.bool false)], args := [d1, d2, d3] }
  | _ => none }
def MergeFramesWrongFalsely : Prop := mergeFramesRow.holds Tryd.pinned (OpenSpec.ofChange mergeFramesWrong)

/-- 'armaturelaw18.MergeUpperBound': WHATEVER THE INPUT: true; the input reads as it did. -/
def mergeUpperBoundSpec : ChangeSpec := { name := "mergeUpperBound", fn := fun _ => fun
  | [d1, d2, d3] => { results := [.lit (.bool true)], args := [d1, d2, d3] }
  | _ => none }
def mergeUpperBoundRow : OpenClaim := { program := "ythifmcnemeiphaadoor", sum := "5d34200c2425c75bfb54126edec793070514ea0de823885c7c5f260f3bc2d040", func := "armature/armaturelaw18.MergeUpperBound", spec := "mergeUpperBound", inPlace := ["internal/bytealg.IndexByteString", "internal/bytealg.IndexString"], unfollowed := true, recurses := true, named := ["unicode/utf8.first", "unicode/utf8.acceptRanges", "internal/bytealg.MaxLen"], apart := false, laid := [("unicode/utf8.acceptRanges", laid_unicode_utf8_acceptRanges), ("unicode/utf8.first", laid_unicode_utf8_first)] }
def MergeUpperBoundSaid : Prop := mergeUpperBoundRow.holds Tryd.pinned (OpenSpec.ofChange mergeUpperBoundSpec)

/-- ITS FALSE NEIGHBOUR: 'it returns false'. Refute it at one input. -/
def mergeUpperBoundWrong : ChangeSpec := { name := "mergeUpperBound", fn := fun _ => fun
  | [d1, d2, d3] => { results := [.lit (.bool false)], args := [d1, d2, d3] }
  | _ => none }
def MergeUpperBoundWrongFalsely : Prop := mergeUpperBoundRow.holds Tryd.pinned (OpenSpec.ofChange mergeUpperBoundWrong)

/-- 'armaturelaw18.MergeCommutative': WHATEVER THE INPUT: true; the input reads as it did. -/
def mergeCommutativeSpec : ChangeSpec := { name := "mergeCommutative", fn := fun _ => fun
  | [d1, d2, d3] => { results := [.lit (.bool true)], args := [d1, d2, d3] }
  | _ => none }
def mergeCommutativeRow : OpenClaim := { program := "ythifmcnemeiphaadoor", sum := "5d34200c2425c75bfb54126edec793070514ea0de823885c7c5f260f3bc2d040", func := "armature/armaturelaw18.MergeCommutative", spec := "mergeCommutative", inPlace := ["internal/bytealg.IndexByteString", "internal/bytealg.IndexString"], unfollowed := true, recurses := true, named := ["unicode/utf8.first", "unicode/utf8.acceptRanges", "internal/bytealg.MaxLen"], apart := false, laid := [("unicode/utf8.acceptRanges", laid_unicode_utf8_acceptRanges), ("unicode/utf8.first", laid_unicode_utf8_first)] }
def MergeCommutativeSaid : Prop := mergeCommutativeRow.holds Tryd.pinned (OpenSpec.ofChange mergeCommutativeSpec)

/-- ITS FALSE NEIGHBOUR: 'it returns false'. Refute it at one input. -/
def mergeCommutativeWrong : ChangeSpec := { name := "mergeCommutative", fn := fun _ => fun
  | [d1, d2, d3] => { results := [.lit (.bool false)], args := [d1, d2, d3] }
  | _ => none }
def MergeCommutativeWrongFalsely : Prop := mergeCommutativeRow.holds Tryd.pinned (OpenSpec.ofChange mergeCommutativeWrong)

/-- 'armaturelaw18.MergeLeastUpperBound': WHATEVER THE INPUT: true; the input reads as it did. -/
def mergeLeastUpperBoundSpec : ChangeSpec := { name := "mergeLeastUpperBound", fn := fun _ => fun
  | [d1, d2, d3] => { results := [.lit (.bool true)], args := [d1, d2, d3] }
  | _ => none }
def mergeLeastUpperBoundRow : OpenClaim := { program := "ythifmcnemeiphaadoor", sum := "5d34200c2425c75bfb54126edec793070514ea0de823885c7c5f260f3bc2d040", func := "armature/armaturelaw18.MergeLeastUpperBound", spec := "mergeLeastUpperBound", inPlace := ["internal/bytealg.IndexByteString", "internal/bytealg.IndexString"], unfollowed := true, recurses := true, named := ["unicode/utf8.first", "unicode/utf8.acceptRanges", "internal/bytealg.MaxLen"], apart := false, laid := [("unicode/utf8.acceptRanges", laid_unicode_utf8_acceptRanges), ("unicode/utf8.first", laid_unicode_utf8_first)] }
def MergeLeastUpperBoundSaid : Prop := mergeLeastUpperBoundRow.holds Tryd.pinned (OpenSpec.ofChange mergeLeastUpperBoundSpec)

/-- ITS FALSE NEIGHBOUR: 'it returns false'. Refute it at one input. -/
def mergeLeastUpperBoundWrong : ChangeSpec := { name := "mergeLeastUpperBound", fn := fun _ => fun
  | [d1, d2, d3] => { results := [.lit (.bool false)], args := [d1, d2, d3] }
  | _ => none }
def MergeLeastUpperBoundWrongFalsely : Prop := mergeLeastUpperBoundRow.holds Tryd.pinned (OpenSpec.ofChange mergeLeastUpperBoundWrong)

/- THE SECOND FORM. 'bulk': how many values and letters a reading holds, each counted each time it is reached (what is shared counts as often as it is met; a slice's spare places count too). A statement '..UptoSaid' is the law's where the arguments, and the package variables that the reading takes, are together of bulk at most 1048576: NARROWER than '..Said'. Prove '..Said' where nothing that the law and all that it calls make is longer than what came in: it says more and counts as full. Else prove '..UptoSaid'. A law counts once. -/
mutual
def uptoBulk {H : Type} : DataW H → Nat
  | .lit (.string bytes) => bytes.length + 1
  | .lit _ => 1
  | .nil => 1
  | .ptr d => uptoBulk d + 1
  | .slice elems spare => uptoBulkAll elems + uptoBulkAll spare + 1
  | .agg parts => uptoBulkAll parts + 1
  | .iface _ d => uptoBulk d + 1
  | .map entries => uptoBulkEntries entries + 1
  | .held _ => 1
def uptoBulkAll {H : Type} : List (DataW H) → Nat
  | [] => 0
  | d :: r => uptoBulk d + uptoBulkAll r
def uptoBulkEntries {H : Type} : List (Lit × DataW H) → Nat
  | [] => 0
  | x :: r => uptoBulkEntry x + uptoBulkEntries r
def uptoBulkEntry {H : Type} : Lit × DataW H → Nat
  | (.string bytes, d) => bytes.length + uptoBulk d + 1
  | (_, d) => uptoBulk d + 1
 end
def uptoSmall : (H : Type) → List (DataW H) → Bool := fun _ ds => decide (uptoBulkAll ds ≤ 1048576)
def OpenSpec.upto (s : _root_.Go.ChangeSpec) : _root_.Go.OpenSpec := { _root_.Go.OpenSpec.ofChange s with cond := some uptoSmall }

/-- 'armaturelaw16.HierCheckReference', WHERE WHAT IT READS IS OF BULK AT MOST 1048576: true; the input reads as it did. -/
def hierCheckReferenceUptoRow : OpenClaim := { program := "ythifmcnemeiphaadoor", sum := "5d34200c2425c75bfb54126edec793070514ea0de823885c7c5f260f3bc2d040", func := "armature/armaturelaw16.HierCheckReference", spec := "hierCheckReference", inPlace := ["internal/bytealg.IndexByteString", "internal/bytealg.IndexString"], unfollowed := true, recurses := true, named := ["unicode/utf8.first", "unicode/utf8.acceptRanges", "internal/bytealg.MaxLen"], apart := false, laid := [("unicode/utf8.acceptRanges", laid_unicode_utf8_acceptRanges), ("unicode/utf8.first", laid_unicode_utf8_first)], narrowed := true }
def HierCheckReferenceUptoSaid : Prop := hierCheckReferenceUptoRow.holds Tryd.pinned (OpenSpec.upto hierCheckReferenceSpec)

/-- 'armaturelaw16.HierQueryReference', WHERE WHAT IT READS IS OF BULK AT MOST 1048576: true; the input reads as it did. -/
def hierQueryReferenceUptoRow : OpenClaim := { program := "ythifmcnemeiphaadoor", sum := "5d34200c2425c75bfb54126edec793070514ea0de823885c7c5f260f3bc2d040", func := "armature/armaturelaw16.HierQueryReference", spec := "hierQueryReference", inPlace := ["internal/bytealg.IndexByteString", "internal/bytealg.IndexString"], unfollowed := true, recurses := true, named := ["unicode/utf8.first", "unicode/utf8.acceptRanges", "internal/bytealg.MaxLen"], apart := false, laid := [("unicode/utf8.acceptRanges", laid_unicode_utf8_acceptRanges), ("unicode/utf8.first", laid_unicode_utf8_first)], narrowed := true }
def HierQueryReferenceUptoSaid : Prop := hierQueryReferenceUptoRow.holds Tryd.pinned (OpenSpec.upto hierQueryReferenceSpec)

/-- 'armaturelaw16.HierPartialOrder', WHERE WHAT IT READS IS OF BULK AT MOST 1048576: true; the input reads as it did. -/
def hierPartialOrderUptoRow : OpenClaim := { program := "ythifmcnemeiphaadoor", sum := "5d34200c2425c75bfb54126edec793070514ea0de823885c7c5f260f3bc2d040", func := "armature/armaturelaw16.HierPartialOrder", spec := "hierPartialOrder", inPlace := ["internal/bytealg.IndexByteString", "internal/bytealg.IndexString"], unfollowed := true, recurses := true, named := ["unicode/utf8.first", "unicode/utf8.acceptRanges", "internal/bytealg.MaxLen"], apart := false, laid := [("unicode/utf8.acceptRanges", laid_unicode_utf8_acceptRanges), ("unicode/utf8.first", laid_unicode_utf8_first)], narrowed := true }
def HierPartialOrderUptoSaid : Prop := hierPartialOrderUptoRow.holds Tryd.pinned (OpenSpec.upto hierPartialOrderSpec)

/-- 'armaturelaw16.HierSuperclassChain', WHERE WHAT IT READS IS OF BULK AT MOST 1048576: true; the input reads as it did. -/
def hierSuperclassChainUptoRow : OpenClaim := { program := "ythifmcnemeiphaadoor", sum := "5d34200c2425c75bfb54126edec793070514ea0de823885c7c5f260f3bc2d040", func := "armature/armaturelaw16.HierSuperclassChain", spec := "hierSuperclassChain", inPlace := ["internal/bytealg.IndexByteString", "internal/bytealg.IndexString"], unfollowed := true, recurses := true, named := ["unicode/utf8.first", "unicode/utf8.acceptRanges", "internal/bytealg.MaxLen"], apart := false, laid := [("unicode/utf8.acceptRanges", laid_unicode_utf8_acceptRanges), ("unicode/utf8.first", laid_unicode_utf8_first)], narrowed := true }
def HierSuperclassChainUptoSaid : Prop := hierSuperclassChainUptoRow.holds Tryd.pinned (OpenSpec.upto hierSuperclassChainSpec)

/-- 'armaturelaw16.HierInterfacesComplete', WHERE WHAT IT READS IS OF BULK AT MOST 1048576: true; the input reads as it did. -/
def hierInterfacesCompleteUptoRow : OpenClaim := { program := "ythifmcnemeiphaadoor", sum := "5d34200c2425c75bfb54126edec793070514ea0de823885c7c5f260f3bc2d040", func := "armature/armaturelaw16.HierInterfacesComplete", spec := "hierInterfacesComplete", inPlace := ["internal/bytealg.IndexByteString", "internal/bytealg.IndexString"], unfollowed := true, recurses := true, named := ["unicode/utf8.first", "unicode/utf8.acceptRanges", "internal/bytealg.MaxLen"], apart := false, laid := [("unicode/utf8.acceptRanges", laid_unicode_utf8_acceptRanges), ("unicode/utf8.first", laid_unicode_utf8_first)], narrowed := true }
def HierInterfacesCompleteUptoSaid : Prop := hierInterfacesCompleteUptoRow.holds Tryd.pinned (OpenSpec.upto hierInterfacesCompleteSpec)

/-- 'armaturelaw16.HierOrderIrrelevant', WHERE WHAT IT READS IS OF BULK AT MOST 1048576: true; the input reads as it did. -/
def hierOrderIrrelevantUptoRow : OpenClaim := { program := "ythifmcnemeiphaadoor", sum := "5d34200c2425c75bfb54126edec793070514ea0de823885c7c5f260f3bc2d040", func := "armature/armaturelaw16.HierOrderIrrelevant", spec := "hierOrderIrrelevant", inPlace := ["internal/bytealg.IndexByteString", "internal/bytealg.IndexString"], unfollowed := true, recurses := true, named := ["unicode/utf8.first", "unicode/utf8.acceptRanges", "internal/bytealg.MaxLen"], apart := false, laid := [("unicode/utf8.acceptRanges", laid_unicode_utf8_acceptRanges), ("unicode/utf8.first", laid_unicode_utf8_first)], narrowed := true }
def HierOrderIrrelevantUptoSaid : Prop := hierOrderIrrelevantUptoRow.holds Tryd.pinned (OpenSpec.upto hierOrderIrrelevantSpec)

/-- 'armaturelaw17.VtypeReference', WHERE WHAT IT READS IS OF BULK AT MOST 1048576: true; the input reads as it did. -/
def vtypeReferenceUptoRow : OpenClaim := { program := "ythifmcnemeiphaadoor", sum := "5d34200c2425c75bfb54126edec793070514ea0de823885c7c5f260f3bc2d040", func := "armature/armaturelaw17.VtypeReference", spec := "vtypeReference", inPlace := ["internal/bytealg.IndexByteString", "internal/bytealg.IndexString", "internal/abi.NoEscape", "internal/bytealg.MakeNoZero"], unfollowed := true, recurses := true, named := ["unicode/utf8.first", "unicode/utf8.acceptRanges", "internal/bytealg.MaxLen", "internal/strconv.uint64pow10", "math/bits.deBruijn32tab", "math/bits.deBruijn64tab"], apart := false, laid := [("math/bits.deBruijn32tab", laid_math_bits_deBruijn32tab), ("math/bits.deBruijn64tab", laid_math_bits_deBruijn64tab), ("internal/strconv.uint64pow10", laid_internal_strconv_uint64pow10), ("unicode/utf8.acceptRanges", laid_unicode_utf8_acceptRanges), ("unicode/utf8.first", laid_unicode_utf8_first)], narrowed := true }
def VtypeReferenceUptoSaid : Prop := vtypeReferenceUptoRow.holds Tryd.pinned (OpenSpec.upto vtypeReferenceSpec)

/-- 'armaturelaw18.MergeReference', WHERE WHAT IT READS IS OF BULK AT MOST 1048576: true; the input reads as it did. -/
def mergeReferenceUptoRow : OpenClaim := { program := "ythifmcnemeiphaadoor", sum := "5d34200c2425c75bfb54126edec793070514ea0de823885c7c5f260f3bc2d040", func := "armature/armaturelaw18.MergeReference", spec := "mergeReference", inPlace := ["internal/bytealg.IndexByteString", "internal/bytealg.IndexString"], unfollowed := true, recurses := true, named := ["unicode/utf8.first", "unicode/utf8.acceptRanges", "internal/bytealg.MaxLen"], apart := false, laid := [("unicode/utf8.acceptRanges", laid_unicode_utf8_acceptRanges), ("unicode/utf8.first", laid_unicode_utf8_first)], narrowed := true }
def MergeReferenceUptoSaid : Prop := mergeReferenceUptoRow.holds Tryd.pinned (OpenSpec.upto mergeReferenceSpec)

/-- 'armaturelaw18.MergeFrames', WHERE WHAT IT READS IS OF BULK AT MOST 1048576: true; the input reads as it did. -/
def mergeFramesUptoRow : OpenClaim := { program := "ythifmcnemeiphaadoor", sum := "5d34200c2425c75bfb54126edec793070514ea0de823885c7c5f260f3bc2d040", func := "armature/armaturelaw18.MergeFrames", spec := "mergeFrames", inPlace := ["internal/bytealg.IndexByteString", "internal/bytealg.IndexString"], unfollowed := true, recurses := true, named := ["unicode/utf8.first", "unicode/utf8.acceptRanges", "internal/bytealg.MaxLen"], apart := false, laid := [("unicode/utf8.acceptRanges", laid_unicode_utf8_acceptRanges), ("unicode/utf8.first", laid_unicode_utf8_first)], narrowed := true }
def MergeFramesUptoSaid : Prop := mergeFramesUptoRow.holds Tryd.pinned (OpenSpec.upto mergeFramesSpec)

/-- 'armaturelaw18.MergeUpperBound', WHERE WHAT IT READS IS OF BULK AT MOST 1048576: true; the input reads as it did. -/
def mergeUpperBoundUptoRow : OpenClaim := { program := "ythifmcnemeiphaadoor", sum := "5d34200c2425c75bfb54126edec793070514ea0de823885c7c5f260f3bc2d040", func := "armature/armaturelaw18.MergeUpperBound", spec := "mergeUpperBound", inPlace := ["internal/bytealg.IndexByteString", "internal/bytealg.IndexString"], unfollowed := true, recurses := true, named := ["unicode/utf8.first", "unicode/utf8.acceptRanges", "internal/bytealg.MaxLen"], apart := false, laid := [("unicode/utf8.acceptRanges", laid_unicode_utf8_acceptRanges), ("unicode/utf8.first", laid_unicode_utf8_first)], narrowed := true }
def MergeUpperBoundUptoSaid : Prop := mergeUpperBoundUptoRow.holds Tryd.pinned (OpenSpec.upto mergeUpperBoundSpec)

/-- 'armaturelaw18.MergeCommutative', WHERE WHAT IT READS IS OF BULK AT MOST 1048576: true; the input reads as it did. -/
def mergeCommutativeUptoRow : OpenClaim := { program := "ythifmcnemeiphaadoor", sum := "5d34200c2425c75bfb54126edec793070514ea0de823885c7c5f260f3bc2d040", func := "armature/armaturelaw18.MergeCommutative", spec := "mergeCommutative", inPlace := ["internal/bytealg.IndexByteString", "internal/bytealg.IndexString"], unfollowed := true, recurses := true, named := ["unicode/utf8.first", "unicode/utf8.acceptRanges", "internal/bytealg.MaxLen"], apart := false, laid := [("unicode/utf8.acceptRanges", laid_unicode_utf8_acceptRanges), ("unicode/utf8.first", laid_unicode_utf8_first)], narrowed := true }
def MergeCommutativeUptoSaid : Prop := mergeCommutativeUptoRow.holds Tryd.pinned (OpenSpec.upto mergeCommutativeSpec)

/-- 'armaturelaw18.MergeLeastUpperBound', WHERE WHAT IT READS IS OF BULK AT MOST 1048576: true; the input reads as it did. -/
def mergeLeastUpperBoundUptoRow : OpenClaim := { program := "ythifmcnemeiphaadoor", sum := "5d34200c2425c75bfb54126edec793070514ea0de823885c7c5f260f3bc2d040", func := "armature/armaturelaw18.MergeLeastUpperBound", spec := "mergeLeastUpperBound", inPlace := ["internal/bytealg.IndexByteString", "internal/bytealg.IndexString"], unfollowed := true, recurses := true, named := ["unicode/utf8.first", "unicode/utf8.acceptRanges", "internal/bytealg.MaxLen"], apart := false, laid := [("unicode/utf8.acceptRanges", laid_unicode_utf8_acceptRanges), ("unicode/utf8.first", laid_unicode_utf8_first)], narrowed := true }
def MergeLeastUpperBoundUptoSaid : Prop := mergeLeastUpperBoundUptoRow.holds Tryd.pinned (OpenSpec.upto mergeLeastUpperBoundSpec)

end Rows
end Go.Proofs.YthifmcnemeiphaaDoor
