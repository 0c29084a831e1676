/-
  NARROWER THAN 'FOR EVERY INPUT', by the rows' own cells (each row's printed sentence says how): CodeBlocksReference: laid · CodeValidIndexes: laid · CodeStaysValid: laid · CodeBlocksPartition: laid · StackmapRequired: laid · StackmapCheck: laid · StackmapSelect: laid · StackmapAttach: laid.
  DERIVED. THE GIVEN ROWS OF THIS SEAT. 8 by the template 'for every input the law returns true; each argument reads behind the call as it read before'; 0 by the template 'total and deterministic' (their statements: YtdppooflbjlbcaaDoorTotals.lean).
  GIVEN WITH THE SEED: the statements are not yours to turn. If you find one false, say at which input.
  Laid BY PROGRAM, IN A SANDBOX (cutbox-rows.mjs): the forced cells as the released guide's own fill.sh prints them over the translation db7fdc8a6a5d2e29… (all of the seat's roots in one cut). By AI agents, Wed Nov 11 2026. No macro, syntax, notation, axiom, sorry.
-/
import Derived.Test.YtdppooflbjlbcaaDoorChecked
import GoSem.PinnedTables
import GoSem.Claim
import GoSem.ClaimJoined
import GoSem.ClaimMapViews
import Derived.JoinedTies
import Derived.KernelRfl
namespace Go.Proofs.YtdppooflbjlbcaaDoor
/- THE CELL 'sum', in the pinned program and in every row, IS THE sha256 OF THE DUMP (.gsa) THAT YtdppooflbjlbcaaDoorProg.lean LOADS. Nothing in Lean hashes anything: it is a label: what it is worth is what the hold of that sum in a sandbox is worth. -/
noncomputable def Tryd.pinned : Pinned := { name := "ytdppooflbjlbcaadoor", sum := "db7fdc8a6a5d2e29df2280fe3643a14b192205dbe007e45d5a7f79532b05142f", checked := Tryd.checked }
namespace Rows
def none {H : Type} : Left H := { results := [], args := [] }

/- WHAT THE LISTED PACKAGE-LEVEL VARIABLES READ AS WHEN THE CALL BEGINS. Each datum BY PROGRAM (the guide's laid-datum.mjs) off the statement by which the dump's own 'gosem.cut.vars' lays the variable. In a bare row this is a premise. The card (YtdppooflbjlbcaaDoorCards.lean) ties it to the program's text. -/
def laid_unicode_utf8_acceptRanges {H : Type} : DataW H := .agg [.agg [.lit (.int .u8 128), .lit (.int .u8 191)], .agg [.lit (.int .u8 160), .lit (.int .u8 191)], .agg [.lit (.int .u8 128), .lit (.int .u8 159)], .agg [.lit (.int .u8 144), .lit (.int .u8 191)], .agg [.lit (.int .u8 128), .lit (.int .u8 143)], .agg [.lit (.int .u8 0), .lit (.int .u8 0)], .agg [.lit (.int .u8 0), .lit (.int .u8 0)], .agg [.lit (.int .u8 0), .lit (.int .u8 0)], .agg [.lit (.int .u8 0), .lit (.int .u8 0)], .agg [.lit (.int .u8 0), .lit (.int .u8 0)], .agg [.lit (.int .u8 0), .lit (.int .u8 0)], .agg [.lit (.int .u8 0), .lit (.int .u8 0)], .agg [.lit (.int .u8 0), .lit (.int .u8 0)], .agg [.lit (.int .u8 0), .lit (.int .u8 0)], .agg [.lit (.int .u8 0), .lit (.int .u8 0)], .agg [.lit (.int .u8 0), .lit (.int .u8 0)]]
/-- One of Go's own tables, pinned by name: the form's constant. -/
def laid_unicode_utf8_first : DataW Unit := Go.Pinned.utf8First

/-- 'armaturelaw09.CodeBlocksReference': WHATEVER THE INPUT: true; the input reads as it did. -/
def codeBlocksReferenceSpec : ChangeSpec := { name := "codeBlocksReference", fn := fun _ => fun
  | [d] => { results := [.lit (.bool true)], args := [d] }
  | _ => none }
def codeBlocksReferenceRow : OpenClaim := { program := "ytdppooflbjlbcaadoor", sum := "db7fdc8a6a5d2e29df2280fe3643a14b192205dbe007e45d5a7f79532b05142f", func := "armature/armaturelaw09.CodeBlocksReference", spec := "codeBlocksReference", inPlace := ["internal/bytealg.IndexByteString", "internal/bytealg.IndexString"], unfollowed := true, recurses := true, named := ["unicode/utf8.first", "unicode/utf8.acceptRanges", "internal/bytealg.MaxLen"], apart := false, laid := [("unicode/utf8.acceptRanges", laid_unicode_utf8_acceptRanges), ("unicode/utf8.first", laid_unicode_utf8_first)] }
def CodeBlocksReferenceSaid : Prop := codeBlocksReferenceRow.holds Tryd.pinned (OpenSpec.ofChange codeBlocksReferenceSpec)

/-- ITS FALSE NEIGHBOUR: 'it returns false'. Refute it at one input. -/
def codeBlocksReferenceWrong : ChangeSpec := { name := "codeBlocksReference", fn := fun _ => fun
  | [d] => { results := [.lit (.bool false)], args := [d] }
  | _ => none }
def CodeBlocksReferenceWrongFalsely : Prop := codeBlocksReferenceRow.holds Tryd.pinned (OpenSpec.ofChange codeBlocksReferenceWrong)

/-- 'armaturelaw09.CodeValidIndexes': WHATEVER THE INPUT: true; the input reads as it did. -/
def codeValidIndexesSpec : ChangeSpec := { name := "codeValidIndexes", fn := fun _ => fun
  | [d1, d2] => { results := [.lit (.bool true)], args := [d1, d2] }
  | _ => none }
def codeValidIndexesRow : OpenClaim := { program := "ytdppooflbjlbcaadoor", sum := "db7fdc8a6a5d2e29df2280fe3643a14b192205dbe007e45d5a7f79532b05142f", func := "armature/armaturelaw09.CodeValidIndexes", spec := "codeValidIndexes", inPlace := ["internal/bytealg.IndexByteString", "internal/bytealg.IndexString"], unfollowed := true, recurses := true, named := ["unicode/utf8.first", "unicode/utf8.acceptRanges", "internal/bytealg.MaxLen"], apart := false, laid := [("unicode/utf8.acceptRanges", laid_unicode_utf8_acceptRanges), ("unicode/utf8.first", laid_unicode_utf8_first)] }
def CodeValidIndexesSaid : Prop := codeValidIndexesRow.holds Tryd.pinned (OpenSpec.ofChange codeValidIndexesSpec)

/-- ITS FALSE NEIGHBOUR: 'it returns false'. Refute it at one input. -/
def codeValidIndexesWrong : ChangeSpec := { name := "codeValidIndexes", fn := fun _ => fun
  | [d1, d2] => { results := [.lit (.bool false)], args := [d1, d2] }
  | _ => none }
def CodeValidIndexesWrongFalsely : Prop := codeValidIndexesRow.holds Tryd.pinned (OpenSpec.ofChange codeValidIndexesWrong)

/-- 'armaturelaw09.CodeStaysValid': WHATEVER THE INPUT: true; the input reads as it did. -/
def codeStaysValidSpec : ChangeSpec := { name := "codeStaysValid", fn := fun _ => fun
  | [d1, d2, d3] => { results := [.lit (.bool true)], args := [d1, d2, d3] }
  | _ => none }
def codeStaysValidRow : OpenClaim := { program := "ytdppooflbjlbcaadoor", sum := "db7fdc8a6a5d2e29df2280fe3643a14b192205dbe007e45d5a7f79532b05142f", func := "armature/armaturelaw09.CodeStaysValid", spec := "codeStaysValid", inPlace := ["internal/bytealg.IndexByteString", "internal/bytealg.IndexString"], unfollowed := true, recurses := true, named := ["unicode/utf8.first", "unicode/utf8.acceptRanges", "internal/bytealg.MaxLen"], apart := false, laid := [("unicode/utf8.acceptRanges", laid_unicode_utf8_acceptRanges), ("unicode/utf8.first", laid_unicode_utf8_first)] }
def CodeStaysValidSaid : Prop := codeStaysValidRow.holds Tryd.pinned (OpenSpec.ofChange codeStaysValidSpec)

/-- ITS FALSE NEIGHBOUR: 'it returns false'. Refute it at one input. -/
def codeStaysValidWrong : ChangeSpec := { name := "codeStaysValid", fn := fun _ => fun
  | [d1, d2, d3] => { results := [.lit (.bool false)], args := [d1, d2, d3] }
  | _ => none }
def CodeStaysValidWrongFalsely : Prop := codeStaysValidRow.holds Tryd.pinned (OpenSpec.ofChange codeStaysValidWrong)

/-- 'armaturelaw09.CodeBlocksPartition': WHATEVER THE INPUT: true; the input reads as it did. -/
def codeBlocksPartitionSpec : ChangeSpec := { name := "codeBlocksPartition", fn := fun _ => fun
  | [d] => { results := [.lit (.bool true)], args := [d] }
  | _ => none }
def codeBlocksPartitionRow : OpenClaim := { program := "ytdppooflbjlbcaadoor", sum := "db7fdc8a6a5d2e29df2280fe3643a14b192205dbe007e45d5a7f79532b05142f", func := "armature/armaturelaw09.CodeBlocksPartition", spec := "codeBlocksPartition", inPlace := ["internal/bytealg.IndexByteString", "internal/bytealg.IndexString"], unfollowed := true, recurses := true, named := ["unicode/utf8.first", "unicode/utf8.acceptRanges", "internal/bytealg.MaxLen"], apart := false, laid := [("unicode/utf8.acceptRanges", laid_unicode_utf8_acceptRanges), ("unicode/utf8.first", laid_unicode_utf8_first)] }
def CodeBlocksPartitionSaid : Prop := codeBlocksPartitionRow.holds Tryd.pinned (OpenSpec.ofChange codeBlocksPartitionSpec)

/-- ITS FALSE NEIGHBOUR: 'it returns false'. Refute it at one input. -/
def codeBlocksPartitionWrong : ChangeSpec := { name := "codeBlocksPartition", fn := fun _ => fun
  | [d] => { results := [.lit (.bool false)], args := [d] }
  | _ => none }
def CodeBlocksPartitionWrongFalsely : Prop := codeBlocksPartitionRow.holds Tryd.pinned (OpenSpec.ofChange codeBlocksPartitionWrong)

/-- 'armaturelaw22.StackmapRequired': WHATEVER THE INPUT: true; the input reads as it did. -/
def stackmapRequiredSpec : ChangeSpec := { name := "stackmapRequired", fn := fun _ => fun
  | [d1, d2, d3] => { results := [.lit (.bool true)], args := [d1, d2, d3] }
  | _ => none }
def stackmapRequiredRow : OpenClaim := { program := "ytdppooflbjlbcaadoor", sum := "db7fdc8a6a5d2e29df2280fe3643a14b192205dbe007e45d5a7f79532b05142f", func := "armature/armaturelaw22.StackmapRequired", spec := "stackmapRequired", inPlace := ["internal/bytealg.IndexByteString", "internal/bytealg.IndexString"], unfollowed := true, recurses := true, named := ["unicode/utf8.first", "unicode/utf8.acceptRanges", "internal/bytealg.MaxLen"], apart := false, laid := [("unicode/utf8.acceptRanges", laid_unicode_utf8_acceptRanges), ("unicode/utf8.first", laid_unicode_utf8_first)] }
def StackmapRequiredSaid : Prop := stackmapRequiredRow.holds Tryd.pinned (OpenSpec.ofChange stackmapRequiredSpec)

/-- ITS FALSE NEIGHBOUR: 'it returns false'. Refute it at one input. -/
def stackmapRequiredWrong : ChangeSpec := { name := "stackmapRequired", fn := fun _ => fun
  | [d1, d2, d3] => { results := [.lit (.bool false)], args := [d1, d2, d3] }
  | _ => none }
def StackmapRequiredWrongFalsely : Prop := stackmapRequiredRow.holds Tryd.pinned (OpenSpec.ofChange stackmapRequiredWrong)

/-- 'armaturelaw22.StackmapCheck': WHATEVER THE INPUT: true; the input reads as it did. -/
def stackmapCheckSpec : ChangeSpec := { name := "stackmapCheck", fn := fun _ => fun
  | [d1, d2, d3, d4] => { results := [.lit (.bool true)], args := [d1, d2, d3, d4] }
  | _ => none }
def stackmapCheckRow : OpenClaim := { program := "ytdppooflbjlbcaadoor", sum := "db7fdc8a6a5d2e29df2280fe3643a14b192205dbe007e45d5a7f79532b05142f", func := "armature/armaturelaw22.StackmapCheck", spec := "stackmapCheck", inPlace := ["internal/bytealg.IndexByteString", "internal/bytealg.IndexString"], unfollowed := true, recurses := true, named := ["unicode/utf8.first", "unicode/utf8.acceptRanges", "internal/bytealg.MaxLen"], apart := false, laid := [("unicode/utf8.acceptRanges", laid_unicode_utf8_acceptRanges), ("unicode/utf8.first", laid_unicode_utf8_first)] }
def StackmapCheckSaid : Prop := stackmapCheckRow.holds Tryd.pinned (OpenSpec.ofChange stackmapCheckSpec)

/-- ITS FALSE NEIGHBOUR: 'it returns false'. Refute it at one input. -/
def stackmapCheckWrong : ChangeSpec := { name := "stackmapCheck", fn := fun _ => fun
  | [d1, d2, d3, d4] => { results := [.lit (.bool false)], args := [d1, d2, d3, d4] }
  | _ => none }
def StackmapCheckWrongFalsely : Prop := stackmapCheckRow.holds Tryd.pinned (OpenSpec.ofChange stackmapCheckWrong)

/-- 'armaturelaw22.StackmapSelect': WHATEVER THE INPUT: true; the input reads as it did. -/
def stackmapSelectSpec : ChangeSpec := { name := "stackmapSelect", fn := fun _ => fun
  | [d1, d2] => { results := [.lit (.bool true)], args := [d1, d2] }
  | _ => none }
def stackmapSelectRow : OpenClaim := { program := "ytdppooflbjlbcaadoor", sum := "db7fdc8a6a5d2e29df2280fe3643a14b192205dbe007e45d5a7f79532b05142f", func := "armature/armaturelaw22.StackmapSelect", spec := "stackmapSelect", inPlace := ["internal/bytealg.IndexByteString", "internal/bytealg.IndexString"], unfollowed := true, recurses := true, named := ["unicode/utf8.first", "unicode/utf8.acceptRanges", "internal/bytealg.MaxLen"], apart := false, laid := [("unicode/utf8.acceptRanges", laid_unicode_utf8_acceptRanges), ("unicode/utf8.first", laid_unicode_utf8_first)] }
def StackmapSelectSaid : Prop := stackmapSelectRow.holds Tryd.pinned (OpenSpec.ofChange stackmapSelectSpec)

/-- ITS FALSE NEIGHBOUR: 'it returns false'. Refute it at one input. -/
def stackmapSelectWrong : ChangeSpec := { name := "stackmapSelect", fn := fun _ => fun
  | [d1, d2] => { results := [.lit (.bool false)], args := [d1, d2] }
  | _ => none }
def StackmapSelectWrongFalsely : Prop := stackmapSelectRow.holds Tryd.pinned (OpenSpec.ofChange stackmapSelectWrong)

/-- 'armaturelaw22.StackmapAttach': WHATEVER THE INPUT: true; the input reads as it did. -/
def stackmapAttachSpec : ChangeSpec := { name := "stackmapAttach", fn := fun _ => fun
  | [d1, d2, d3] => { results := [.lit (.bool true)], args := [d1, d2, d3] }
  | _ => none }
def stackmapAttachRow : OpenClaim := { program := "ytdppooflbjlbcaadoor", sum := "db7fdc8a6a5d2e29df2280fe3643a14b192205dbe007e45d5a7f79532b05142f", func := "armature/armaturelaw22.StackmapAttach", spec := "stackmapAttach", inPlace := ["internal/bytealg.IndexByteString", "internal/bytealg.IndexString"], unfollowed := true, recurses := true, named := ["unicode/utf8.first", "unicode/utf8.acceptRanges", "internal/bytealg.MaxLen"], apart := false, laid := [("unicode/utf8.acceptRanges", laid_unicode_utf8_acceptRanges), ("unicode/utf8.first", laid_unicode_utf8_first)] }
def StackmapAttachSaid : Prop := stackmapAttachRow.holds Tryd.pinned (OpenSpec.ofChange stackmapAttachSpec)

/-- ITS FALSE NEIGHBOUR: 'it returns false'. Refute it at one input. -/
def stackmapAttachWrong : ChangeSpec := { name := "stackmapAttach", fn := fun _ => fun
  | [d1, d2, d3] => { results := [.lit (.bool false)], args := [d1, d2, d3] }
  | _ => none }
def StackmapAttachWrongFalsely : Prop := stackmapAttachRow.holds Tryd.pinned (OpenSpec.ofChange stackmapAttachWrong)

/- THE SECOND FORM. 'bulk': how many values and letters a reading holds, each counted each time it is reached (what is shared counts as often as it is met; a slice's spare places count too). A statement '..UptoSaid' is the law's where the arguments, and the package variables that the reading takes, are together of bulk at most 1048576: NARROWER than '..Said'. Prove '..Said' where nothing that the law and all that it calls make is longer than what came in: it says more and counts as full. Else prove '..UptoSaid'. A law counts once. -/
mutual
def uptoBulk {H : Type} : DataW H → Nat
  | .lit (.string bytes) => bytes.length + 1
  | .lit _ => 1
  | .nil => 1
  | .ptr d => uptoBulk d + 1
  | .slice elems spare => uptoBulkAll elems + uptoBulkAll spare + 1
  | .agg parts => uptoBulkAll parts + 1
  | .iface _ d => uptoBulk d + 1
  | .map entries => uptoBulkEntries entries + 1
  | .held _ => 1
def uptoBulkAll {H : Type} : List (DataW H) → Nat
  | [] => 0
  | d :: r => uptoBulk d + uptoBulkAll r
def uptoBulkEntries {H : Type} : List (Lit × DataW H) → Nat
  | [] => 0
  | x :: r => uptoBulkEntry x + uptoBulkEntries r
def uptoBulkEntry {H : Type} : Lit × DataW H → Nat
  | (.string bytes, d) => bytes.length + uptoBulk d + 1
  | (_, d) => uptoBulk d + 1
 end
def uptoSmall : (H : Type) → List (DataW H) → Bool := fun _ ds => decide (uptoBulkAll ds ≤ 1048576)
def OpenSpec.upto (s : _root_.Go.ChangeSpec) : _root_.Go.OpenSpec := { _root_.Go.OpenSpec.ofChange s with cond := some uptoSmall }

/-- 'armaturelaw09.CodeBlocksReference', WHERE WHAT IT READS IS OF BULK AT MOST 1048576: true; the input reads as it did. -/
def codeBlocksReferenceUptoRow : OpenClaim := { program := "ytdppooflbjlbcaadoor", sum := "db7fdc8a6a5d2e29df2280fe3643a14b192205dbe007e45d5a7f79532b05142f", func := "armature/armaturelaw09.CodeBlocksReference", spec := "codeBlocksReference", inPlace := ["internal/bytealg.IndexByteString", "internal/bytealg.IndexString"], unfollowed := true, recurses := true, named := ["unicode/utf8.first", "unicode/utf8.acceptRanges", "internal/bytealg.MaxLen"], apart := false, laid := [("unicode/utf8.acceptRanges", laid_unicode_utf8_acceptRanges), ("unicode/utf8.first", laid_unicode_utf8_first)], narrowed := true }
def CodeBlocksReferenceUptoSaid : Prop := codeBlocksReferenceUptoRow.holds Tryd.pinned (OpenSpec.upto codeBlocksReferenceSpec)

/-- 'armaturelaw09.CodeValidIndexes', WHERE WHAT IT READS IS OF BULK AT MOST 1048576: true; the input reads as it did. -/
def codeValidIndexesUptoRow : OpenClaim := { program := "ytdppooflbjlbcaadoor", sum := "db7fdc8a6a5d2e29df2280fe3643a14b192205dbe007e45d5a7f79532b05142f", func := "armature/armaturelaw09.CodeValidIndexes", spec := "codeValidIndexes", inPlace := ["internal/bytealg.IndexByteString", "internal/bytealg.IndexString"], unfollowed := true, recurses := true, named := ["unicode/utf8.first", "unicode/utf8.acceptRanges", "internal/bytealg.MaxLen"], apart := false, laid := [("unicode/utf8.acceptRanges", laid_unicode_utf8_acceptRanges), ("unicode/utf8.first", laid_unicode_utf8_first)], narrowed := true }
def CodeValidIndexesUptoSaid : Prop := codeValidIndexesUptoRow.holds Tryd.pinned (OpenSpec.upto codeValidIndexesSpec)

/-- 'armaturelaw09.CodeStaysValid', WHERE WHAT IT READS IS OF BULK AT MOST 1048576: true; the input reads as it did. -/
def codeStaysValidUptoRow : OpenClaim := { program := "ytdppooflbjlbcaadoor", sum := "db7fdc8a6a5d2e29df2280fe3643a14b192205dbe007e45d5a7f79532b05142f", func := "armature/armaturelaw09.CodeStaysValid", spec := "codeStaysValid", inPlace := ["internal/bytealg.IndexByteString", "internal/bytealg.IndexString"], unfollowed := true, recurses := true, named := ["unicode/utf8.first", "unicode/utf8.acceptRanges", "internal/bytealg.MaxLen"], apart := false, laid := [("unicode/utf8.acceptRanges", laid_unicode_utf8_acceptRanges), ("unicode/utf8.first", laid_unicode_utf8_first)], narrowed := true }
def CodeStaysValidUptoSaid : Prop := codeStaysValidUptoRow.holds Tryd.pinned (OpenSpec.upto codeStaysValidSpec)

/-- 'armaturelaw09.CodeBlocksPartition', WHERE WHAT IT READS IS OF BULK AT MOST 1048576: true; the input reads as it did. -/
def codeBlocksPartitionUptoRow : OpenClaim := { program := "ytdppooflbjlbcaadoor", sum := "db7fdc8a6a5d2e29df2280fe3643a14b192205dbe007e45d5a7f79532b05142f", func := "armature/armaturelaw09.CodeBlocksPartition", spec := "codeBlocksPartition", inPlace := ["internal/bytealg.IndexByteString", "internal/bytealg.IndexString"], unfollowed := true, recurses := true, named := ["unicode/utf8.first", "unicode/utf8.acceptRanges", "internal/bytealg.MaxLen"], apart := false, laid := [("unicode/utf8.acceptRanges", laid_unicode_utf8_acceptRanges), ("unicode/utf8.first", laid_unicode_utf8_first)], narrowed := true }
def CodeBlocksPartitionUptoSaid : Prop := codeBlocksPartitionUptoRow.holds Tryd.pinned (OpenSpec.upto codeBlocksPartitionSpec)

/-- 'armaturelaw22.StackmapRequired', WHERE WHAT IT READS IS OF BULK AT MOST 1048576: true; the input reads as it did. -/
def stackmapRequiredUptoRow : OpenClaim := { program := "ytdppooflbjlbcaadoor", sum := "db7fdc8a6a5d2e29df2280fe3643a14b192205dbe007e45d5a7f79532b05142f", func := "armature/armaturelaw22.StackmapRequired", spec := "stackmapRequired", inPlace := ["internal/bytealg.IndexByteString", "internal/bytealg.IndexString"], unfollowed := true, recurses := true, named := ["unicode/utf8.first", "unicode/utf8.acceptRanges", "internal/bytealg.MaxLen"], apart := false, laid := [("unicode/utf8.acceptRanges", laid_unicode_utf8_acceptRanges), ("unicode/utf8.first", laid_unicode_utf8_first)], narrowed := true }
def StackmapRequiredUptoSaid : Prop := stackmapRequiredUptoRow.holds Tryd.pinned (OpenSpec.upto stackmapRequiredSpec)

/-- 'armaturelaw22.StackmapCheck', WHERE WHAT IT READS IS OF BULK AT MOST 1048576: true; the input reads as it did. -/
def stackmapCheckUptoRow : OpenClaim := { program := "ytdppooflbjlbcaadoor", sum := "db7fdc8a6a5d2e29df2280fe3643a14b192205dbe007e45d5a7f79532b05142f", func := "armature/armaturelaw22.StackmapCheck", spec := "stackmapCheck", inPlace := ["internal/bytealg.IndexByteString", "internal/bytealg.IndexString"], unfollowed := true, recurses := true, named := ["unicode/utf8.first", "unicode/utf8.acceptRanges", "internal/bytealg.MaxLen"], apart := false, laid := [("unicode/utf8.acceptRanges", laid_unicode_utf8_acceptRanges), ("unicode/utf8.first", laid_unicode_utf8_first)], narrowed := true }
def StackmapCheckUptoSaid : Prop := stackmapCheckUptoRow.holds Tryd.pinned (OpenSpec.upto stackmapCheckSpec)

/-- 'armaturelaw22.StackmapSelect', WHERE WHAT IT READS IS OF BULK AT MOST 1048576: true; the input reads as it did. -/
def stackmapSelectUptoRow : OpenClaim := { program := "ytdppooflbjlbcaadoor", sum := "db7fdc8a6a5d2e29df2280fe3643a14b192205dbe007e45d5a7f79532b05142f", func := "armature/armaturelaw22.StackmapSelect", spec := "stackmapSelect", inPlace := ["internal/bytealg.IndexByteString", "internal/bytealg.IndexString"], unfollowed := true, recurses := true, named := ["unicode/utf8.first", "unicode/utf8.acceptRanges", "internal/bytealg.MaxLen"], apart := false, laid := [("unicode/utf8.acceptRanges", laid_unicode_utf8_acceptRanges), ("unicode/utf8.first", laid_unicode_utf8_first)], narrowed := true }
def StackmapSelectUptoSaid : Prop := stackmapSelectUptoRow.holds Tryd.pinned (OpenSpec.upto stackmapSelectSpec)

/-- 'armaturelaw22.StackmapAttach', WHERE WHAT IT READS IS OF BULK AT MOST 1048576: true; the input reads as it did. -/
def stackmapAttachUptoRow : OpenClaim := { program := "ytdppooflbjlbcaadoor", sum := "db7fdc8a6a5d2e29df2280fe3643a14b192205dbe007e45d5a7f79532b05142f", func := "armature/armaturelaw22.StackmapAttach", spec := "stackmapAttach", inPlace := ["internal/bytealg.IndexByteString", "internal/bytealg.IndexString"], unfollowed := true, recurses := true, named := ["unicode/utf8.first", "unicode/utf8.acceptRanges", "internal/bytealg.MaxLen"], apart := false, laid := [("unicode/utf8.acceptRanges", laid_unicode_utf8_acceptRanges), ("unicode/utf8.first", laid_unicode_utf8_first)], narrowed := true }
def StackmapAttachUptoSaid : Prop := stackmapAttachUptoRow.holds Tryd.pinned (OpenSpec.upto stackmapAttachSpec)

end Rows
end Go.Proofs.YtdppooflbjlbcaaDoor
