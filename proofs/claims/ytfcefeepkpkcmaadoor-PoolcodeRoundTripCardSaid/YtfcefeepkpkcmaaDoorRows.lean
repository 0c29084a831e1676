/-
  NARROWER THAN 'FOR EVERY INPUT', by the rows' own cells (each row's printed sentence says how): PoolReadReference: laid · PoolCheckReference: laid · PoolAddReference: laid · PoolAddThenRead: laid · PoolValidReadable: laid · PoolcodeEncode: laid · PoolcodeDecode: laid · PoolcodeRoundTrip: laid · PoolcodeCanonical: laid.
  DERIVED. THE GIVEN ROWS OF THIS SEAT. 9 by the template 'for every input the law returns true; each argument reads behind the call as it read before'; 0 by the template 'total and deterministic' (their statements: YtfcefeepkpkcmaaDoorTotals.lean).
  GIVEN WITH THE SEED: the statements are not yours to turn. If you find one false, say at which input.
  Laid BY PROGRAM, IN A SANDBOX (cutbox-rows.mjs): the forced cells as the released guide's own fill.sh prints them over the translation 27d3ab59c3e4d258… (all of the seat's roots in one cut). By AI agents, Wed Nov 11 2026. No macro, syntax, notation, axiom, sorry.
-/
import Derived.Test.YtfcefeepkpkcmaaDoorChecked
import GoSem.PinnedTables
import GoSem.Claim
import GoSem.ClaimJoined
import GoSem.ClaimMapViews
import Derived.JoinedTies
import Derived.KernelRfl
namespace Go.Proofs.YtfcefeepkpkcmaaDoor
/- THE CELL 'sum', in the pinned program and in every row, IS THE sha256 OF THE DUMP (.gsa) THAT YtfcefeepkpkcmaaDoorProg.lean LOADS. Nothing in Lean hashes anything: it is a label: what it is worth is what the hold of that sum in a sandbox is worth. -/
noncomputable def Tryd.pinned : Pinned := { name := "ytfcefeepkpkcmaadoor", sum := "27d3ab59c3e4d258da3843f327a2c53e38de1ee41ad2bb5a2f88ebe5ef6747f2", checked := Tryd.checked }
namespace Rows
def none {H : Type} : Left H := { results := [], args := [] }

/- WHAT THE LISTED PACKAGE-LEVEL VARIABLES READ AS WHEN THE CALL BEGINS. Each datum BY PROGRAM (the guide's laid-datum.mjs) off the statement by which the dump's own 'gosem.cut.vars' lays the variable. In a bare row this is a premise. The card (YtfcefeepkpkcmaaDoorCards.lean) ties it to the program's text. -/
def laid_unicode_utf8_acceptRanges {H : Type} : DataW H := .agg [.agg [.lit (.int .u8 128), .lit (.int .u8 191)], .agg [.lit (.int .u8 160), .lit (.int .u8 191)], .agg [.lit (.int .u8 128), .lit (.int .u8 159)], .agg [.lit (.int .u8 144), .lit (.int .u8 191)], .agg [.lit (.int .u8 128), .lit (.int .u8 143)], .agg [.lit (.int .u8 0), .lit (.int .u8 0)], .agg [.lit (.int .u8 0), .lit (.int .u8 0)], .agg [.lit (.int .u8 0), .lit (.int .u8 0)], .agg [.lit (.int .u8 0), .lit (.int .u8 0)], .agg [.lit (.int .u8 0), .lit (.int .u8 0)], .agg [.lit (.int .u8 0), .lit (.int .u8 0)], .agg [.lit (.int .u8 0), .lit (.int .u8 0)], .agg [.lit (.int .u8 0), .lit (.int .u8 0)], .agg [.lit (.int .u8 0), .lit (.int .u8 0)], .agg [.lit (.int .u8 0), .lit (.int .u8 0)], .agg [.lit (.int .u8 0), .lit (.int .u8 0)]]
/-- One of Go's own tables, pinned by name: the form's constant. -/
def laid_unicode_utf8_first : DataW Unit := Go.Pinned.utf8First

/-- 'armaturelaw05.PoolReadReference': WHATEVER THE INPUT: true; the input reads as it did. -/
def poolReadReferenceSpec : ChangeSpec := { name := "poolReadReference", fn := fun _ => fun
  | [d1, d2, d3] => { results := [.lit (.bool true)], args := [d1, d2, d3] }
  | _ => none }
def poolReadReferenceRow : OpenClaim := { program := "ytfcefeepkpkcmaadoor", sum := "27d3ab59c3e4d258da3843f327a2c53e38de1ee41ad2bb5a2f88ebe5ef6747f2", func := "armature/armaturelaw05.PoolReadReference", spec := "poolReadReference", inPlace := ["internal/bytealg.IndexByteString", "internal/bytealg.IndexString"], unfollowed := true, recurses := true, named := ["unicode/utf8.first", "unicode/utf8.acceptRanges", "internal/bytealg.MaxLen"], apart := false, laid := [("unicode/utf8.acceptRanges", laid_unicode_utf8_acceptRanges), ("unicode/utf8.first", laid_unicode_utf8_first)] }
def PoolReadReferenceSaid : Prop := poolReadReferenceRow.holds Tryd.pinned (OpenSpec.ofChange poolReadReferenceSpec)

/-- ITS FALSE NEIGHBOUR: 'it returns false'. Refute it at one input. -/
def poolReadReferenceWrong : ChangeSpec := { name := "poolReadReference", fn := fun _ => fun
  | [d1, d2, d3] => { results := [.lit (.bool false)], args := [d1, d2, d3] }
  | _ => none }
def PoolReadReferenceWrongFalsely : Prop := poolReadReferenceRow.holds Tryd.pinned (OpenSpec.ofChange poolReadReferenceWrong)

/-- 'armaturelaw05.PoolCheckReference': WHATEVER THE INPUT: true; the input reads as it did. -/
def poolCheckReferenceSpec : ChangeSpec := { name := "poolCheckReference", fn := fun _ => fun
  | [d] => { results := [.lit (.bool true)], args := [d] }
  | _ => none }
def poolCheckReferenceRow : OpenClaim := { program := "ytfcefeepkpkcmaadoor", sum := "27d3ab59c3e4d258da3843f327a2c53e38de1ee41ad2bb5a2f88ebe5ef6747f2", func := "armature/armaturelaw05.PoolCheckReference", spec := "poolCheckReference", inPlace := ["internal/bytealg.IndexByteString", "internal/bytealg.IndexString"], unfollowed := true, recurses := true, named := ["unicode/utf8.first", "unicode/utf8.acceptRanges", "internal/bytealg.MaxLen"], apart := false, laid := [("unicode/utf8.acceptRanges", laid_unicode_utf8_acceptRanges), ("unicode/utf8.first", laid_unicode_utf8_first)] }
def PoolCheckReferenceSaid : Prop := poolCheckReferenceRow.holds Tryd.pinned (OpenSpec.ofChange poolCheckReferenceSpec)

/-- ITS FALSE NEIGHBOUR: 'it returns false'. Refute it at one input. -/
def poolCheckReferenceWrong : ChangeSpec := { name := "poolCheckReference", fn := fun _ => fun
  | [d] => { results := [.lit (.bool false)], args := [d] }
  | _ => none }
def PoolCheckReferenceWrongFalsely : Prop := poolCheckReferenceRow.holds Tryd.pinned (OpenSpec.ofChange poolCheckReferenceWrong)

/-- 'armaturelaw05.PoolAddReference': WHATEVER THE INPUT: true; the input reads as it did. -/
def poolAddReferenceSpec : ChangeSpec := { name := "poolAddReference", fn := fun _ => fun
  | [d1, d2, d3, d4, d5] => { results := [.lit (.bool true)], args := [d1, d2, d3, d4, d5] }
  | _ => none }
def poolAddReferenceRow : OpenClaim := { program := "ytfcefeepkpkcmaadoor", sum := "27d3ab59c3e4d258da3843f327a2c53e38de1ee41ad2bb5a2f88ebe5ef6747f2", func := "armature/armaturelaw05.PoolAddReference", spec := "poolAddReference", inPlace := ["internal/bytealg.IndexByteString", "internal/bytealg.IndexString"], unfollowed := true, recurses := true, named := ["unicode/utf8.first", "unicode/utf8.acceptRanges", "internal/bytealg.MaxLen"], apart := false, laid := [("unicode/utf8.acceptRanges", laid_unicode_utf8_acceptRanges), ("unicode/utf8.first", laid_unicode_utf8_first)] }
def PoolAddReferenceSaid : Prop := poolAddReferenceRow.holds Tryd.pinned (OpenSpec.ofChange poolAddReferenceSpec)

/-- ITS FALSE NEIGHBOUR: 'it returns false'. Refute it at one input. -/
def poolAddReferenceWrong : ChangeSpec := { name := "poolAddReference", fn := fun _ => fun
  | [d1, d2, d3, d4, d5] => { results := [.lit (.bool false)], args := [d1, d2, d3, d4, d5] }
  | _ => none }
def PoolAddReferenceWrongFalsely : Prop := poolAddReferenceRow.holds Tryd.pinned (OpenSpec.ofChange poolAddReferenceWrong)

/-- 'armaturelaw05.PoolAddThenRead': WHATEVER THE INPUT: true; the input reads as it did. -/
def poolAddThenReadSpec : ChangeSpec := { name := "poolAddThenRead", fn := fun _ => fun
  | [d1, d2, d3] => { results := [.lit (.bool true)], args := [d1, d2, d3] }
  | _ => none }
def poolAddThenReadRow : OpenClaim := { program := "ytfcefeepkpkcmaadoor", sum := "27d3ab59c3e4d258da3843f327a2c53e38de1ee41ad2bb5a2f88ebe5ef6747f2", func := "armature/armaturelaw05.PoolAddThenRead", spec := "poolAddThenRead", inPlace := ["internal/bytealg.IndexByteString", "internal/bytealg.IndexString"], unfollowed := true, recurses := true, named := ["unicode/utf8.first", "unicode/utf8.acceptRanges", "internal/bytealg.MaxLen"], apart := false, laid := [("unicode/utf8.acceptRanges", laid_unicode_utf8_acceptRanges), ("unicode/utf8.first", laid_unicode_utf8_first)] }
def PoolAddThenReadSaid : Prop := poolAddThenReadRow.holds Tryd.pinned (OpenSpec.ofChange poolAddThenReadSpec)

/-- ITS FALSE NEIGHBOUR: 'it returns false'. Refute it at one input. -/
def poolAddThenReadWrong : ChangeSpec := { name := "poolAddThenRead", fn := fun _ => fun
  | [d1, d2, d3] => { results := [.lit (.bool false)], args := [d1, d2, d3] }
  | _ => none }
def PoolAddThenReadWrongFalsely : Prop := poolAddThenReadRow.holds Tryd.pinned (OpenSpec.ofChange poolAddThenReadWrong)

/-- 'armaturelaw05.PoolValidReadable': WHATEVER THE INPUT: true; the input reads as it did. -/
def poolValidReadableSpec : ChangeSpec := { name := "poolValidReadable", fn := fun _ => fun
  | [d1, d2] => { results := [.lit (.bool true)], args := [d1, d2] }
  | _ => none }
def poolValidReadableRow : OpenClaim := { program := "ytfcefeepkpkcmaadoor", sum := "27d3ab59c3e4d258da3843f327a2c53e38de1ee41ad2bb5a2f88ebe5ef6747f2", func := "armature/armaturelaw05.PoolValidReadable", spec := "poolValidReadable", inPlace := ["internal/bytealg.IndexByteString", "internal/bytealg.IndexString"], unfollowed := true, recurses := true, named := ["unicode/utf8.first", "unicode/utf8.acceptRanges", "internal/bytealg.MaxLen"], apart := false, laid := [("unicode/utf8.acceptRanges", laid_unicode_utf8_acceptRanges), ("unicode/utf8.first", laid_unicode_utf8_first)] }
def PoolValidReadableSaid : Prop := poolValidReadableRow.holds Tryd.pinned (OpenSpec.ofChange poolValidReadableSpec)

/-- ITS FALSE NEIGHBOUR: 'it returns false'. Refute it at one input. -/
def poolValidReadableWrong : ChangeSpec := { name := "poolValidReadable", fn := fun _ => fun
  | [d1, d2] => { results := [.lit (.bool false)], args := [d1, d2] }
  | _ => none }
def PoolValidReadableWrongFalsely : Prop := poolValidReadableRow.holds Tryd.pinned (OpenSpec.ofChange poolValidReadableWrong)

/-- 'armaturelaw06.PoolcodeEncode': WHATEVER THE INPUT: true; the input reads as it did. -/
def poolcodeEncodeSpec : ChangeSpec := { name := "poolcodeEncode", fn := fun _ => fun
  | [d] => { results := [.lit (.bool true)], args := [d] }
  | _ => none }
def poolcodeEncodeRow : OpenClaim := { program := "ytfcefeepkpkcmaadoor", sum := "27d3ab59c3e4d258da3843f327a2c53e38de1ee41ad2bb5a2f88ebe5ef6747f2", func := "armature/armaturelaw06.PoolcodeEncode", spec := "poolcodeEncode", inPlace := ["internal/bytealg.IndexByteString", "internal/bytealg.IndexString", "internal/abi.NoEscape"], unfollowed := true, recurses := true, named := ["unicode/utf8.first", "unicode/utf8.acceptRanges", "internal/bytealg.MaxLen"], apart := false, laid := [("unicode/utf8.acceptRanges", laid_unicode_utf8_acceptRanges), ("unicode/utf8.first", laid_unicode_utf8_first)] }
def PoolcodeEncodeSaid : Prop := poolcodeEncodeRow.holds Tryd.pinned (OpenSpec.ofChange poolcodeEncodeSpec)

/-- ITS FALSE NEIGHBOUR: 'it returns false'. Refute it at one input. -/
def poolcodeEncodeWrong : ChangeSpec := { name := "poolcodeEncode", fn := fun _ => fun
  | [d] => { results := [.lit (.bool false)], args := [d] }
  | _ => none }
def PoolcodeEncodeWrongFalsely : Prop := poolcodeEncodeRow.holds Tryd.pinned (OpenSpec.ofChange poolcodeEncodeWrong)

/-- 'armaturelaw06.PoolcodeDecode': WHATEVER THE INPUT: true; the input reads as it did. -/
def poolcodeDecodeSpec : ChangeSpec := { name := "poolcodeDecode", fn := fun _ => fun
  | [d1, d2] => { results := [.lit (.bool true)], args := [d1, d2] }
  | _ => none }
def poolcodeDecodeRow : OpenClaim := { program := "ytfcefeepkpkcmaadoor", sum := "27d3ab59c3e4d258da3843f327a2c53e38de1ee41ad2bb5a2f88ebe5ef6747f2", func := "armature/armaturelaw06.PoolcodeDecode", spec := "poolcodeDecode", inPlace := ["internal/bytealg.IndexByteString", "internal/bytealg.IndexString", "internal/abi.NoEscape"], unfollowed := true, recurses := true, named := ["unicode/utf8.first", "unicode/utf8.acceptRanges", "internal/bytealg.MaxLen"], apart := false, laid := [("unicode/utf8.acceptRanges", laid_unicode_utf8_acceptRanges), ("unicode/utf8.first", laid_unicode_utf8_first)] }
def PoolcodeDecodeSaid : Prop := poolcodeDecodeRow.holds Tryd.pinned (OpenSpec.ofChange poolcodeDecodeSpec)

/-- ITS FALSE NEIGHBOUR: 'it returns false'. Refute it at one input. -/
def poolcodeDecodeWrong : ChangeSpec := { name := "poolcodeDecode", fn := fun _ => fun
  | [d1, d2] => { results := [.lit (.bool false)], args := [d1, d2] }
  | _ => none }
def PoolcodeDecodeWrongFalsely : Prop := poolcodeDecodeRow.holds Tryd.pinned (OpenSpec.ofChange poolcodeDecodeWrong)

/-- 'armaturelaw06.PoolcodeRoundTrip': WHATEVER THE INPUT: true; the input reads as it did. -/
def poolcodeRoundTripSpec : ChangeSpec := { name := "poolcodeRoundTrip", fn := fun _ => fun
  | [d1, d2, d3, d4] => { results := [.lit (.bool true)], args := [d1, d2, d3, d4] }
  | _ => none }
def poolcodeRoundTripRow : OpenClaim := { program := "ytfcefeepkpkcmaadoor", sum := "27d3ab59c3e4d258da3843f327a2c53e38de1ee41ad2bb5a2f88ebe5ef6747f2", func := "armature/armaturelaw06.PoolcodeRoundTrip", spec := "poolcodeRoundTrip", inPlace := ["internal/bytealg.IndexByteString", "internal/bytealg.IndexString", "internal/abi.NoEscape"], unfollowed := true, recurses := true, named := ["unicode/utf8.first", "unicode/utf8.acceptRanges", "internal/bytealg.MaxLen"], apart := false, laid := [("unicode/utf8.acceptRanges", laid_unicode_utf8_acceptRanges), ("unicode/utf8.first", laid_unicode_utf8_first)] }
def PoolcodeRoundTripSaid : Prop := poolcodeRoundTripRow.holds Tryd.pinned (OpenSpec.ofChange poolcodeRoundTripSpec)

/-- ITS FALSE NEIGHBOUR: 'it returns false'. Refute it at one input. -/
def poolcodeRoundTripWrong : ChangeSpec := { name := "poolcodeRoundTrip", fn := fun _ => fun
  | [d1, d2, d3, d4] => { results := [.lit (.bool false)], args := [d1, d2, d3, d4] }
  | _ => none }
def PoolcodeRoundTripWrongFalsely : Prop := poolcodeRoundTripRow.holds Tryd.pinned (OpenSpec.ofChange poolcodeRoundTripWrong)

/-- 'armaturelaw06.PoolcodeCanonical': WHATEVER THE INPUT: true; the input reads as it did. -/
def poolcodeCanonicalSpec : ChangeSpec := { name := "poolcodeCanonical", fn := fun _ => fun
  | [d1, d2] => { results := [.lit (.bool true)], args := [d1, d2] }
  | _ => none }
def poolcodeCanonicalRow : OpenClaim := { program := "ytfcefeepkpkcmaadoor", sum := "27d3ab59c3e4d258da3843f327a2c53e38de1ee41ad2bb5a2f88ebe5ef6747f2", func := "armature/armaturelaw06.PoolcodeCanonical", spec := "poolcodeCanonical", inPlace := ["internal/bytealg.IndexByteString", "internal/bytealg.IndexString", "internal/abi.NoEscape"], unfollowed := true, recurses := true, named := ["unicode/utf8.first", "unicode/utf8.acceptRanges", "internal/bytealg.MaxLen"], apart := false, laid := [("unicode/utf8.acceptRanges", laid_unicode_utf8_acceptRanges), ("unicode/utf8.first", laid_unicode_utf8_first)] }
def PoolcodeCanonicalSaid : Prop := poolcodeCanonicalRow.holds Tryd.pinned (OpenSpec.ofChange poolcodeCanonicalSpec)

/-- ITS FALSE NEIGHBOUR: 'it returns false'. Refute it at one input. -/
def poolcodeCanonicalWrong : ChangeSpec := { name := "poolcodeCanonical", fn := fun _ => fun
  | [d1, d2] => { results := [.lit (.bool false)], args := [d1, d2] }
  | _ => none }
def PoolcodeCanonicalWrongFalsely : Prop := poolcodeCanonicalRow.holds Tryd.pinned (OpenSpec.ofChange poolcodeCanonicalWrong)

/- THE SECOND FORM. 'bulk': how many values and letters a reading holds, each counted each time it is reached (what is shared counts as often as it is met; a slice's spare places count too). A statement '..UptoSaid' is the law's where the arguments, and the package variables that the reading takes, are together of bulk at most 1048576: NARROWER than '..Said'. Prove '..Said' where nothing that the law and all that it calls make is longer than what came in: it says more and counts as full. Else prove '..UptoSaid'. A law counts once. -/
mutual
def uptoBulk {H : Type} : DataW H → Nat
  | .lit (.string bytes) => bytes.length + 1
  | .lit _ => 1
  | .nil => 1
  | .ptr d => uptoBulk d + 1
  | .slice elems spare => uptoBulkAll elems + uptoBulkAll spare + 1
  | .agg parts => uptoBulkAll parts + 1
  | .iface _ d => uptoBulk d + 1
  | .map entries => uptoBulkEntries entries + 1
  | .held _ => 1
def uptoBulkAll {H : Type} : List (DataW H) → Nat
  | [] => 0
  | d :: r => uptoBulk d + uptoBulkAll r
def uptoBulkEntries {H : Type} : List (Lit × DataW H) → Nat
  | [] => 0
  | x :: r => uptoBulkEntry x + uptoBulkEntries r
def uptoBulkEntry {H : Type} : Lit × DataW H → Nat
  | (.string bytes, d) => bytes.length + uptoBulk d + 1
  | (_, d) => uptoBulk d + 1
 end
def uptoSmall : (H : Type) → List (DataW H) → Bool := fun _ ds => decide (uptoBulkAll ds ≤ 1048576)
def OpenSpec.upto (s : _root_.Go.ChangeSpec) : _root_.Go.OpenSpec := { _root_.Go.OpenSpec.ofChange s with cond := some uptoSmall }

/-- 'armaturelaw05.PoolReadReference', WHERE WHAT IT READS IS OF BULK AT MOST 1048576: true; the input reads as it did. -/
def poolReadReferenceUptoRow : OpenClaim := { program := "ytfcefeepkpkcmaadoor", sum := "27d3ab59c3e4d258da3843f327a2c53e38de1ee41ad2bb5a2f88ebe5ef6747f2", func := "armature/armaturelaw05.PoolReadReference", spec := "poolReadReference", inPlace := ["internal/bytealg.IndexByteString", "internal/bytealg.IndexString"], unfollowed := true, recurses := true, named := ["unicode/utf8.first", "unicode/utf8.acceptRanges", "internal/bytealg.MaxLen"], apart := false, laid := [("unicode/utf8.acceptRanges", laid_unicode_utf8_acceptRanges), ("unicode/utf8.first", laid_unicode_utf8_first)], narrowed := true }
def PoolReadReferenceUptoSaid : Prop := poolReadReferenceUptoRow.holds Tryd.pinned (OpenSpec.upto poolReadReferenceSpec)

/-- 'armaturelaw05.PoolCheckReference', WHERE WHAT IT READS IS OF BULK AT MOST 1048576: true; the input reads as it did. -/
def poolCheckReferenceUptoRow : OpenClaim := { program := "ytfcefeepkpkcmaadoor", sum := "27d3ab59c3e4d258da3843f327a2c53e38de1ee41ad2bb5a2f88ebe5ef6747f2", func := "armature/armaturelaw05.PoolCheckReference", spec := "poolCheckReference", inPlace := ["internal/bytealg.IndexByteString", "internal/bytealg.IndexString"], unfollowed := true, recurses := true, named := ["unicode/utf8.first", "unicode/utf8.acceptRanges", "internal/bytealg.MaxLen"], apart := false, laid := [("unicode/utf8.acceptRanges", laid_unicode_utf8_acceptRanges), ("unicode/utf8.first", laid_unicode_utf8_first)], narrowed := true }
def PoolCheckReferenceUptoSaid : Prop := poolCheckReferenceUptoRow.holds Tryd.pinned (OpenSpec.upto poolCheckReferenceSpec)

/-- 'armaturelaw05.PoolAddReference', WHERE WHAT IT READS IS OF BULK AT MOST 1048576: true; the input reads as it did. -/
def poolAddReferenceUptoRow : OpenClaim := { program := "ytfcefeepkpkcmaadoor", sum := "27d3ab59c3e4d258da3843f327a2c53e38de1ee41ad2bb5a2f88ebe5ef6747f2", func := "armature/armaturelaw05.PoolAddReference", spec := "poolAddReference", inPlace := ["internal/bytealg.IndexByteString", "internal/bytealg.IndexString"], unfollowed := true, recurses := true, named := ["unicode/utf8.first", "unicode/utf8.acceptRanges", "internal/bytealg.MaxLen"], apart := false, laid := [("unicode/utf8.acceptRanges", laid_unicode_utf8_acceptRanges), ("unicode/utf8.first", laid_unicode_utf8_first)], narrowed := true }
def PoolAddReferenceUptoSaid : Prop := poolAddReferenceUptoRow.holds Tryd.pinned (OpenSpec.upto poolAddReferenceSpec)

/-- 'armaturelaw05.PoolAddThenRead', WHERE WHAT IT READS IS OF BULK AT MOST 1048576: true; the input reads as it did. -/
def poolAddThenReadUptoRow : OpenClaim := { program := "ytfcefeepkpkcmaadoor", sum := "27d3ab59c3e4d258da3843f327a2c53e38de1ee41ad2bb5a2f88ebe5ef6747f2", func := "armature/armaturelaw05.PoolAddThenRead", spec := "poolAddThenRead", inPlace := ["internal/bytealg.IndexByteString", "internal/bytealg.IndexString"], unfollowed := true, recurses := true, named := ["unicode/utf8.first", "unicode/utf8.acceptRanges", "internal/bytealg.MaxLen"], apart := false, laid := [("unicode/utf8.acceptRanges", laid_unicode_utf8_acceptRanges), ("unicode/utf8.first", laid_unicode_utf8_first)], narrowed := true }
def PoolAddThenReadUptoSaid : Prop := poolAddThenReadUptoRow.holds Tryd.pinned (OpenSpec.upto poolAddThenReadSpec)

/-- 'armaturelaw05.PoolValidReadable', WHERE WHAT IT READS IS OF BULK AT MOST 1048576: true; the input reads as it did. -/
def poolValidReadableUptoRow : OpenClaim := { program := "ytfcefeepkpkcmaadoor", sum := "27d3ab59c3e4d258da3843f327a2c53e38de1ee41ad2bb5a2f88ebe5ef6747f2", func := "armature/armaturelaw05.PoolValidReadable", spec := "poolValidReadable", inPlace := ["internal/bytealg.IndexByteString", "internal/bytealg.IndexString"], unfollowed := true, recurses := true, named := ["unicode/utf8.first", "unicode/utf8.acceptRanges", "internal/bytealg.MaxLen"], apart := false, laid := [("unicode/utf8.acceptRanges", laid_unicode_utf8_acceptRanges), ("unicode/utf8.first", laid_unicode_utf8_first)], narrowed := true }
def PoolValidReadableUptoSaid : Prop := poolValidReadableUptoRow.holds Tryd.pinned (OpenSpec.upto poolValidReadableSpec)

/-- 'armaturelaw06.PoolcodeEncode', WHERE WHAT IT READS IS OF BULK AT MOST 1048576: true; the input reads as it did. -/
def poolcodeEncodeUptoRow : OpenClaim := { program := "ytfcefeepkpkcmaadoor", sum := "27d3ab59c3e4d258da3843f327a2c53e38de1ee41ad2bb5a2f88ebe5ef6747f2", func := "armature/armaturelaw06.PoolcodeEncode", spec := "poolcodeEncode", inPlace := ["internal/bytealg.IndexByteString", "internal/bytealg.IndexString", "internal/abi.NoEscape"], unfollowed := true, recurses := true, named := ["unicode/utf8.first", "unicode/utf8.acceptRanges", "internal/bytealg.MaxLen"], apart := false, laid := [("unicode/utf8.acceptRanges", laid_unicode_utf8_acceptRanges), ("unicode/utf8.first", laid_unicode_utf8_first)], narrowed := true }
def PoolcodeEncodeUptoSaid : Prop := poolcodeEncodeUptoRow.holds Tryd.pinned (OpenSpec.upto poolcodeEncodeSpec)

/-- 'armaturelaw06.PoolcodeDecode', WHERE WHAT IT READS IS OF BULK AT MOST 1048576: true; the input reads as it did. -/
def poolcodeDecodeUptoRow : OpenClaim := { program := "ytfcefeepkpkcmaadoor", sum := "27d3ab59c3e4d258da3843f327a2c53e38de1ee41ad2bb5a2f88ebe5ef6747f2", func := "armature/armaturelaw06.PoolcodeDecode", spec := "poolcodeDecode", inPlace := ["internal/bytealg.IndexByteString", "internal/bytealg.IndexString", "internal/abi.NoEscape"], unfollowed := true, recurses := true, named := ["unicode/utf8.first", "unicode/utf8.acceptRanges", "internal/bytealg.MaxLen"], apart := false, laid := [("unicode/utf8.acceptRanges", laid_unicode_utf8_acceptRanges), ("unicode/utf8.first", laid_unicode_utf8_first)], narrowed := true }
def PoolcodeDecodeUptoSaid : Prop := poolcodeDecodeUptoRow.holds Tryd.pinned (OpenSpec.upto poolcodeDecodeSpec)

/-- 'armaturelaw06.PoolcodeRoundTrip', WHERE WHAT IT READS IS OF BULK AT MOST 1048576: true; the input reads as it did. -/
def poolcodeRoundTripUptoRow : OpenClaim := { program := "ytfcefeepkpkcmaadoor", sum := "27d3ab59c3e4d258da3843f327a2c53e38de1ee41ad2bb5a2f88ebe5ef6747f2", func := "armature/armaturelaw06.PoolcodeRoundTrip", spec := "poolcodeRoundTrip", inPlace := ["internal/bytealg.IndexByteString", "internal/bytealg.IndexString", "internal/abi.NoEscape"], unfollowed := true, recurses := true, named := ["unicode/utf8.first", "unicode/utf8.acceptRanges", "internal/bytealg.MaxLen"], apart := false, laid := [("unicode/utf8.acceptRanges", laid_unicode_utf8_acceptRanges), ("unicode/utf8.first", laid_unicode_utf8_first)], narrowed := true }
def PoolcodeRoundTripUptoSaid : Prop := poolcodeRoundTripUptoRow.holds Tryd.pinned (OpenSpec.upto poolcodeRoundTripSpec)

/-- 'armaturelaw06.PoolcodeCanonical', WHERE WHAT IT READS IS OF BULK AT MOST 1048576: true; the input reads as it did. -/
def poolcodeCanonicalUptoRow : OpenClaim := { program := "ytfcefeepkpkcmaadoor", sum := "27d3ab59c3e4d258da3843f327a2c53e38de1ee41ad2bb5a2f88ebe5ef6747f2", func := "armature/armaturelaw06.PoolcodeCanonical", spec := "poolcodeCanonical", inPlace := ["internal/bytealg.IndexByteString", "internal/bytealg.IndexString", "internal/abi.NoEscape"], unfollowed := true, recurses := true, named := ["unicode/utf8.first", "unicode/utf8.acceptRanges", "internal/bytealg.MaxLen"], apart := false, laid := [("unicode/utf8.acceptRanges", laid_unicode_utf8_acceptRanges), ("unicode/utf8.first", laid_unicode_utf8_first)], narrowed := true }
def PoolcodeCanonicalUptoSaid : Prop := poolcodeCanonicalUptoRow.holds Tryd.pinned (OpenSpec.upto poolcodeCanonicalSpec)

end Rows
end Go.Proofs.YtfcefeepkpkcmaaDoor
