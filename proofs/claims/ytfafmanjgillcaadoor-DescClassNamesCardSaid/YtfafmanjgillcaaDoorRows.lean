/-
  NARROWER THAN 'FOR EVERY INPUT', by the rows' own cells (each row's printed sentence says how): NameValidity: laid · NameJoin: laid · NameParts: laid · NamePrefix: laid · DescReference: laid · DescParse: laid · DescFormatSignature: laid · DescParseSignature: laid · DescClassNames: laid · DescRoundTrip: laid · DescCanonical: laid.
  DERIVED. THE GIVEN ROWS OF THIS SEAT. 11 by the template 'for every input the law returns true; each argument reads behind the call as it read before'; 0 by the template 'total and deterministic' (their statements: YtfafmanjgillcaaDoorTotals.lean).
  GIVEN WITH THE SEED: the statements are not yours to turn. If you find one false, say at which input.
  Laid BY PROGRAM, IN A SANDBOX (cutbox-rows.mjs): the forced cells as the released guide's own fill.sh prints them over the translation dd1c8e5e62aa1160… (all of the seat's roots in one cut). By AI agents, Wed Nov 11 2026. No macro, syntax, notation, axiom, sorry.
-/
import Derived.Test.YtfafmanjgillcaaDoorChecked
import GoSem.PinnedTables
import GoSem.Claim
import GoSem.ClaimJoined
import GoSem.ClaimMapViews
import Derived.JoinedTies
import Derived.KernelRfl
namespace Go.Proofs.YtfafmanjgillcaaDoor
/- THE CELL 'sum', in the pinned program and in every row, IS THE sha256 OF THE DUMP (.gsa) THAT YtfafmanjgillcaaDoorProg.lean LOADS. Nothing in Lean hashes anything: it is a label: what it is worth is what the hold of that sum in a sandbox is worth. -/
noncomputable def Tryd.pinned : Pinned := { name := "ytfafmanjgillcaadoor", sum := "dd1c8e5e62aa116011ed51f68df49d6715d8b999fc1f022ac29c23b624d0ba80", checked := Tryd.checked }
namespace Rows
def none {H : Type} : Left H := { results := [], args := [] }

/- WHAT THE LISTED PACKAGE-LEVEL VARIABLES READ AS WHEN THE CALL BEGINS. Each datum BY PROGRAM (the guide's laid-datum.mjs) off the statement by which the dump's own 'gosem.cut.vars' lays the variable. In a bare row this is a premise. The card (YtfafmanjgillcaaDoorCards.lean) ties it to the program's text. -/
def laid_unicode_utf8_acceptRanges {H : Type} : DataW H := .agg [.agg [.lit (.int .u8 128), .lit (.int .u8 191)], .agg [.lit (.int .u8 160), .lit (.int .u8 191)], .agg [.lit (.int .u8 128), .lit (.int .u8 159)], .agg [.lit (.int .u8 144), .lit (.int .u8 191)], .agg [.lit (.int .u8 128), .lit (.int .u8 143)], .agg [.lit (.int .u8 0), .lit (.int .u8 0)], .agg [.lit (.int .u8 0), .lit (.int .u8 0)], .agg [.lit (.int .u8 0), .lit (.int .u8 0)], .agg [.lit (.int .u8 0), .lit (.int .u8 0)], .agg [.lit (.int .u8 0), .lit (.int .u8 0)], .agg [.lit (.int .u8 0), .lit (.int .u8 0)], .agg [.lit (.int .u8 0), .lit (.int .u8 0)], .agg [.lit (.int .u8 0), .lit (.int .u8 0)], .agg [.lit (.int .u8 0), .lit (.int .u8 0)], .agg [.lit (.int .u8 0), .lit (.int .u8 0)], .agg [.lit (.int .u8 0), .lit (.int .u8 0)]]
/-- One of Go's own tables, pinned by name: the form's constant. -/
def laid_unicode_utf8_first : DataW Unit := Go.Pinned.utf8First

/-- 'armaturelaw03.NameValidity': WHATEVER THE INPUT: true; the input reads as it did. -/
def nameValiditySpec : ChangeSpec := { name := "nameValidity", fn := fun _ => fun
  | [d1, d2] => { results := [.lit (.bool true)], args := [d1, d2] }
  | _ => none }
def nameValidityRow : OpenClaim := { program := "ytfafmanjgillcaadoor", sum := "dd1c8e5e62aa116011ed51f68df49d6715d8b999fc1f022ac29c23b624d0ba80", func := "armature/armaturelaw03.NameValidity", spec := "nameValidity", inPlace := ["internal/bytealg.IndexByteString", "internal/bytealg.IndexString"], unfollowed := true, recurses := true, named := ["unicode/utf8.first", "unicode/utf8.acceptRanges", "internal/bytealg.MaxLen"], apart := false, laid := [("unicode/utf8.acceptRanges", laid_unicode_utf8_acceptRanges), ("unicode/utf8.first", laid_unicode_utf8_first)] }
def NameValiditySaid : Prop := nameValidityRow.holds Tryd.pinned (OpenSpec.ofChange nameValiditySpec)

/-- ITS FALSE NEIGHBOUR: 'it returns false'. Refute it at one input. -/
def nameValidityWrong : ChangeSpec := { name := "nameValidity", fn := fun _ => fun
  | [d1, d2] => { results := [.lit (.bool false)], args := [d1, d2] }
  | _ => none }
def NameValidityWrongFalsely : Prop := nameValidityRow.holds Tryd.pinned (OpenSpec.ofChange nameValidityWrong)

/-- 'armaturelaw03.NameJoin': WHATEVER THE INPUT: true; the input reads as it did. -/
def nameJoinSpec : ChangeSpec := { name := "nameJoin", fn := fun _ => fun
  | [d] => { results := [.lit (.bool true)], args := [d] }
  | _ => none }
def nameJoinRow : OpenClaim := { program := "ytfafmanjgillcaadoor", sum := "dd1c8e5e62aa116011ed51f68df49d6715d8b999fc1f022ac29c23b624d0ba80", func := "armature/armaturelaw03.NameJoin", spec := "nameJoin", inPlace := ["internal/bytealg.IndexByteString", "internal/bytealg.IndexString"], unfollowed := true, recurses := true, named := ["unicode/utf8.first", "unicode/utf8.acceptRanges", "internal/bytealg.MaxLen"], apart := false, laid := [("unicode/utf8.acceptRanges", laid_unicode_utf8_acceptRanges), ("unicode/utf8.first", laid_unicode_utf8_first)] }
def NameJoinSaid : Prop := nameJoinRow.holds Tryd.pinned (OpenSpec.ofChange nameJoinSpec)

/-- ITS FALSE NEIGHBOUR: 'it returns false'. Refute it at one input. -/
def nameJoinWrong : ChangeSpec := { name := "nameJoin", fn := fun _ => fun
  | [d] => { results := [.lit (.bool false)], args := [d] }
  | _ => none }
def NameJoinWrongFalsely : Prop := nameJoinRow.holds Tryd.pinned (OpenSpec.ofChange nameJoinWrong)

/-- 'armaturelaw03.NameParts': WHATEVER THE INPUT: true; the input reads as it did. -/
def namePartsSpec : ChangeSpec := { name := "nameParts", fn := fun _ => fun
  | [d1, d2, d3] => { results := [.lit (.bool true)], args := [d1, d2, d3] }
  | _ => none }
def namePartsRow : OpenClaim := { program := "ytfafmanjgillcaadoor", sum := "dd1c8e5e62aa116011ed51f68df49d6715d8b999fc1f022ac29c23b624d0ba80", func := "armature/armaturelaw03.NameParts", spec := "nameParts", inPlace := ["internal/bytealg.IndexByteString", "internal/bytealg.IndexString"], unfollowed := true, recurses := true, named := ["unicode/utf8.first", "unicode/utf8.acceptRanges", "internal/bytealg.MaxLen"], apart := false, laid := [("unicode/utf8.acceptRanges", laid_unicode_utf8_acceptRanges), ("unicode/utf8.first", laid_unicode_utf8_first)] }
def NamePartsSaid : Prop := namePartsRow.holds Tryd.pinned (OpenSpec.ofChange namePartsSpec)

/-- ITS FALSE NEIGHBOUR: 'it returns false'. Refute it at one input. -/
def namePartsWrong : ChangeSpec := { name := "nameParts", fn := fun _ => fun
  | [d1, d2, d3] => { results := [.lit (.bool false)], args := [d1, d2, d3] }
  | _ => none }
def NamePartsWrongFalsely : Prop := namePartsRow.holds Tryd.pinned (OpenSpec.ofChange namePartsWrong)

/-- 'armaturelaw03.NamePrefix': WHATEVER THE INPUT: true; the input reads as it did. -/
def namePrefixSpec : ChangeSpec := { name := "namePrefix", fn := fun _ => fun
  | [d1, d2, d3] => { results := [.lit (.bool true)], args := [d1, d2, d3] }
  | _ => none }
def namePrefixRow : OpenClaim := { program := "ytfafmanjgillcaadoor", sum := "dd1c8e5e62aa116011ed51f68df49d6715d8b999fc1f022ac29c23b624d0ba80", func := "armature/armaturelaw03.NamePrefix", spec := "namePrefix", inPlace := ["internal/bytealg.IndexByteString", "internal/bytealg.IndexString"], unfollowed := true, recurses := true, named := ["unicode/utf8.first", "unicode/utf8.acceptRanges", "internal/bytealg.MaxLen"], apart := false, laid := [("unicode/utf8.acceptRanges", laid_unicode_utf8_acceptRanges), ("unicode/utf8.first", laid_unicode_utf8_first)] }
def NamePrefixSaid : Prop := namePrefixRow.holds Tryd.pinned (OpenSpec.ofChange namePrefixSpec)

/-- ITS FALSE NEIGHBOUR: 'it returns false'. Refute it at one input. -/
def namePrefixWrong : ChangeSpec := { name := "namePrefix", fn := fun _ => fun
  | [d1, d2, d3] => { results := [.lit (.bool false)], args := [d1, d2, d3] }
  | _ => none }
def NamePrefixWrongFalsely : Prop := namePrefixRow.holds Tryd.pinned (OpenSpec.ofChange namePrefixWrong)

/-- 'armaturelaw04.DescReference': WHATEVER THE INPUT: true; the input reads as it did. -/
def descReferenceSpec : ChangeSpec := { name := "descReference", fn := fun _ => fun
  | [d] => { results := [.lit (.bool true)], args := [d] }
  | _ => none }
def descReferenceRow : OpenClaim := { program := "ytfafmanjgillcaadoor", sum := "dd1c8e5e62aa116011ed51f68df49d6715d8b999fc1f022ac29c23b624d0ba80", func := "armature/armaturelaw04.DescReference", spec := "descReference", inPlace := ["internal/bytealg.IndexByteString", "internal/bytealg.IndexString", "internal/abi.NoEscape", "internal/bytealg.MakeNoZero"], unfollowed := true, recurses := true, named := ["unicode/utf8.first", "unicode/utf8.acceptRanges", "internal/bytealg.MaxLen"], apart := false, laid := [("unicode/utf8.acceptRanges", laid_unicode_utf8_acceptRanges), ("unicode/utf8.first", laid_unicode_utf8_first)] }
def DescReferenceSaid : Prop := descReferenceRow.holds Tryd.pinned (OpenSpec.ofChange descReferenceSpec)

/-- ITS FALSE NEIGHBOUR: 'it returns false'. Refute it at one input. -/
def descReferenceWrong : ChangeSpec := { name := "descReference", fn := fun _ => fun
  | [d] => { results := [.lit (.bool false)], args := [d] }
  | _ => none }
def DescReferenceWrongFalsely : Prop := descReferenceRow.holds Tryd.pinned (OpenSpec.ofChange descReferenceWrong)

/-- 'armaturelaw04.DescParse': WHATEVER THE INPUT: true; the input reads as it did. -/
def descParseSpec : ChangeSpec := { name := "descParse", fn := fun _ => fun
  | [d] => { results := [.lit (.bool true)], args := [d] }
  | _ => none }
def descParseRow : OpenClaim := { program := "ytfafmanjgillcaadoor", sum := "dd1c8e5e62aa116011ed51f68df49d6715d8b999fc1f022ac29c23b624d0ba80", func := "armature/armaturelaw04.DescParse", spec := "descParse", inPlace := ["internal/bytealg.IndexByteString", "internal/bytealg.IndexString", "internal/abi.NoEscape", "internal/bytealg.MakeNoZero"], unfollowed := true, recurses := true, named := ["unicode/utf8.first", "unicode/utf8.acceptRanges", "internal/bytealg.MaxLen"], apart := false, laid := [("unicode/utf8.acceptRanges", laid_unicode_utf8_acceptRanges), ("unicode/utf8.first", laid_unicode_utf8_first)] }
def DescParseSaid : Prop := descParseRow.holds Tryd.pinned (OpenSpec.ofChange descParseSpec)

/-- ITS FALSE NEIGHBOUR: 'it returns false'. Refute it at one input. -/
def descParseWrong : ChangeSpec := { name := "descParse", fn := fun _ => fun
  | [d] => { results := [.lit (.bool false)], args := [d] }
  | _ => none }
def DescParseWrongFalsely : Prop := descParseRow.holds Tryd.pinned (OpenSpec.ofChange descParseWrong)

/-- 'armaturelaw04.DescFormatSignature': WHATEVER THE INPUT: true; the input reads as it did. -/
def descFormatSignatureSpec : ChangeSpec := { name := "descFormatSignature", fn := fun _ => fun
  | [d] => { results := [.lit (.bool true)], args := [d] }
  | _ => none }
def descFormatSignatureRow : OpenClaim := { program := "ytfafmanjgillcaadoor", sum := "dd1c8e5e62aa116011ed51f68df49d6715d8b999fc1f022ac29c23b624d0ba80", func := "armature/armaturelaw04.DescFormatSignature", spec := "descFormatSignature", inPlace := ["internal/bytealg.IndexByteString", "internal/bytealg.IndexString", "internal/abi.NoEscape", "internal/bytealg.MakeNoZero"], unfollowed := true, recurses := true, named := ["unicode/utf8.first", "unicode/utf8.acceptRanges", "internal/bytealg.MaxLen"], apart := false, laid := [("unicode/utf8.acceptRanges", laid_unicode_utf8_acceptRanges), ("unicode/utf8.first", laid_unicode_utf8_first)] }
def DescFormatSignatureSaid : Prop := descFormatSignatureRow.holds Tryd.pinned (OpenSpec.ofChange descFormatSignatureSpec)

/-- ITS FALSE NEIGHBOUR: 'it returns false'. Refute it at one input. -/
def descFormatSignatureWrong : ChangeSpec := { name := "descFormatSignature", fn := fun _ => fun
  | [d] => { results := [.lit (.bool false)], args := [d] }
  | _ => none }
def DescFormatSignatureWrongFalsely : Prop := descFormatSignatureRow.holds Tryd.pinned (OpenSpec.ofChange descFormatSignatureWrong)

/-- 'armaturelaw04.DescParseSignature': WHATEVER THE INPUT: true; the input reads as it did. -/
def descParseSignatureSpec : ChangeSpec := { name := "descParseSignature", fn := fun _ => fun
  | [d] => { results := [.lit (.bool true)], args := [d] }
  | _ => none }
def descParseSignatureRow : OpenClaim := { program := "ytfafmanjgillcaadoor", sum := "dd1c8e5e62aa116011ed51f68df49d6715d8b999fc1f022ac29c23b624d0ba80", func := "armature/armaturelaw04.DescParseSignature", spec := "descParseSignature", inPlace := ["internal/bytealg.IndexByteString", "internal/bytealg.IndexString", "internal/abi.NoEscape", "internal/bytealg.MakeNoZero"], unfollowed := true, recurses := true, named := ["unicode/utf8.first", "unicode/utf8.acceptRanges", "internal/bytealg.MaxLen"], apart := false, laid := [("unicode/utf8.acceptRanges", laid_unicode_utf8_acceptRanges), ("unicode/utf8.first", laid_unicode_utf8_first)] }
def DescParseSignatureSaid : Prop := descParseSignatureRow.holds Tryd.pinned (OpenSpec.ofChange descParseSignatureSpec)

/-- ITS FALSE NEIGHBOUR: 'it returns false'. Refute it at one input. -/
def descParseSignatureWrong : ChangeSpec := { name := "descParseSignature", fn := fun _ => fun
  | [d] => { results := [.lit (.bool false)], args := [d] }
  | _ => none }
def DescParseSignatureWrongFalsely : Prop := descParseSignatureRow.holds Tryd.pinned (OpenSpec.ofChange descParseSignatureWrong)

/-- 'armaturelaw04.DescClassNames': WHATEVER THE INPUT: true; the input reads as it did. -/
def descClassNamesSpec : ChangeSpec := { name := "descClassNames", fn := fun _ => fun
  | [d] => { results := [.lit (.bool true)], args := [d] }
  | _ => none }
def descClassNamesRow : OpenClaim := { program := "ytfafmanjgillcaadoor", sum := "dd1c8e5e62aa116011ed51f68df49d6715d8b999fc1f022ac29c23b624d0ba80", func := "armature/armaturelaw04.DescClassNames", spec := "descClassNames", inPlace := ["internal/bytealg.IndexByteString", "internal/bytealg.IndexString", "internal/abi.NoEscape", "internal/bytealg.MakeNoZero"], unfollowed := true, recurses := true, named := ["unicode/utf8.first", "unicode/utf8.acceptRanges", "internal/bytealg.MaxLen"], apart := false, laid := [("unicode/utf8.acceptRanges", laid_unicode_utf8_acceptRanges), ("unicode/utf8.first", laid_unicode_utf8_first)] }
def DescClassNamesSaid : Prop := descClassNamesRow.holds Tryd.pinned (OpenSpec.ofChange descClassNamesSpec)

/-- ITS FALSE NEIGHBOUR: 'it returns false'. Refute it at one input. -/
def descClassNamesWrong : ChangeSpec := { name := "descClassNames", fn := fun _ => fun
  | [d] => { results := [.lit (.bool false)], args := [d] }
  | _ => none }
def DescClassNamesWrongFalsely : Prop := descClassNamesRow.holds Tryd.pinned (OpenSpec.ofChange descClassNamesWrong)

/-- 'armaturelaw04.DescRoundTrip': WHATEVER THE INPUT: true; the input reads as it did. -/
def descRoundTripSpec : ChangeSpec := { name := "descRoundTrip", fn := fun _ => fun
  | [d] => { results := [.lit (.bool true)], args := [d] }
  | _ => none }
def descRoundTripRow : OpenClaim := { program := "ytfafmanjgillcaadoor", sum := "dd1c8e5e62aa116011ed51f68df49d6715d8b999fc1f022ac29c23b624d0ba80", func := "armature/armaturelaw04.DescRoundTrip", spec := "descRoundTrip", inPlace := ["internal/bytealg.IndexByteString", "internal/bytealg.IndexString", "internal/abi.NoEscape", "internal/bytealg.MakeNoZero"], unfollowed := true, recurses := true, named := ["unicode/utf8.first", "unicode/utf8.acceptRanges", "internal/bytealg.MaxLen"], apart := false, laid := [("unicode/utf8.acceptRanges", laid_unicode_utf8_acceptRanges), ("unicode/utf8.first", laid_unicode_utf8_first)] }
def DescRoundTripSaid : Prop := descRoundTripRow.holds Tryd.pinned (OpenSpec.ofChange descRoundTripSpec)

/-- ITS FALSE NEIGHBOUR: 'it returns false'. Refute it at one input. -/
def descRoundTripWrong : ChangeSpec := { name := "descRoundTrip", fn := fun _ => fun
  | [d] => { results := [.lit (.bool false)], args := [d] }
  | _ => none }
def DescRoundTripWrongFalsely : Prop := descRoundTripRow.holds Tryd.pinned (OpenSpec.ofChange descRoundTripWrong)

/-- 'armaturelaw04.DescCanonical': WHATEVER THE INPUT: true; the input reads as it did. -/
def descCanonicalSpec : ChangeSpec := { name := "descCanonical", fn := fun _ => fun
  | [d] => { results := [.lit (.bool true)], args := [d] }
  | _ => none }
def descCanonicalRow : OpenClaim := { program := "ytfafmanjgillcaadoor", sum := "dd1c8e5e62aa116011ed51f68df49d6715d8b999fc1f022ac29c23b624d0ba80", func := "armature/armaturelaw04.DescCanonical", spec := "descCanonical", inPlace := ["internal/bytealg.IndexByteString", "internal/bytealg.IndexString", "internal/abi.NoEscape", "internal/bytealg.MakeNoZero"], unfollowed := true, recurses := true, named := ["unicode/utf8.first", "unicode/utf8.acceptRanges", "internal/bytealg.MaxLen"], apart := false, laid := [("unicode/utf8.acceptRanges", laid_unicode_utf8_acceptRanges), ("unicode/utf8.first", laid_unicode_utf8_first)] }
def DescCanonicalSaid : Prop := descCanonicalRow.holds Tryd.pinned (OpenSpec.ofChange descCanonicalSpec)

/-- ITS FALSE NEIGHBOUR: 'it returns false'. Refute it at one input. -/
def descCanonicalWrong : ChangeSpec := { name := "descCanonical", fn := fun _ => fun
  | [d] => { results := [.lit (.bool false)], args := [d] }
  | _ => none }
def DescCanonicalWrongFalsely : Prop := descCanonicalRow.holds Tryd.pinned (OpenSpec.ofChange descCanonicalWrong)

/- THE SECOND FORM. 'bulk': how many values and letters a reading holds, each counted each time it is reached (what is shared counts as often as it is met; a slice's spare places count too). A statement '..UptoSaid' is the law's where the arguments, and the package variables that the reading takes, are together of bulk at most 1048576: NARROWER than '..Said'. Prove '..Said' where nothing that the law and all that it calls make is longer than what came in: it says more and counts as full. Else prove '..UptoSaid'. A law counts once. -/
mutual
def uptoBulk {H : Type} : DataW H → Nat
  | .lit (.string bytes) => bytes.length + 1
  | .lit _ => 1
  | .nil => 1
  | .ptr d => uptoBulk d + 1
  | .slice elems spare => uptoBulkAll elems + uptoBulkAll spare + 1
  | .agg parts => uptoBulkAll parts + 1
  | .iface _ d => uptoBulk d + 1
  | .map entries => uptoBulkEntries entries + 1
  | .held _ => 1
def uptoBulkAll {H : Type} : List (DataW H) → Nat
  | [] => 0
  | d :: r => uptoBulk d + uptoBulkAll r
def uptoBulkEntries {H : Type} : List (Lit × DataW H) → Nat
  | [] => 0
  | x :: r => uptoBulkEntry x + uptoBulkEntries r
def uptoBulkEntry {H : Type} : Lit × DataW H → Nat
  | (.string bytes, d) => bytes.length + uptoBulk d + 1
  | (_, d) => uptoBulk d + 1
 end
def uptoSmall : (H : Type) → List (DataW H) → Bool := fun _ ds => decide (uptoBulkAll ds ≤ 1048576)
def OpenSpec.upto (s : _root_.Go.ChangeSpec) : _root_.Go.OpenSpec := { _root_.Go.OpenSpec.ofChange s with cond := some uptoSmall }

/-- 'armaturelaw03.NameValidity', WHERE WHAT IT READS IS OF BULK AT MOST 1048576: true; the input reads as it did. -/
def nameValidityUptoRow : OpenClaim := { program := "ytfafmanjgillcaadoor", sum := "dd1c8e5e62aa116011ed51f68df49d6715d8b999fc1f022ac29c23b624d0ba80", func := "armature/armaturelaw03.NameValidity", spec := "nameValidity", inPlace := ["internal/bytealg.IndexByteString", "internal/bytealg.IndexString"], unfollowed := true, recurses := true, named := ["unicode/utf8.first", "unicode/utf8.acceptRanges", "internal/bytealg.MaxLen"], apart := false, laid := [("unicode/utf8.acceptRanges", laid_unicode_utf8_acceptRanges), ("unicode/utf8.first", laid_unicode_utf8_first)], narrowed := true }
def NameValidityUptoSaid : Prop := nameValidityUptoRow.holds Tryd.pinned (OpenSpec.upto nameValiditySpec)

/-- 'armaturelaw03.NameJoin', WHERE WHAT IT READS IS OF BULK AT MOST 1048576: true; the input reads as it did. -/
def nameJoinUptoRow : OpenClaim := { program := "ytfafmanjgillcaadoor", sum := "dd1c8e5e62aa116011ed51f68df49d6715d8b999fc1f022ac29c23b624d0ba80", func := "armature/armaturelaw03.NameJoin", spec := "nameJoin", inPlace := ["internal/bytealg.IndexByteString", "internal/bytealg.IndexString"], unfollowed := true, recurses := true, named := ["unicode/utf8.first", "unicode/utf8.acceptRanges", "internal/bytealg.MaxLen"], apart := false, laid := [("unicode/utf8.acceptRanges", laid_unicode_utf8_acceptRanges), ("unicode/utf8.first", laid_unicode_utf8_first)], narrowed := true }
def NameJoinUptoSaid : Prop := nameJoinUptoRow.holds Tryd.pinned (OpenSpec.upto nameJoinSpec)

/-- 'armaturelaw03.NameParts', WHERE WHAT IT READS IS OF BULK AT MOST 1048576: true; the input reads as it did. -/
def namePartsUptoRow : OpenClaim := { program := "ytfafmanjgillcaadoor", sum := "dd1c8e5e62aa116011ed51f68df49d6715d8b999fc1f022ac29c23b624d0ba80", func := "armature/armaturelaw03.NameParts", spec := "nameParts", inPlace := ["internal/bytealg.IndexByteString", "internal/bytealg.IndexString"], unfollowed := true, recurses := true, named := ["unicode/utf8.first", "unicode/utf8.acceptRanges", "internal/bytealg.MaxLen"], apart := false, laid := [("unicode/utf8.acceptRanges", laid_unicode_utf8_acceptRanges), ("unicode/utf8.first", laid_unicode_utf8_first)], narrowed := true }
def NamePartsUptoSaid : Prop := namePartsUptoRow.holds Tryd.pinned (OpenSpec.upto namePartsSpec)

/-- 'armaturelaw03.NamePrefix', WHERE WHAT IT READS IS OF BULK AT MOST 1048576: true; the input reads as it did. -/
def namePrefixUptoRow : OpenClaim := { program := "ytfafmanjgillcaadoor", sum := "dd1c8e5e62aa116011ed51f68df49d6715d8b999fc1f022ac29c23b624d0ba80", func := "armature/armaturelaw03.NamePrefix", spec := "namePrefix", inPlace := ["internal/bytealg.IndexByteString", "internal/bytealg.IndexString"], unfollowed := true, recurses := true, named := ["unicode/utf8.first", "unicode/utf8.acceptRanges", "internal/bytealg.MaxLen"], apart := false, laid := [("unicode/utf8.acceptRanges", laid_unicode_utf8_acceptRanges), ("unicode/utf8.first", laid_unicode_utf8_first)], narrowed := true }
def NamePrefixUptoSaid : Prop := namePrefixUptoRow.holds Tryd.pinned (OpenSpec.upto namePrefixSpec)

/-- 'armaturelaw04.DescReference', WHERE WHAT IT READS IS OF BULK AT MOST 1048576: true; the input reads as it did. -/
def descReferenceUptoRow : OpenClaim := { program := "ytfafmanjgillcaadoor", sum := "dd1c8e5e62aa116011ed51f68df49d6715d8b999fc1f022ac29c23b624d0ba80", func := "armature/armaturelaw04.DescReference", spec := "descReference", inPlace := ["internal/bytealg.IndexByteString", "internal/bytealg.IndexString", "internal/abi.NoEscape", "internal/bytealg.MakeNoZero"], unfollowed := true, recurses := true, named := ["unicode/utf8.first", "unicode/utf8.acceptRanges", "internal/bytealg.MaxLen"], apart := false, laid := [("unicode/utf8.acceptRanges", laid_unicode_utf8_acceptRanges), ("unicode/utf8.first", laid_unicode_utf8_first)], narrowed := true }
def DescReferenceUptoSaid : Prop := descReferenceUptoRow.holds Tryd.pinned (OpenSpec.upto descReferenceSpec)

/-- 'armaturelaw04.DescParse', WHERE WHAT IT READS IS OF BULK AT MOST 1048576: true; the input reads as it did. -/
def descParseUptoRow : OpenClaim := { program := "ytfafmanjgillcaadoor", sum := "dd1c8e5e62aa116011ed51f68df49d6715d8b999fc1f022ac29c23b624d0ba80", func := "armature/armaturelaw04.DescParse", spec := "descParse", inPlace := ["internal/bytealg.IndexByteString", "internal/bytealg.IndexString", "internal/abi.NoEscape", "internal/bytealg.MakeNoZero"], unfollowed := true, recurses := true, named := ["unicode/utf8.first", "unicode/utf8.acceptRanges", "internal/bytealg.MaxLen"], apart := false, laid := [("unicode/utf8.acceptRanges", laid_unicode_utf8_acceptRanges), ("unicode/utf8.first", laid_unicode_utf8_first)], narrowed := true }
def DescParseUptoSaid : Prop := descParseUptoRow.holds Tryd.pinned (OpenSpec.upto descParseSpec)

/-- 'armaturelaw04.DescFormatSignature', WHERE WHAT IT READS IS OF BULK AT MOST 1048576: true; the input reads as it did. -/
def descFormatSignatureUptoRow : OpenClaim := { program := "ytfafmanjgillcaadoor", sum := "dd1c8e5e62aa116011ed51f68df49d6715d8b999fc1f022ac29c23b624d0ba80", func := "armature/armaturelaw04.DescFormatSignature", spec := "descFormatSignature", inPlace := ["internal/bytealg.IndexByteString", "internal/bytealg.IndexString", "internal/abi.NoEscape", "internal/bytealg.MakeNoZero"], unfollowed := true, recurses := true, named := ["unicode/utf8.first", "unicode/utf8.acceptRanges", "internal/bytealg.MaxLen"], apart := false, laid := [("unicode/utf8.acceptRanges", laid_unicode_utf8_acceptRanges), ("unicode/utf8.first", laid_unicode_utf8_first)], narrowed := true }
def DescFormatSignatureUptoSaid : Prop := descFormatSignatureUptoRow.holds Tryd.pinned (OpenSpec.upto descFormatSignatureSpec)

/-- 'armaturelaw04.DescParseSignature', WHERE WHAT IT READS IS OF BULK AT MOST 1048576: true; the input reads as it did. -/
def descParseSignatureUptoRow : OpenClaim := { program := "ytfafmanjgillcaadoor", sum := "dd1c8e5e62aa116011ed51f68df49d6715d8b999fc1f022ac29c23b624d0ba80", func := "armature/armaturelaw04.DescParseSignature", spec := "descParseSignature", inPlace := ["internal/bytealg.IndexByteString", "internal/bytealg.IndexString", "internal/abi.NoEscape", "internal/bytealg.MakeNoZero"], unfollowed := true, recurses := true, named := ["unicode/utf8.first", "unicode/utf8.acceptRanges", "internal/bytealg.MaxLen"], apart := false, laid := [("unicode/utf8.acceptRanges", laid_unicode_utf8_acceptRanges), ("unicode/utf8.first", laid_unicode_utf8_first)], narrowed := true }
def DescParseSignatureUptoSaid : Prop := descParseSignatureUptoRow.holds Tryd.pinned (OpenSpec.upto descParseSignatureSpec)

/-- 'armaturelaw04.DescClassNames', WHERE WHAT IT READS IS OF BULK AT MOST 1048576: true; the input reads as it did. -/
def descClassNamesUptoRow : OpenClaim := { program := "ytfafmanjgillcaadoor", sum := "dd1c8e5e62aa116011ed51f68df49d6715d8b999fc1f022ac29c23b624d0ba80", func := "armature/armaturelaw04.DescClassNames", spec := "descClassNames", inPlace := ["internal/bytealg.IndexByteString", "internal/bytealg.IndexString", "internal/abi.NoEscape", "internal/bytealg.MakeNoZero"], unfollowed := true, recurses := true, named := ["unicode/utf8.first", "unicode/utf8.acceptRanges", "internal/bytealg.MaxLen"], apart := false, laid := [("unicode/utf8.acceptRanges", laid_unicode_utf8_acceptRanges), ("unicode/utf8.first", laid_unicode_utf8_first)], narrowed := true }
def DescClassNamesUptoSaid : Prop := descClassNamesUptoRow.holds Tryd.pinned (OpenSpec.upto descClassNamesSpec)

/-- 'armaturelaw04.DescRoundTrip', WHERE WHAT IT READS IS OF BULK AT MOST 1048576: true; the input reads as it did. -/
def descRoundTripUptoRow : OpenClaim := { program := "ytfafmanjgillcaadoor", sum := "dd1c8e5e62aa116011ed51f68df49d6715d8b999fc1f022ac29c23b624d0ba80", func := "armature/armaturelaw04.DescRoundTrip", spec := "descRoundTrip", inPlace := ["internal/bytealg.IndexByteString", "internal/bytealg.IndexString", "internal/abi.NoEscape", "internal/bytealg.MakeNoZero"], unfollowed := true, recurses := true, named := ["unicode/utf8.first", "unicode/utf8.acceptRanges", "internal/bytealg.MaxLen"], apart := false, laid := [("unicode/utf8.acceptRanges", laid_unicode_utf8_acceptRanges), ("unicode/utf8.first", laid_unicode_utf8_first)], narrowed := true }
def DescRoundTripUptoSaid : Prop := descRoundTripUptoRow.holds Tryd.pinned (OpenSpec.upto descRoundTripSpec)

/-- 'armaturelaw04.DescCanonical', WHERE WHAT IT READS IS OF BULK AT MOST 1048576: true; the input reads as it did. -/
def descCanonicalUptoRow : OpenClaim := { program := "ytfafmanjgillcaadoor", sum := "dd1c8e5e62aa116011ed51f68df49d6715d8b999fc1f022ac29c23b624d0ba80", func := "armature/armaturelaw04.DescCanonical", spec := "descCanonical", inPlace := ["internal/bytealg.IndexByteString", "internal/bytealg.IndexString", "internal/abi.NoEscape", "internal/bytealg.MakeNoZero"], unfollowed := true, recurses := true, named := ["unicode/utf8.first", "unicode/utf8.acceptRanges", "internal/bytealg.MaxLen"], apart := false, laid := [("unicode/utf8.acceptRanges", laid_unicode_utf8_acceptRanges), ("unicode/utf8.first", laid_unicode_utf8_first)], narrowed := true }
def DescCanonicalUptoSaid : Prop := descCanonicalUptoRow.holds Tryd.pinned (OpenSpec.upto descCanonicalSpec)

end Rows
end Go.Proofs.YtfafmanjgillcaaDoor
