/-
  NARROWER THAN 'FOR EVERY INPUT', by the rows' own cells (each row's printed sentence says how): CodeCheckReference: laid · AttrEncodeCode: laid · AttrDecodeCode: laid · AttrRoundTrip: laid · AttrCanonical: laid.
  DERIVED. THE GIVEN ROWS OF THIS SEAT. 5 by the template 'for every input the law returns true; each argument reads behind the call as it read before'; 0 by the template 'total and deterministic' (their statements: YtalejaklggnnpaaGreatDoorTotals.lean).
  GIVEN WITH THE SEED: the statements are not yours to turn. If you find one false, say at which input.
  Laid BY PROGRAM, IN A SANDBOX (cutbox-rows.mjs): the forced cells as the released guide's own fill.sh prints them over the translation 1a39acdd362e383b… (all of the seat's roots in one cut). By AI agents, Wed Nov 11 2026. No macro, syntax, notation, axiom, sorry.
-/
import Derived.Test.YtalejaklggnnpaaGreatDoorChecked
import GoSem.PinnedTables
import GoSem.Claim
import GoSem.ClaimJoined
import GoSem.ClaimMapViews
import Derived.JoinedTies
import Derived.KernelRfl
namespace Go.Proofs.YtalejaklggnnpaaGreatDoor
/- THE CELL 'sum', in the pinned program and in every row, IS THE sha256 OF THE DUMP (.gsa) THAT YtalejaklggnnpaaGreatDoorProg.lean LOADS. Nothing in Lean hashes anything: it is a label: what it is worth is what the hold of that sum in a sandbox is worth. -/
noncomputable def Tryz.pinned : Pinned := { name := "ytalejaklggnnpaagreatdoor", sum := "1a39acdd362e383bb3b341d8fc7e8f5ab8fa069bb532d758f45fc182fa90baf7", checked := Tryz.checked }
namespace Rows
def none {H : Type} : Left H := { results := [], args := [] }

/- WHAT THE LISTED PACKAGE-LEVEL VARIABLES READ AS WHEN THE CALL BEGINS. Each datum BY PROGRAM (the guide's laid-datum.mjs) off the statement by which the dump's own 'gosem.cut.vars' lays the variable. In a bare row this is a premise. The card (YtalejaklggnnpaaGreatDoorCards.lean) ties it to the program's text. -/
def laid_unicode_utf8_acceptRanges {H : Type} : DataW H := .agg [.agg [.lit (.int .u8 128), .lit (.int .u8 191)], .agg [.lit (.int .u8 160), .lit (.int .u8 191)], .agg [.lit (.int .u8 128), .lit (.int .u8 159)], .agg [.lit (.int .u8 144), .lit (.int .u8 191)], .agg [.lit (.int .u8 128), .lit (.int .u8 143)], .agg [.lit (.int .u8 0), .lit (.int .u8 0)], .agg [.lit (.int .u8 0), .lit (.int .u8 0)], .agg [.lit (.int .u8 0), .lit (.int .u8 0)], .agg [.lit (.int .u8 0), .lit (.int .u8 0)], .agg [.lit (.int .u8 0), .lit (.int .u8 0)], .agg [.lit (.int .u8 0), .lit (.int .u8 0)], .agg [.lit (.int .u8 0), .lit (.int .u8 0)], .agg [.lit (.int .u8 0), .lit (.int .u8 0)], .agg [.lit (.int .u8 0), .lit (.int .u8 0)], .agg [.lit (.int .u8 0), .lit (.int .u8 0)], .agg [.lit (.int .u8 0), .lit (.int .u8 0)]]
/-- One of Go's own tables, pinned by name: the form's constant. -/
def laid_unicode_utf8_first : DataW Unit := Go.Pinned.utf8First

/-- 'armaturelaw09.CodeCheckReference': WHATEVER THE INPUT: true; the input reads as it did. -/
def codeCheckReferenceSpec : ChangeSpec := { name := "codeCheckReference", fn := fun _ => fun
  | [d1, d2] => { results := [.lit (.bool true)], args := [d1, d2] }
  | _ => none }
def codeCheckReferenceRow : OpenClaim := { program := "ytalejaklggnnpaagreatdoor", sum := "1a39acdd362e383bb3b341d8fc7e8f5ab8fa069bb532d758f45fc182fa90baf7", func := "armature/armaturelaw09.CodeCheckReference", spec := "codeCheckReference", inPlace := ["internal/bytealg.IndexByteString", "internal/bytealg.IndexString"], unfollowed := true, recurses := true, named := ["unicode/utf8.first", "unicode/utf8.acceptRanges", "internal/bytealg.MaxLen"], apart := false, laid := [("unicode/utf8.acceptRanges", laid_unicode_utf8_acceptRanges), ("unicode/utf8.first", laid_unicode_utf8_first)] }
def CodeCheckReferenceSaid : Prop := codeCheckReferenceRow.holds Tryz.pinned (OpenSpec.ofChange codeCheckReferenceSpec)

/-- ITS FALSE NEIGHBOUR: 'it returns false'. Refute it at one input. -/
def codeCheckReferenceWrong : ChangeSpec := { name := "codeCheckReference", fn := fun _ => fun
  | [d1, d2] => { results := [.lit (.bool false)], args := [d1, d2] }
  | _ => none }
def CodeCheckReferenceWrongFalsely : Prop := codeCheckReferenceRow.holds Tryz.pinned (OpenSpec.ofChange codeCheckReferenceWrong)

/-- 'armaturelaw10.AttrEncodeCode': WHATEVER THE INPUT: true; the input reads as it did. -/
def attrEncodeCodeSpec : ChangeSpec := { name := "attrEncodeCode", fn := fun _ => fun
  | [d1, d2] => { results := [.lit (.bool true)], args := [d1, d2] }
  | _ => none }
def attrEncodeCodeRow : OpenClaim := { program := "ytalejaklggnnpaagreatdoor", sum := "1a39acdd362e383bb3b341d8fc7e8f5ab8fa069bb532d758f45fc182fa90baf7", func := "armature/armaturelaw10.AttrEncodeCode", spec := "attrEncodeCode", inPlace := ["internal/bytealg.IndexByteString", "internal/bytealg.IndexString", "internal/abi.NoEscape"], unfollowed := true, recurses := true, named := ["unicode/utf8.first", "unicode/utf8.acceptRanges", "internal/bytealg.MaxLen"], apart := false, laid := [("unicode/utf8.acceptRanges", laid_unicode_utf8_acceptRanges), ("unicode/utf8.first", laid_unicode_utf8_first)] }
def AttrEncodeCodeSaid : Prop := attrEncodeCodeRow.holds Tryz.pinned (OpenSpec.ofChange attrEncodeCodeSpec)

/-- ITS FALSE NEIGHBOUR: 'it returns false'. Refute it at one input. -/
def attrEncodeCodeWrong : ChangeSpec := { name := "attrEncodeCode", fn := fun _ => fun
  | [d1, d2] => { results := [.lit (.bool false)], args := [d1, d2] }
  | _ => none }
def AttrEncodeCodeWrongFalsely : Prop := attrEncodeCodeRow.holds Tryz.pinned (OpenSpec.ofChange attrEncodeCodeWrong)

/-- 'armaturelaw10.AttrDecodeCode': WHATEVER THE INPUT: true; the input reads as it did. -/
def attrDecodeCodeSpec : ChangeSpec := { name := "attrDecodeCode", fn := fun _ => fun
  | [d1, d2] => { results := [.lit (.bool true)], args := [d1, d2] }
  | _ => none }
def attrDecodeCodeRow : OpenClaim := { program := "ytalejaklggnnpaagreatdoor", sum := "1a39acdd362e383bb3b341d8fc7e8f5ab8fa069bb532d758f45fc182fa90baf7", func := "armature/armaturelaw10.AttrDecodeCode", spec := "attrDecodeCode", inPlace := ["internal/bytealg.IndexByteString", "internal/bytealg.IndexString", "internal/abi.NoEscape"], unfollowed := true, recurses := true, named := ["unicode/utf8.first", "unicode/utf8.acceptRanges", "internal/bytealg.MaxLen"], apart := false, laid := [("unicode/utf8.acceptRanges", laid_unicode_utf8_acceptRanges), ("unicode/utf8.first", laid_unicode_utf8_first)] }
def AttrDecodeCodeSaid : Prop := attrDecodeCodeRow.holds Tryz.pinned (OpenSpec.ofChange attrDecodeCodeSpec)

/-- ITS FALSE NEIGHBOUR: 'it returns false'. Refute it at one input. -/
def attrDecodeCodeWrong : ChangeSpec := { name := "attrDecodeCode", fn := fun _ => fun
  | [d1, d2] => { results := [.lit (.bool false)], args := [d1, d2] }
  | _ => none }
def AttrDecodeCodeWrongFalsely : Prop := attrDecodeCodeRow.holds Tryz.pinned (OpenSpec.ofChange attrDecodeCodeWrong)

/-- 'armaturelaw10.AttrRoundTrip': WHATEVER THE INPUT: true; the input reads as it did. -/
def attrRoundTripSpec : ChangeSpec := { name := "attrRoundTrip", fn := fun _ => fun
  | [d1, d2, d3, d4] => { results := [.lit (.bool true)], args := [d1, d2, d3, d4] }
  | _ => none }
def attrRoundTripRow : OpenClaim := { program := "ytalejaklggnnpaagreatdoor", sum := "1a39acdd362e383bb3b341d8fc7e8f5ab8fa069bb532d758f45fc182fa90baf7", func := "armature/armaturelaw10.AttrRoundTrip", spec := "attrRoundTrip", inPlace := ["internal/bytealg.IndexByteString", "internal/bytealg.IndexString", "internal/abi.NoEscape"], unfollowed := true, recurses := true, named := ["unicode/utf8.first", "unicode/utf8.acceptRanges", "internal/bytealg.MaxLen"], apart := false, laid := [("unicode/utf8.acceptRanges", laid_unicode_utf8_acceptRanges), ("unicode/utf8.first", laid_unicode_utf8_first)] }
def AttrRoundTripSaid : Prop := attrRoundTripRow.holds Tryz.pinned (OpenSpec.ofChange attrRoundTripSpec)

/-- ITS FALSE NEIGHBOUR: 'it returns false'. Refute it at one input. -/
def attrRoundTripWrong : ChangeSpec := { name := "attrRoundTrip", fn := fun _ => fun
  | [d1, d2, d3, d4] => { results := [.lit (.bool false)], args := [d1, d2, d3, d4] }
  | _ => none }
def AttrRoundTripWrongFalsely : Prop := attrRoundTripRow.holds Tryz.pinned (OpenSpec.ofChange attrRoundTripWrong)

/-- 'armaturelaw10.AttrCanonical': WHATEVER THE INPUT: true; the input reads as it did. -/
def attrCanonicalSpec : ChangeSpec := { name := "attrCanonical", fn := fun _ => fun
  | [d1, d2, d3] => { results := [.lit (.bool true)], args := [d1, d2, d3] }
  | _ => none }
def attrCanonicalRow : OpenClaim := { program := "ytalejaklggnnpaagreatdoor", sum := "1a39acdd362e383bb3b341d8fc7e8f5ab8fa069bb532d758f45fc182fa90baf7", func := "armature/armaturelaw10.AttrCanonical", spec := "attrCanonical", inPlace := ["internal/bytealg.IndexByteString", "internal/bytealg.IndexString", "internal/abi.NoEscape"], unfollowed := true, recurses := true, named := ["unicode/utf8.first", "unicode/utf8.acceptRanges", "internal/bytealg.MaxLen"], apart := false, laid := [("unicode/utf8.acceptRanges", laid_unicode_utf8_acceptRanges), ("unicode/utf8.first", laid_unicode_utf8_first)] }
def AttrCanonicalSaid : Prop := attrCanonicalRow.holds Tryz.pinned (OpenSpec.ofChange attrCanonicalSpec)

/-- ITS FALSE NEIGHBOUR: 'it returns false'. Refute it at one input. -/
def attrCanonicalWrong : ChangeSpec := { name := "attrCanonical", fn := fun _ => fun
  | [d1, d2, d3] => { results := [.lit (.bool false)], args := [d1, d2, d3] }
  | _ => none }
def AttrCanonicalWrongFalsely : Prop := attrCanonicalRow.holds Tryz.pinned (OpenSpec.ofChange attrCanonicalWrong)

/- THE SECOND FORM. 'bulk': how many values and letters a reading holds, each counted each time it is reached (what is shared counts as often as it is met; a slice's spare places count too). A statement '..UptoSaid' is the law's where the arguments, and the package variables that the reading takes, are together of bulk at most 1048576: NARROWER than '..Said'. Prove '..Said' where nothing that the law and all that it calls make is longer than what came in: it says more and counts as full. Else prove '..UptoSaid'. A law counts once. -/
mutual
def uptoBulk {H : Type} : DataW H → Nat
  | .lit (.string bytes) => bytes.length + 1
  | .lit _ => 1
  | .nil => 1
  | .ptr d => uptoBulk d + 1
  | .slice elems spare => uptoBulkAll elems + uptoBulkAll spare + 1
  | .agg parts => uptoBulkAll parts + 1
  | .iface _ d => uptoBulk d + 1
  | .map entries => uptoBulkEntries entries + 1
  | .held _ => 1
def uptoBulkAll {H : Type} : List (DataW H) → Nat
  | [] => 0
  | d :: r => uptoBulk d + uptoBulkAll r
def uptoBulkEntries {H : Type} : List (Lit × DataW H) → Nat
  | [] => 0
  | x :: r => uptoBulkEntry x + uptoBulkEntries r
def uptoBulkEntry {H : Type} : Lit × DataW H → Nat
  | (.string bytes, d) => bytes.length + uptoBulk d + 1
  | (_, d) => uptoBulk d + 1
 end
def uptoSmall : (H : Type) → List (DataW H) → Bool := fun _ ds => decide (uptoBulkAll ds ≤ 1048576)
def OpenSpec.upto (s : _root_.Go.ChangeSpec) : _root_.Go.OpenSpec := { _root_.Go.OpenSpec.ofChange s with cond := some uptoSmall }

/-- 'armaturelaw09.CodeCheckReference', WHERE WHAT IT READS IS OF BULK AT MOST 1048576: true; the input reads as it did. -/
def codeCheckReferenceUptoRow : OpenClaim := { program := "ytalejaklggnnpaagreatdoor", sum := "1a39acdd362e383bb3b341d8fc7e8f5ab8fa069bb532d758f45fc182fa90baf7", func := "armature/armaturelaw09.CodeCheckReference", spec := "codeCheckReference", inPlace := ["internal/bytealg.IndexByteString", "internal/bytealg.IndexString"], unfollowed := true, recurses := true, named := ["unicode/utf8.first", "unicode/utf8.acceptRanges", "internal/bytealg.MaxLen"], apart := false, laid := [("unicode/utf8.acceptRanges", laid_unicode_utf8_acceptRanges), ("unicode/utf8.first", laid_unicode_utf8_first)], narrowed := true }
def CodeCheckReferenceUptoSaid : Prop := codeCheckReferenceUptoRow.holds Tryz.pinned (OpenSpec.upto codeCheckReferenceSpec)

/-- 'armaturelaw10.AttrEncodeCode', WHERE WHAT IT READS IS OF BULK AT MOST 1048576: true; the input reads as it did. -/
def attrEncodeCodeUptoRow : OpenClaim := { program := "ytalejaklggnnpaagreatdoor", sum := "1a39acdd362e383bb3b341d8fc7e8f5ab8fa069bb532d758f45fc182fa90baf7", func := "armature/armaturelaw10.AttrEncodeCode", spec := "attrEncodeCode", inPlace := ["internal/bytealg.IndexByteString", "internal/bytealg.IndexString", "internal/abi.NoEscape"], unfollowed := true, recurses := true, named := ["unicode/utf8.first", "unicode/utf8.acceptRanges", "internal/bytealg.MaxLen"], apart := false, laid := [("unicode/utf8.acceptRanges", laid_unicode_utf8_acceptRanges), ("unicode/utf8.first", laid_unicode_utf8_first)], narrowed := true }
def AttrEncodeCodeUptoSaid : Prop := attrEncodeCodeUptoRow.holds Tryz.pinned (OpenSpec.upto attrEncodeCodeSpec)

/-- 'armaturelaw10.AttrDecodeCode', WHERE WHAT IT READS IS OF BULK AT MOST 1048576: true; the input reads as it did. -/
def attrDecodeCodeUptoRow : OpenClaim := { program := "ytalejaklggnnpaagreatdoor", sum := "1a39acdd362e383bb3b341d8fc7e8f5ab8fa069bb532d758f45fc182fa90baf7", func := "armature/armaturelaw10.AttrDecodeCode", spec := "attrDecodeCode", inPlace := ["internal/bytealg.IndexByteString", "internal/bytealg.IndexString", "internal/abi.NoEscape"], unfollowed := true, recurses := true, named := ["unicode/utf8.first", "unicode/utf8.acceptRanges", "internal/bytealg.MaxLen"], apart := false, laid := [("unicode/utf8.acceptRanges", laid_unicode_utf8_acceptRanges), ("unicode/utf8.first", laid_unicode_utf8_first)], narrowed := true }
def AttrDecodeCodeUptoSaid : Prop := attrDecodeCodeUptoRow.holds Tryz.pinned (OpenSpec.upto attrDecodeCodeSpec)

/-- 'armaturelaw10.AttrRoundTrip', WHERE WHAT IT READS IS OF BULK AT MOST 1048576: true; the input reads as it did. -/
def attrRoundTripUptoRow : OpenClaim := { program := "ytalejaklggnnpaagreatdoor", sum := "1a39acdd362e383bb3b341d8fc7e8f5ab8fa069bb532d758f45fc182fa90baf7", func := "armature/armaturelaw10.AttrRoundTrip", spec := "attrRoundTrip", inPlace := ["internal/bytealg.IndexByteString", "internal/bytealg.IndexString", "internal/abi.NoEscape"], unfollowed := true, recurses := true, named := ["unicode/utf8.first", "unicode/utf8.acceptRanges", "internal/bytealg.MaxLen"], apart := false, laid := [("unicode/utf8.acceptRanges", laid_unicode_utf8_acceptRanges), ("unicode/utf8.first", laid_unicode_utf8_first)], narrowed := true }
def AttrRoundTripUptoSaid : Prop := attrRoundTripUptoRow.holds Tryz.pinned (OpenSpec.upto attrRoundTripSpec)

/-- 'armaturelaw10.AttrCanonical', WHERE WHAT IT READS IS OF BULK AT MOST 1048576: true; the input reads as it did. -/
def attrCanonicalUptoRow : OpenClaim := { program := "ytalejaklggnnpaagreatdoor", sum := "1a39acdd362e383bb3b341d8fc7e8f5ab8fa069bb532d758f45fc182fa90baf7", func := "armature/armaturelaw10.AttrCanonical", spec := "attrCanonical", inPlace := ["internal/bytealg.IndexByteString", "internal/bytealg.IndexString", "internal/abi.NoEscape"], unfollowed := true, recurses := true, named := ["unicode/utf8.first", "unicode/utf8.acceptRanges", "internal/bytealg.MaxLen"], apart := false, laid := [("unicode/utf8.acceptRanges", laid_unicode_utf8_acceptRanges), ("unicode/utf8.first", laid_unicode_utf8_first)], narrowed := true }
def AttrCanonicalUptoSaid : Prop := attrCanonicalUptoRow.holds Tryz.pinned (OpenSpec.upto attrCanonicalSpec)

end Rows
end Go.Proofs.YtalejaklggnnpaaGreatDoor
