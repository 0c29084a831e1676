/-
  No cell of these rows narrows 'for every input' (looked for: loops, veiled, ifaces, maps, wideKeys, modest, calm, conditions, laid).
  DERIVED. THE GIVEN ROWS OF THIS SEAT. 11 by the template 'for every input the law returns true; each argument reads behind the call as it read before'; 0 by the template 'total and deterministic' (their statements: YtpghkdmljanncaaTotals.lean).
  GIVEN WITH THE SEED: the statements are not yours to turn. If you find one false, say at which input.
  Laid BY PROGRAM, IN A SANDBOX (cutbox-rows.mjs): the forced cells as the released guide's own fill.sh prints them over the translation 5dd90a79cf7152d3… (all of the seat's roots in one cut). By AI agents, Wed Nov 11 2026. No macro, syntax, notation, axiom, sorry.
-/
import Derived.Test.YtpghkdmljanncaaChecked
import GoSem.Claim
import GoSem.ClaimJoined
import GoSem.ClaimMapViews
import Derived.JoinedTies
import Derived.KernelRfl
namespace Go.Proofs.Ytpghkdmljanncaa
/- THE CELL 'sum', in the pinned program and in every row, IS THE sha256 OF THE DUMP (.gsa) THAT YtpghkdmljanncaaProg.lean LOADS. Nothing in Lean hashes anything: it is a label: what it is worth is what the hold of that sum in a sandbox is worth. -/
noncomputable def Try.pinned : Pinned := { name := "ytpghkdmljanncaa", sum := "5dd90a79cf7152d35c5b5916a7d505426200d9312a12298d1e43117fc95c54f2", checked := Try.checked }
namespace Rows
def none {H : Type} : Left H := { results := [], args := [] }

/-- 'armaturelaw08.InsnCheck': WHATEVER THE INPUT: true; the input reads as it did. -/
def insnCheckSpec : ChangeSpec := { name := "insnCheck", fn := fun _ => fun
  | [d] => { results := [.lit (.bool true)], args := [d] }
  | _ => none }
def insnCheckRow : OpenClaim := { program := "ytpghkdmljanncaa", sum := "5dd90a79cf7152d35c5b5916a7d505426200d9312a12298d1e43117fc95c54f2", func := "armature/armaturelaw08.InsnCheck", spec := "insnCheck", inPlace := ["internal/abi.NoEscape"], unfollowed := true, recurses := true, apart := false }
def InsnCheckSaid : Prop := insnCheckRow.holds Try.pinned (OpenSpec.ofChange insnCheckSpec)

/-- ITS FALSE NEIGHBOUR: 'it returns false'. Refute it at one input. -/
def insnCheckWrong : ChangeSpec := { name := "insnCheck", fn := fun _ => fun
  | [d] => { results := [.lit (.bool false)], args := [d] }
  | _ => none }
def InsnCheckWrongFalsely : Prop := insnCheckRow.holds Try.pinned (OpenSpec.ofChange insnCheckWrong)

/-- 'armaturelaw08.InsnOffsets': WHATEVER THE INPUT: true; the input reads as it did. -/
def insnOffsetsSpec : ChangeSpec := { name := "insnOffsets", fn := fun _ => fun
  | [d1, d2] => { results := [.lit (.bool true)], args := [d1, d2] }
  | _ => none }
def insnOffsetsRow : OpenClaim := { program := "ytpghkdmljanncaa", sum := "5dd90a79cf7152d35c5b5916a7d505426200d9312a12298d1e43117fc95c54f2", func := "armature/armaturelaw08.InsnOffsets", spec := "insnOffsets", inPlace := ["internal/abi.NoEscape"], unfollowed := true, recurses := true, apart := false }
def InsnOffsetsSaid : Prop := insnOffsetsRow.holds Try.pinned (OpenSpec.ofChange insnOffsetsSpec)

/-- ITS FALSE NEIGHBOUR: 'it returns false'. Refute it at one input. -/
def insnOffsetsWrong : ChangeSpec := { name := "insnOffsets", fn := fun _ => fun
  | [d1, d2] => { results := [.lit (.bool false)], args := [d1, d2] }
  | _ => none }
def InsnOffsetsWrongFalsely : Prop := insnOffsetsRow.holds Try.pinned (OpenSpec.ofChange insnOffsetsWrong)

/-- 'armaturelaw08.InsnEncode': WHATEVER THE INPUT: true; the input reads as it did. -/
def insnEncodeSpec : ChangeSpec := { name := "insnEncode", fn := fun _ => fun
  | [d] => { results := [.lit (.bool true)], args := [d] }
  | _ => none }
def insnEncodeRow : OpenClaim := { program := "ytpghkdmljanncaa", sum := "5dd90a79cf7152d35c5b5916a7d505426200d9312a12298d1e43117fc95c54f2", func := "armature/armaturelaw08.InsnEncode", spec := "insnEncode", inPlace := ["internal/abi.NoEscape"], unfollowed := true, recurses := true, apart := false }
def InsnEncodeSaid : Prop := insnEncodeRow.holds Try.pinned (OpenSpec.ofChange insnEncodeSpec)

/-- ITS FALSE NEIGHBOUR: 'it returns false'. Refute it at one input. -/
def insnEncodeWrong : ChangeSpec := { name := "insnEncode", fn := fun _ => fun
  | [d] => { results := [.lit (.bool false)], args := [d] }
  | _ => none }
def InsnEncodeWrongFalsely : Prop := insnEncodeRow.holds Try.pinned (OpenSpec.ofChange insnEncodeWrong)

/-- 'armaturelaw08.InsnDecode': WHATEVER THE INPUT: true; the input reads as it did. -/
def insnDecodeSpec : ChangeSpec := { name := "insnDecode", fn := fun _ => fun
  | [d] => { results := [.lit (.bool true)], args := [d] }
  | _ => none }
def insnDecodeRow : OpenClaim := { program := "ytpghkdmljanncaa", sum := "5dd90a79cf7152d35c5b5916a7d505426200d9312a12298d1e43117fc95c54f2", func := "armature/armaturelaw08.InsnDecode", spec := "insnDecode", inPlace := ["internal/abi.NoEscape"], unfollowed := true, recurses := true, apart := false }
def InsnDecodeSaid : Prop := insnDecodeRow.holds Try.pinned (OpenSpec.ofChange insnDecodeSpec)

/-- ITS FALSE NEIGHBOUR: 'it returns false'. Refute it at one input. -/
def insnDecodeWrong : ChangeSpec := { name := "insnDecode", fn := fun _ => fun
  | [d] => { results := [.lit (.bool false)], args := [d] }
  | _ => none }
def InsnDecodeWrongFalsely : Prop := insnDecodeRow.holds Try.pinned (OpenSpec.ofChange insnDecodeWrong)

/-- 'armaturelaw08.InsnRoundTrip': WHATEVER THE INPUT: true; the input reads as it did. -/
def insnRoundTripSpec : ChangeSpec := { name := "insnRoundTrip", fn := fun _ => fun
  | [d] => { results := [.lit (.bool true)], args := [d] }
  | _ => none }
def insnRoundTripRow : OpenClaim := { program := "ytpghkdmljanncaa", sum := "5dd90a79cf7152d35c5b5916a7d505426200d9312a12298d1e43117fc95c54f2", func := "armature/armaturelaw08.InsnRoundTrip", spec := "insnRoundTrip", inPlace := ["internal/abi.NoEscape"], unfollowed := true, recurses := true, apart := false }
def InsnRoundTripSaid : Prop := insnRoundTripRow.holds Try.pinned (OpenSpec.ofChange insnRoundTripSpec)

/-- ITS FALSE NEIGHBOUR: 'it returns false'. Refute it at one input. -/
def insnRoundTripWrong : ChangeSpec := { name := "insnRoundTrip", fn := fun _ => fun
  | [d] => { results := [.lit (.bool false)], args := [d] }
  | _ => none }
def InsnRoundTripWrongFalsely : Prop := insnRoundTripRow.holds Try.pinned (OpenSpec.ofChange insnRoundTripWrong)

/-- 'armaturelaw08.InsnCanonical': WHATEVER THE INPUT: true; the input reads as it did. -/
def insnCanonicalSpec : ChangeSpec := { name := "insnCanonical", fn := fun _ => fun
  | [d] => { results := [.lit (.bool true)], args := [d] }
  | _ => none }
def insnCanonicalRow : OpenClaim := { program := "ytpghkdmljanncaa", sum := "5dd90a79cf7152d35c5b5916a7d505426200d9312a12298d1e43117fc95c54f2", func := "armature/armaturelaw08.InsnCanonical", spec := "insnCanonical", inPlace := ["internal/abi.NoEscape"], unfollowed := true, recurses := true, apart := false }
def InsnCanonicalSaid : Prop := insnCanonicalRow.holds Try.pinned (OpenSpec.ofChange insnCanonicalSpec)

/-- ITS FALSE NEIGHBOUR: 'it returns false'. Refute it at one input. -/
def insnCanonicalWrong : ChangeSpec := { name := "insnCanonical", fn := fun _ => fun
  | [d] => { results := [.lit (.bool false)], args := [d] }
  | _ => none }
def InsnCanonicalWrongFalsely : Prop := insnCanonicalRow.holds Try.pinned (OpenSpec.ofChange insnCanonicalWrong)

/-- 'armaturelaw08.InsnIndexes': WHATEVER THE INPUT: true; the input reads as it did. -/
def insnIndexesSpec : ChangeSpec := { name := "insnIndexes", fn := fun _ => fun
  | [d] => { results := [.lit (.bool true)], args := [d] }
  | _ => none }
def insnIndexesRow : OpenClaim := { program := "ytpghkdmljanncaa", sum := "5dd90a79cf7152d35c5b5916a7d505426200d9312a12298d1e43117fc95c54f2", func := "armature/armaturelaw08.InsnIndexes", spec := "insnIndexes", inPlace := ["internal/abi.NoEscape"], unfollowed := true, recurses := true, apart := false }
def InsnIndexesSaid : Prop := insnIndexesRow.holds Try.pinned (OpenSpec.ofChange insnIndexesSpec)

/-- ITS FALSE NEIGHBOUR: 'it returns false'. Refute it at one input. -/
def insnIndexesWrong : ChangeSpec := { name := "insnIndexes", fn := fun _ => fun
  | [d] => { results := [.lit (.bool false)], args := [d] }
  | _ => none }
def InsnIndexesWrongFalsely : Prop := insnIndexesRow.holds Try.pinned (OpenSpec.ofChange insnIndexesWrong)

/-- 'armaturelaw19.FlowEdgesReference': WHATEVER THE INPUT: true; the input reads as it did. -/
def flowEdgesReferenceSpec : ChangeSpec := { name := "flowEdgesReference", fn := fun _ => fun
  | [d1, d2] => { results := [.lit (.bool true)], args := [d1, d2] }
  | _ => none }
def flowEdgesReferenceRow : OpenClaim := { program := "ytpghkdmljanncaa", sum := "5dd90a79cf7152d35c5b5916a7d505426200d9312a12298d1e43117fc95c54f2", func := "armature/armaturelaw19.FlowEdgesReference", spec := "flowEdgesReference", recurses := true, apart := false }
def FlowEdgesReferenceSaid : Prop := flowEdgesReferenceRow.holds Try.pinned (OpenSpec.ofChange flowEdgesReferenceSpec)

/-- ITS FALSE NEIGHBOUR: 'it returns false'. Refute it at one input. -/
def flowEdgesReferenceWrong : ChangeSpec := { name := "flowEdgesReference", fn := fun _ => fun
  | [d1, d2] => { results := [.lit (.bool false)], args := [d1, d2] }
  | _ => none }
def FlowEdgesReferenceWrongFalsely : Prop := flowEdgesReferenceRow.holds Try.pinned (OpenSpec.ofChange flowEdgesReferenceWrong)

/-- 'armaturelaw19.FlowGraphReference': WHATEVER THE INPUT: true; the input reads as it did. -/
def flowGraphReferenceSpec : ChangeSpec := { name := "flowGraphReference", fn := fun _ => fun
  | [d] => { results := [.lit (.bool true)], args := [d] }
  | _ => none }
def flowGraphReferenceRow : OpenClaim := { program := "ytpghkdmljanncaa", sum := "5dd90a79cf7152d35c5b5916a7d505426200d9312a12298d1e43117fc95c54f2", func := "armature/armaturelaw19.FlowGraphReference", spec := "flowGraphReference", unfollowed := true, recurses := true, apart := false }
def FlowGraphReferenceSaid : Prop := flowGraphReferenceRow.holds Try.pinned (OpenSpec.ofChange flowGraphReferenceSpec)

/-- ITS FALSE NEIGHBOUR: 'it returns false'. Refute it at one input. -/
def flowGraphReferenceWrong : ChangeSpec := { name := "flowGraphReference", fn := fun _ => fun
  | [d] => { results := [.lit (.bool false)], args := [d] }
  | _ => none }
def FlowGraphReferenceWrongFalsely : Prop := flowGraphReferenceRow.holds Try.pinned (OpenSpec.ofChange flowGraphReferenceWrong)

/-- 'armaturelaw19.FlowPredecessors': WHATEVER THE INPUT: true; the input reads as it did. -/
def flowPredecessorsSpec : ChangeSpec := { name := "flowPredecessors", fn := fun _ => fun
  | [d1, d2, d3] => { results := [.lit (.bool true)], args := [d1, d2, d3] }
  | _ => none }
def flowPredecessorsRow : OpenClaim := { program := "ytpghkdmljanncaa", sum := "5dd90a79cf7152d35c5b5916a7d505426200d9312a12298d1e43117fc95c54f2", func := "armature/armaturelaw19.FlowPredecessors", spec := "flowPredecessors", recurses := true, apart := false }
def FlowPredecessorsSaid : Prop := flowPredecessorsRow.holds Try.pinned (OpenSpec.ofChange flowPredecessorsSpec)

/-- ITS FALSE NEIGHBOUR: 'it returns false'. Refute it at one input. -/
def flowPredecessorsWrong : ChangeSpec := { name := "flowPredecessors", fn := fun _ => fun
  | [d1, d2, d3] => { results := [.lit (.bool false)], args := [d1, d2, d3] }
  | _ => none }
def FlowPredecessorsWrongFalsely : Prop := flowPredecessorsRow.holds Try.pinned (OpenSpec.ofChange flowPredecessorsWrong)

/-- 'armaturelaw19.FlowAcyclic': WHATEVER THE INPUT: true; the input reads as it did. -/
def flowAcyclicSpec : ChangeSpec := { name := "flowAcyclic", fn := fun _ => fun
  | [d] => { results := [.lit (.bool true)], args := [d] }
  | _ => none }
def flowAcyclicRow : OpenClaim := { program := "ytpghkdmljanncaa", sum := "5dd90a79cf7152d35c5b5916a7d505426200d9312a12298d1e43117fc95c54f2", func := "armature/armaturelaw19.FlowAcyclic", spec := "flowAcyclic", recurses := true, apart := false }
def FlowAcyclicSaid : Prop := flowAcyclicRow.holds Try.pinned (OpenSpec.ofChange flowAcyclicSpec)

/-- ITS FALSE NEIGHBOUR: 'it returns false'. Refute it at one input. -/
def flowAcyclicWrong : ChangeSpec := { name := "flowAcyclic", fn := fun _ => fun
  | [d] => { results := [.lit (.bool false)], args := [d] }
  | _ => none }
def FlowAcyclicWrongFalsely : Prop := flowAcyclicRow.holds Try.pinned (OpenSpec.ofChange flowAcyclicWrong)

/- THE SECOND FORM. 'bulk': how many values and letters a reading holds, each counted each time it is reached (what is shared counts as often as it is met; a slice's spare places count too). A statement '..UptoSaid' is the law's where the arguments, and the package variables that the reading takes, are together of bulk at most 1048576: NARROWER than '..Said'. Prove '..Said' where nothing that the law and all that it calls make is longer than what came in: it says more and counts as full. Else prove '..UptoSaid'. A law counts once. -/
mutual
def uptoBulk {H : Type} : DataW H → Nat
  | .lit (.string bytes) => bytes.length + 1
  | .lit _ => 1
  | .nil => 1
  | .ptr d => uptoBulk d + 1
  | .slice elems spare => uptoBulkAll elems + uptoBulkAll spare + 1
  | .agg parts => uptoBulkAll parts + 1
  | .iface _ d => uptoBulk d + 1
  | .map entries => uptoBulkEntries entries + 1
  | .held _ => 1
def uptoBulkAll {H : Type} : List (DataW H) → Nat
  | [] => 0
  | d :: r => uptoBulk d + uptoBulkAll r
def uptoBulkEntries {H : Type} : List (Lit × DataW H) → Nat
  | [] => 0
  | x :: r => uptoBulkEntry x + uptoBulkEntries r
def uptoBulkEntry {H : Type} : Lit × DataW H → Nat
  | (.string bytes, d) => bytes.length + uptoBulk d + 1
  | (_, d) => uptoBulk d + 1
 end
def uptoSmall : (H : Type) → List (DataW H) → Bool := fun _ ds => decide (uptoBulkAll ds ≤ 1048576)
def OpenSpec.upto (s : _root_.Go.ChangeSpec) : _root_.Go.OpenSpec := { _root_.Go.OpenSpec.ofChange s with cond := some uptoSmall }

/-- 'armaturelaw08.InsnCheck', WHERE WHAT IT READS IS OF BULK AT MOST 1048576: true; the input reads as it did. -/
def insnCheckUptoRow : OpenClaim := { program := "ytpghkdmljanncaa", sum := "5dd90a79cf7152d35c5b5916a7d505426200d9312a12298d1e43117fc95c54f2", func := "armature/armaturelaw08.InsnCheck", spec := "insnCheck", inPlace := ["internal/abi.NoEscape"], unfollowed := true, recurses := true, apart := false, narrowed := true }
def InsnCheckUptoSaid : Prop := insnCheckUptoRow.holds Try.pinned (OpenSpec.upto insnCheckSpec)

/-- 'armaturelaw08.InsnOffsets', WHERE WHAT IT READS IS OF BULK AT MOST 1048576: true; the input reads as it did. -/
def insnOffsetsUptoRow : OpenClaim := { program := "ytpghkdmljanncaa", sum := "5dd90a79cf7152d35c5b5916a7d505426200d9312a12298d1e43117fc95c54f2", func := "armature/armaturelaw08.InsnOffsets", spec := "insnOffsets", inPlace := ["internal/abi.NoEscape"], unfollowed := true, recurses := true, apart := false, narrowed := true }
def InsnOffsetsUptoSaid : Prop := insnOffsetsUptoRow.holds Try.pinned (OpenSpec.upto insnOffsetsSpec)

/-- 'armaturelaw08.InsnEncode', WHERE WHAT IT READS IS OF BULK AT MOST 1048576: true; the input reads as it did. -/
def insnEncodeUptoRow : OpenClaim := { program := "ytpghkdmljanncaa", sum := "5dd90a79cf7152d35c5b5916a7d505426200d9312a12298d1e43117fc95c54f2", func := "armature/armaturelaw08.InsnEncode", spec := "insnEncode", inPlace := ["internal/abi.NoEscape"], unfollowed := true, recurses := true, apart := false, narrowed := true }
def InsnEncodeUptoSaid : Prop := insnEncodeUptoRow.holds Try.pinned (OpenSpec.upto insnEncodeSpec)

/-- 'armaturelaw08.InsnDecode', WHERE WHAT IT READS IS OF BULK AT MOST 1048576: true; the input reads as it did. -/
def insnDecodeUptoRow : OpenClaim := { program := "ytpghkdmljanncaa", sum := "5dd90a79cf7152d35c5b5916a7d505426200d9312a12298d1e43117fc95c54f2", func := "armature/armaturelaw08.InsnDecode", spec := "insnDecode", inPlace := ["internal/abi.NoEscape"], unfollowed := true, recurses := true, apart := false, narrowed := true }
def InsnDecodeUptoSaid : Prop := insnDecodeUptoRow.holds Try.pinned (OpenSpec.upto insnDecodeSpec)

/-- 'armaturelaw08.InsnRoundTrip', WHERE WHAT IT READS IS OF BULK AT MOST 1048576: true; the input reads as it did. -/
def insnRoundTripUptoRow : OpenClaim := { program := "ytpghkdmljanncaa", sum := "5dd90a79cf7152d35c5b5916a7d505426200d9312a12298d1e43117fc95c54f2", func := "armature/armaturelaw08.InsnRoundTrip", spec := "insnRoundTrip", inPlace := ["internal/abi.NoEscape"], unfollowed := true, recurses := true, apart := false, narrowed := true }
def InsnRoundTripUptoSaid : Prop := insnRoundTripUptoRow.holds Try.pinned (OpenSpec.upto insnRoundTripSpec)

/-- 'armaturelaw08.InsnCanonical', WHERE WHAT IT READS IS OF BULK AT MOST 1048576: true; the input reads as it did. -/
def insnCanonicalUptoRow : OpenClaim := { program := "ytpghkdmljanncaa", sum := "5dd90a79cf7152d35c5b5916a7d505426200d9312a12298d1e43117fc95c54f2", func := "armature/armaturelaw08.InsnCanonical", spec := "insnCanonical", inPlace := ["internal/abi.NoEscape"], unfollowed := true, recurses := true, apart := false, narrowed := true }
def InsnCanonicalUptoSaid : Prop := insnCanonicalUptoRow.holds Try.pinned (OpenSpec.upto insnCanonicalSpec)

/-- 'armaturelaw08.InsnIndexes', WHERE WHAT IT READS IS OF BULK AT MOST 1048576: true; the input reads as it did. -/
def insnIndexesUptoRow : OpenClaim := { program := "ytpghkdmljanncaa", sum := "5dd90a79cf7152d35c5b5916a7d505426200d9312a12298d1e43117fc95c54f2", func := "armature/armaturelaw08.InsnIndexes", spec := "insnIndexes", inPlace := ["internal/abi.NoEscape"], unfollowed := true, recurses := true, apart := false, narrowed := true }
def InsnIndexesUptoSaid : Prop := insnIndexesUptoRow.holds Try.pinned (OpenSpec.upto insnIndexesSpec)

/-- 'armaturelaw19.FlowEdgesReference', WHERE WHAT IT READS IS OF BULK AT MOST 1048576: true; the input reads as it did. -/
def flowEdgesReferenceUptoRow : OpenClaim := { program := "ytpghkdmljanncaa", sum := "5dd90a79cf7152d35c5b5916a7d505426200d9312a12298d1e43117fc95c54f2", func := "armature/armaturelaw19.FlowEdgesReference", spec := "flowEdgesReference", recurses := true, apart := false, narrowed := true }
def FlowEdgesReferenceUptoSaid : Prop := flowEdgesReferenceUptoRow.holds Try.pinned (OpenSpec.upto flowEdgesReferenceSpec)

/-- 'armaturelaw19.FlowGraphReference', WHERE WHAT IT READS IS OF BULK AT MOST 1048576: true; the input reads as it did. -/
def flowGraphReferenceUptoRow : OpenClaim := { program := "ytpghkdmljanncaa", sum := "5dd90a79cf7152d35c5b5916a7d505426200d9312a12298d1e43117fc95c54f2", func := "armature/armaturelaw19.FlowGraphReference", spec := "flowGraphReference", unfollowed := true, recurses := true, apart := false, narrowed := true }
def FlowGraphReferenceUptoSaid : Prop := flowGraphReferenceUptoRow.holds Try.pinned (OpenSpec.upto flowGraphReferenceSpec)

/-- 'armaturelaw19.FlowPredecessors', WHERE WHAT IT READS IS OF BULK AT MOST 1048576: true; the input reads as it did. -/
def flowPredecessorsUptoRow : OpenClaim := { program := "ytpghkdmljanncaa", sum := "5dd90a79cf7152d35c5b5916a7d505426200d9312a12298d1e43117fc95c54f2", func := "armature/armaturelaw19.FlowPredecessors", spec := "flowPredecessors", recurses := true, apart := false, narrowed := true }
def FlowPredecessorsUptoSaid : Prop := flowPredecessorsUptoRow.holds Try.pinned (OpenSpec.upto flowPredecessorsSpec)

/-- 'armaturelaw19.FlowAcyclic', WHERE WHAT IT READS IS OF BULK AT MOST 1048576: true; the input reads as it did. -/
def flowAcyclicUptoRow : OpenClaim := { program := "ytpghkdmljanncaa", sum := "5dd90a79cf7152d35c5b5916a7d505426200d9312a12298d1e43117fc95c54f2", func := "armature/armaturelaw19.FlowAcyclic", spec := "flowAcyclic", recurses := true, apart := false, narrowed := true }
def FlowAcyclicUptoSaid : Prop := flowAcyclicUptoRow.holds Try.pinned (OpenSpec.upto flowAcyclicSpec)

end Rows
end Go.Proofs.Ytpghkdmljanncaa
