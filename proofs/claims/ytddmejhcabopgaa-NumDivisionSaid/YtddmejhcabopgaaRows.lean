/-
  No cell of these rows narrows 'for every input' (looked for: loops, veiled, ifaces, maps, wideKeys, modest, calm, conditions, laid).
  DERIVED. THE GIVEN ROWS OF THIS SEAT. 6 by the template 'for every input the law returns true; each argument reads behind the call as it read before'; 0 by the template 'total and deterministic' (their statements: YtddmejhcabopgaaTotals.lean).
  GIVEN WITH THE SEED: the statements are not yours to turn. If you find one false, say at which input.
  Laid BY PROGRAM, IN A SANDBOX (cutbox-rows.mjs): the forced cells as the released guide's own fill.sh prints them over the translation 7dcf0ff8d7bd4a3d… (all of the seat's roots in one cut). By AI agents, Wed Nov 11 2026. No macro, syntax, notation, axiom, sorry.
-/
import Derived.Test.YtddmejhcabopgaaChecked
import GoSem.Claim
import GoSem.ClaimJoined
import GoSem.ClaimMapViews
import Derived.JoinedTies
import Derived.KernelRfl
namespace Go.Proofs.Ytddmejhcabopgaa
/- THE CELL 'sum', in the pinned program and in every row, IS THE sha256 OF THE DUMP (.gsa) THAT YtddmejhcabopgaaProg.lean LOADS. Nothing in Lean hashes anything: it is a label: what it is worth is what the hold of that sum in a sandbox is worth. -/
noncomputable def Try.pinned : Pinned := { name := "ytddmejhcabopgaa", sum := "7dcf0ff8d7bd4a3d2d08dfb94642cb58a50e32867c389788f4a40796273c79c0", checked := Try.checked }
namespace Rows
def none {H : Type} : Left H := { results := [], args := [] }

/-- 'armaturelaw01.NumWrapInt32': WHATEVER THE INPUT: true; the input reads as it did. -/
def numWrapInt32Spec : ChangeSpec := { name := "numWrapInt32", fn := fun _ => fun
  | [d] => { results := [.lit (.bool true)], args := [d] }
  | _ => none }
def numWrapInt32Row : OpenClaim := { program := "ytddmejhcabopgaa", sum := "7dcf0ff8d7bd4a3d2d08dfb94642cb58a50e32867c389788f4a40796273c79c0", func := "armature/armaturelaw01.NumWrapInt32", spec := "numWrapInt32", apart := false }
def NumWrapInt32Said : Prop := numWrapInt32Row.holds Try.pinned (OpenSpec.ofChange numWrapInt32Spec)

/-- ITS FALSE NEIGHBOUR: 'it returns false'. Refute it at one input. -/
def numWrapInt32Wrong : ChangeSpec := { name := "numWrapInt32", fn := fun _ => fun
  | [d] => { results := [.lit (.bool false)], args := [d] }
  | _ => none }
def NumWrapInt32WrongFalsely : Prop := numWrapInt32Row.holds Try.pinned (OpenSpec.ofChange numWrapInt32Wrong)

/-- 'armaturelaw01.NumCompute': WHATEVER THE INPUT: true; the input reads as it did. -/
def numComputeSpec : ChangeSpec := { name := "numCompute", fn := fun _ => fun
  | [d1, d2, d3] => { results := [.lit (.bool true)], args := [d1, d2, d3] }
  | _ => none }
def numComputeRow : OpenClaim := { program := "ytddmejhcabopgaa", sum := "7dcf0ff8d7bd4a3d2d08dfb94642cb58a50e32867c389788f4a40796273c79c0", func := "armature/armaturelaw01.NumCompute", spec := "numCompute", apart := false }
def NumComputeSaid : Prop := numComputeRow.holds Try.pinned (OpenSpec.ofChange numComputeSpec)

/-- ITS FALSE NEIGHBOUR: 'it returns false'. Refute it at one input. -/
def numComputeWrong : ChangeSpec := { name := "numCompute", fn := fun _ => fun
  | [d1, d2, d3] => { results := [.lit (.bool false)], args := [d1, d2, d3] }
  | _ => none }
def NumComputeWrongFalsely : Prop := numComputeRow.holds Try.pinned (OpenSpec.ofChange numComputeWrong)

/-- 'armaturelaw01.NumCondition': WHATEVER THE INPUT: true; the input reads as it did. -/
def numConditionSpec : ChangeSpec := { name := "numCondition", fn := fun _ => fun
  | [d1, d2, d3] => { results := [.lit (.bool true)], args := [d1, d2, d3] }
  | _ => none }
def numConditionRow : OpenClaim := { program := "ytddmejhcabopgaa", sum := "7dcf0ff8d7bd4a3d2d08dfb94642cb58a50e32867c389788f4a40796273c79c0", func := "armature/armaturelaw01.NumCondition", spec := "numCondition", apart := false }
def NumConditionSaid : Prop := numConditionRow.holds Try.pinned (OpenSpec.ofChange numConditionSpec)

/-- ITS FALSE NEIGHBOUR: 'it returns false'. Refute it at one input. -/
def numConditionWrong : ChangeSpec := { name := "numCondition", fn := fun _ => fun
  | [d1, d2, d3] => { results := [.lit (.bool false)], args := [d1, d2, d3] }
  | _ => none }
def NumConditionWrongFalsely : Prop := numConditionRow.holds Try.pinned (OpenSpec.ofChange numConditionWrong)

/-- 'armaturelaw01.NumRingLaws': WHATEVER THE INPUT: true; the input reads as it did. -/
def numRingLawsSpec : ChangeSpec := { name := "numRingLaws", fn := fun _ => fun
  | [d1, d2, d3] => { results := [.lit (.bool true)], args := [d1, d2, d3] }
  | _ => none }
def numRingLawsRow : OpenClaim := { program := "ytddmejhcabopgaa", sum := "7dcf0ff8d7bd4a3d2d08dfb94642cb58a50e32867c389788f4a40796273c79c0", func := "armature/armaturelaw01.NumRingLaws", spec := "numRingLaws", apart := false }
def NumRingLawsSaid : Prop := numRingLawsRow.holds Try.pinned (OpenSpec.ofChange numRingLawsSpec)

/-- ITS FALSE NEIGHBOUR: 'it returns false'. Refute it at one input. -/
def numRingLawsWrong : ChangeSpec := { name := "numRingLaws", fn := fun _ => fun
  | [d1, d2, d3] => { results := [.lit (.bool false)], args := [d1, d2, d3] }
  | _ => none }
def NumRingLawsWrongFalsely : Prop := numRingLawsRow.holds Try.pinned (OpenSpec.ofChange numRingLawsWrong)

/-- 'armaturelaw01.NumDivision': WHATEVER THE INPUT: true; the input reads as it did. -/
def numDivisionSpec : ChangeSpec := { name := "numDivision", fn := fun _ => fun
  | [d1, d2] => { results := [.lit (.bool true)], args := [d1, d2] }
  | _ => none }
def numDivisionRow : OpenClaim := { program := "ytddmejhcabopgaa", sum := "7dcf0ff8d7bd4a3d2d08dfb94642cb58a50e32867c389788f4a40796273c79c0", func := "armature/armaturelaw01.NumDivision", spec := "numDivision", apart := false }
def NumDivisionSaid : Prop := numDivisionRow.holds Try.pinned (OpenSpec.ofChange numDivisionSpec)

/-- ITS FALSE NEIGHBOUR: 'it returns false'. Refute it at one input. -/
def numDivisionWrong : ChangeSpec := { name := "numDivision", fn := fun _ => fun
  | [d1, d2] => { results := [.lit (.bool false)], args := [d1, d2] }
  | _ => none }
def NumDivisionWrongFalsely : Prop := numDivisionRow.holds Try.pinned (OpenSpec.ofChange numDivisionWrong)

/-- 'armaturelaw01.NumNegation': WHATEVER THE INPUT: true; the input reads as it did. -/
def numNegationSpec : ChangeSpec := { name := "numNegation", fn := fun _ => fun
  | [d1, d2, d3] => { results := [.lit (.bool true)], args := [d1, d2, d3] }
  | _ => none }
def numNegationRow : OpenClaim := { program := "ytddmejhcabopgaa", sum := "7dcf0ff8d7bd4a3d2d08dfb94642cb58a50e32867c389788f4a40796273c79c0", func := "armature/armaturelaw01.NumNegation", spec := "numNegation", apart := false }
def NumNegationSaid : Prop := numNegationRow.holds Try.pinned (OpenSpec.ofChange numNegationSpec)

/-- ITS FALSE NEIGHBOUR: 'it returns false'. Refute it at one input. -/
def numNegationWrong : ChangeSpec := { name := "numNegation", fn := fun _ => fun
  | [d1, d2, d3] => { results := [.lit (.bool false)], args := [d1, d2, d3] }
  | _ => none }
def NumNegationWrongFalsely : Prop := numNegationRow.holds Try.pinned (OpenSpec.ofChange numNegationWrong)

/- THE SECOND FORM. 'bulk': how many values and letters a reading holds, each counted each time it is reached (what is shared counts as often as it is met; a slice's spare places count too). A statement '..UptoSaid' is the law's where the arguments, and the package variables that the reading takes, are together of bulk at most 1048576: NARROWER than '..Said'. Prove '..Said' where nothing that the law and all that it calls make is longer than what came in: it says more and counts as full. Else prove '..UptoSaid'. A law counts once. -/
mutual
def uptoBulk {H : Type} : DataW H → Nat
  | .lit (.string bytes) => bytes.length + 1
  | .lit _ => 1
  | .nil => 1
  | .ptr d => uptoBulk d + 1
  | .slice elems spare => uptoBulkAll elems + uptoBulkAll spare + 1
  | .agg parts => uptoBulkAll parts + 1
  | .iface _ d => uptoBulk d + 1
  | .map entries => uptoBulkEntries entries + 1
  | .held _ => 1
def uptoBulkAll {H : Type} : List (DataW H) → Nat
  | [] => 0
  | d :: r => uptoBulk d + uptoBulkAll r
def uptoBulkEntries {H : Type} : List (Lit × DataW H) → Nat
  | [] => 0
  | x :: r => uptoBulkEntry x + uptoBulkEntries r
def uptoBulkEntry {H : Type} : Lit × DataW H → Nat
  | (.string bytes, d) => bytes.length + uptoBulk d + 1
  | (_, d) => uptoBulk d + 1
 end
def uptoSmall : (H : Type) → List (DataW H) → Bool := fun _ ds => decide (uptoBulkAll ds ≤ 1048576)
def OpenSpec.upto (s : _root_.Go.ChangeSpec) : _root_.Go.OpenSpec := { _root_.Go.OpenSpec.ofChange s with cond := some uptoSmall }

/-- 'armaturelaw01.NumWrapInt32', WHERE WHAT IT READS IS OF BULK AT MOST 1048576: true; the input reads as it did. -/
def numWrapInt32UptoRow : OpenClaim := { program := "ytddmejhcabopgaa", sum := "7dcf0ff8d7bd4a3d2d08dfb94642cb58a50e32867c389788f4a40796273c79c0", func := "armature/armaturelaw01.NumWrapInt32", spec := "numWrapInt32", apart := false, narrowed := true }
def NumWrapInt32UptoSaid : Prop := numWrapInt32UptoRow.holds Try.pinned (OpenSpec.upto numWrapInt32Spec)

/-- 'armaturelaw01.NumCompute', WHERE WHAT IT READS IS OF BULK AT MOST 1048576: true; the input reads as it did. -/
def numComputeUptoRow : OpenClaim := { program := "ytddmejhcabopgaa", sum := "7dcf0ff8d7bd4a3d2d08dfb94642cb58a50e32867c389788f4a40796273c79c0", func := "armature/armaturelaw01.NumCompute", spec := "numCompute", apart := false, narrowed := true }
def NumComputeUptoSaid : Prop := numComputeUptoRow.holds Try.pinned (OpenSpec.upto numComputeSpec)

/-- 'armaturelaw01.NumCondition', WHERE WHAT IT READS IS OF BULK AT MOST 1048576: true; the input reads as it did. -/
def numConditionUptoRow : OpenClaim := { program := "ytddmejhcabopgaa", sum := "7dcf0ff8d7bd4a3d2d08dfb94642cb58a50e32867c389788f4a40796273c79c0", func := "armature/armaturelaw01.NumCondition", spec := "numCondition", apart := false, narrowed := true }
def NumConditionUptoSaid : Prop := numConditionUptoRow.holds Try.pinned (OpenSpec.upto numConditionSpec)

/-- 'armaturelaw01.NumRingLaws', WHERE WHAT IT READS IS OF BULK AT MOST 1048576: true; the input reads as it did. -/
def numRingLawsUptoRow : OpenClaim := { program := "ytddmejhcabopgaa", sum := "7dcf0ff8d7bd4a3d2d08dfb94642cb58a50e32867c389788f4a40796273c79c0", func := "armature/armaturelaw01.NumRingLaws", spec := "numRingLaws", apart := false, narrowed := true }
def NumRingLawsUptoSaid : Prop := numRingLawsUptoRow.holds Try.pinned (OpenSpec.upto numRingLawsSpec)

/-- 'armaturelaw01.NumDivision', WHERE WHAT IT READS IS OF BULK AT MOST 1048576: true; the input reads as it did. -/
def numDivisionUptoRow : OpenClaim := { program := "ytddmejhcabopgaa", sum := "7dcf0ff8d7bd4a3d2d08dfb94642cb58a50e32867c389788f4a40796273c79c0", func := "armature/armaturelaw01.NumDivision", spec := "numDivision", apart := false, narrowed := true }
def NumDivisionUptoSaid : Prop := numDivisionUptoRow.holds Try.pinned (OpenSpec.upto numDivisionSpec)

/-- 'armaturelaw01.NumNegation', WHERE WHAT IT READS IS OF BULK AT MOST 1048576: true; the input reads as it did. -/
def numNegationUptoRow : OpenClaim := { program := "ytddmejhcabopgaa", sum := "7dcf0ff8d7bd4a3d2d08dfb94642cb58a50e32867c389788f4a40796273c79c0", func := "armature/armaturelaw01.NumNegation", spec := "numNegation", apart := false, narrowed := true }
def NumNegationUptoSaid : Prop := numNegationUptoRow.holds Try.pinned (OpenSpec.upto numNegationSpec)

end Rows
end Go.Proofs.Ytddmejhcabopgaa
