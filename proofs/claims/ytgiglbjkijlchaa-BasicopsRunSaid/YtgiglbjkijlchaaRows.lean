/-
  No cell of these rows narrows 'for every input' (looked for: loops, veiled, ifaces, maps, wideKeys, modest, calm, conditions, laid).
  DERIVED. THE GIVEN ROWS OF THIS SEAT. 5 by the template 'for every input the law returns true; each argument reads behind the call as it read before'; 0 by the template 'total and deterministic' (their statements: YtgiglbjkijlchaaTotals.lean).
  GIVEN WITH THE SEED: the statements are not yours to turn. If you find one false, say at which input.
  Laid BY PROGRAM, IN A SANDBOX (cutbox-rows.mjs): the forced cells as the released guide's own fill.sh prints them over the translation 9bc4fcea8201e3e3… (all of the seat's roots in one cut). By AI agents, Wed Nov 11 2026. No macro, syntax, notation, axiom, sorry.
-/
import Derived.Test.YtgiglbjkijlchaaChecked
import GoSem.Claim
import GoSem.ClaimJoined
import GoSem.ClaimMapViews
import Derived.JoinedTies
import Derived.KernelRfl
namespace Go.Proofs.Ytgiglbjkijlchaa
/- THE CELL 'sum', in the pinned program and in every row, IS THE sha256 OF THE DUMP (.gsa) THAT YtgiglbjkijlchaaProg.lean LOADS. Nothing in Lean hashes anything: it is a label: what it is worth is what the hold of that sum in a sandbox is worth. -/
noncomputable def Try.pinned : Pinned := { name := "ytgiglbjkijlchaa", sum := "9bc4fcea8201e3e376b0b7a863e0b92a58ed6a20a30d5434644d92b7b2525dc6", checked := Try.checked }
namespace Rows
def none {H : Type} : Left H := { results := [], args := [] }

/-- 'armaturelaw42.BasicopsExecute': WHATEVER THE INPUT: true; the input reads as it did. -/
def basicopsExecuteSpec : ChangeSpec := { name := "basicopsExecute", fn := fun _ => fun
  | [d1, d2] => { results := [.lit (.bool true)], args := [d1, d2] }
  | _ => none }
def basicopsExecuteRow : OpenClaim := { program := "ytgiglbjkijlchaa", sum := "9bc4fcea8201e3e376b0b7a863e0b92a58ed6a20a30d5434644d92b7b2525dc6", func := "armature/armaturelaw42.BasicopsExecute", spec := "basicopsExecute", apart := false }
def BasicopsExecuteSaid : Prop := basicopsExecuteRow.holds Try.pinned (OpenSpec.ofChange basicopsExecuteSpec)

/-- ITS FALSE NEIGHBOUR: 'it returns false'. Refute it at one input. -/
def basicopsExecuteWrong : ChangeSpec := { name := "basicopsExecute", fn := fun _ => fun
  | [d1, d2] => { results := [.lit (.bool false)], args := [d1, d2] }
  | _ => none }
def BasicopsExecuteWrongFalsely : Prop := basicopsExecuteRow.holds Try.pinned (OpenSpec.ofChange basicopsExecuteWrong)

/-- 'armaturelaw42.BasicopsRun': WHATEVER THE INPUT: true; the input reads as it did. -/
def basicopsRunSpec : ChangeSpec := { name := "basicopsRun", fn := fun _ => fun
  | [d1, d2, d3] => { results := [.lit (.bool true)], args := [d1, d2, d3] }
  | _ => none }
def basicopsRunRow : OpenClaim := { program := "ytgiglbjkijlchaa", sum := "9bc4fcea8201e3e376b0b7a863e0b92a58ed6a20a30d5434644d92b7b2525dc6", func := "armature/armaturelaw42.BasicopsRun", spec := "basicopsRun", apart := false }
def BasicopsRunSaid : Prop := basicopsRunRow.holds Try.pinned (OpenSpec.ofChange basicopsRunSpec)

/-- ITS FALSE NEIGHBOUR: 'it returns false'. Refute it at one input. -/
def basicopsRunWrong : ChangeSpec := { name := "basicopsRun", fn := fun _ => fun
  | [d1, d2, d3] => { results := [.lit (.bool false)], args := [d1, d2, d3] }
  | _ => none }
def BasicopsRunWrongFalsely : Prop := basicopsRunRow.holds Try.pinned (OpenSpec.ofChange basicopsRunWrong)

/-- 'armaturelaw42.BasicopsEffects': WHATEVER THE INPUT: true; the input reads as it did. -/
def basicopsEffectsSpec : ChangeSpec := { name := "basicopsEffects", fn := fun _ => fun
  | [d1, d2] => { results := [.lit (.bool true)], args := [d1, d2] }
  | _ => none }
def basicopsEffectsRow : OpenClaim := { program := "ytgiglbjkijlchaa", sum := "9bc4fcea8201e3e376b0b7a863e0b92a58ed6a20a30d5434644d92b7b2525dc6", func := "armature/armaturelaw42.BasicopsEffects", spec := "basicopsEffects", apart := false }
def BasicopsEffectsSaid : Prop := basicopsEffectsRow.holds Try.pinned (OpenSpec.ofChange basicopsEffectsSpec)

/-- ITS FALSE NEIGHBOUR: 'it returns false'. Refute it at one input. -/
def basicopsEffectsWrong : ChangeSpec := { name := "basicopsEffects", fn := fun _ => fun
  | [d1, d2] => { results := [.lit (.bool false)], args := [d1, d2] }
  | _ => none }
def BasicopsEffectsWrongFalsely : Prop := basicopsEffectsRow.holds Try.pinned (OpenSpec.ofChange basicopsEffectsWrong)

/-- 'armaturelaw42.BasicopsInverses': WHATEVER THE INPUT: true; the input reads as it did. -/
def basicopsInversesSpec : ChangeSpec := { name := "basicopsInverses", fn := fun _ => fun
  | [d1, d2, d3] => { results := [.lit (.bool true)], args := [d1, d2, d3] }
  | _ => none }
def basicopsInversesRow : OpenClaim := { program := "ytgiglbjkijlchaa", sum := "9bc4fcea8201e3e376b0b7a863e0b92a58ed6a20a30d5434644d92b7b2525dc6", func := "armature/armaturelaw42.BasicopsInverses", spec := "basicopsInverses", apart := false }
def BasicopsInversesSaid : Prop := basicopsInversesRow.holds Try.pinned (OpenSpec.ofChange basicopsInversesSpec)

/-- ITS FALSE NEIGHBOUR: 'it returns false'. Refute it at one input. -/
def basicopsInversesWrong : ChangeSpec := { name := "basicopsInverses", fn := fun _ => fun
  | [d1, d2, d3] => { results := [.lit (.bool false)], args := [d1, d2, d3] }
  | _ => none }
def BasicopsInversesWrongFalsely : Prop := basicopsInversesRow.holds Try.pinned (OpenSpec.ofChange basicopsInversesWrong)

/-- 'armaturelaw42.BasicopsComposition': WHATEVER THE INPUT: true; the input reads as it did. -/
def basicopsCompositionSpec : ChangeSpec := { name := "basicopsComposition", fn := fun _ => fun
  | [d1, d2, d3] => { results := [.lit (.bool true)], args := [d1, d2, d3] }
  | _ => none }
def basicopsCompositionRow : OpenClaim := { program := "ytgiglbjkijlchaa", sum := "9bc4fcea8201e3e376b0b7a863e0b92a58ed6a20a30d5434644d92b7b2525dc6", func := "armature/armaturelaw42.BasicopsComposition", spec := "basicopsComposition", apart := false }
def BasicopsCompositionSaid : Prop := basicopsCompositionRow.holds Try.pinned (OpenSpec.ofChange basicopsCompositionSpec)

/-- ITS FALSE NEIGHBOUR: 'it returns false'. Refute it at one input. -/
def basicopsCompositionWrong : ChangeSpec := { name := "basicopsComposition", fn := fun _ => fun
  | [d1, d2, d3] => { results := [.lit (.bool false)], args := [d1, d2, d3] }
  | _ => none }
def BasicopsCompositionWrongFalsely : Prop := basicopsCompositionRow.holds Try.pinned (OpenSpec.ofChange basicopsCompositionWrong)

/- THE SECOND FORM. 'bulk': how many values and letters a reading holds, each counted each time it is reached (what is shared counts as often as it is met; a slice's spare places count too). A statement '..UptoSaid' is the law's where the arguments, and the package variables that the reading takes, are together of bulk at most 1048576: NARROWER than '..Said'. Prove '..Said' where nothing that the law and all that it calls make is longer than what came in: it says more and counts as full. Else prove '..UptoSaid'. A law counts once. -/
mutual
def uptoBulk {H : Type} : DataW H → Nat
  | .lit (.string bytes) => bytes.length + 1
  | .lit _ => 1
  | .nil => 1
  | .ptr d => uptoBulk d + 1
  | .slice elems spare => uptoBulkAll elems + uptoBulkAll spare + 1
  | .agg parts => uptoBulkAll parts + 1
  | .iface _ d => uptoBulk d + 1
  | .map entries => uptoBulkEntries entries + 1
  | .held _ => 1
def uptoBulkAll {H : Type} : List (DataW H) → Nat
  | [] => 0
  | d :: r => uptoBulk d + uptoBulkAll r
def uptoBulkEntries {H : Type} : List (Lit × DataW H) → Nat
  | [] => 0
  | x :: r => uptoBulkEntry x + uptoBulkEntries r
def uptoBulkEntry {H : Type} : Lit × DataW H → Nat
  | (.string bytes, d) => bytes.length + uptoBulk d + 1
  | (_, d) => uptoBulk d + 1
 end
def uptoSmall : (H : Type) → List (DataW H) → Bool := fun _ ds => decide (uptoBulkAll ds ≤ 1048576)
def OpenSpec.upto (s : _root_.Go.ChangeSpec) : _root_.Go.OpenSpec := { _root_.Go.OpenSpec.ofChange s with cond := some uptoSmall }

/-- 'armaturelaw42.BasicopsExecute', WHERE WHAT IT READS IS OF BULK AT MOST 1048576: true; the input reads as it did. -/
def basicopsExecuteUptoRow : OpenClaim := { program := "ytgiglbjkijlchaa", sum := "9bc4fcea8201e3e376b0b7a863e0b92a58ed6a20a30d5434644d92b7b2525dc6", func := "armature/armaturelaw42.BasicopsExecute", spec := "basicopsExecute", apart := false, narrowed := true }
def BasicopsExecuteUptoSaid : Prop := basicopsExecuteUptoRow.holds Try.pinned (OpenSpec.upto basicopsExecuteSpec)

/-- 'armaturelaw42.BasicopsRun', WHERE WHAT IT READS IS OF BULK AT MOST 1048576: true; the input reads as it did. -/
def basicopsRunUptoRow : OpenClaim := { program := "ytgiglbjkijlchaa", sum := "9bc4fcea8201e3e376b0b7a863e0b92a58ed6a20a30d5434644d92b7b2525dc6", func := "armature/armaturelaw42.BasicopsRun", spec := "basicopsRun", apart := false, narrowed := true }
def BasicopsRunUptoSaid : Prop := basicopsRunUptoRow.holds Try.pinned (OpenSpec.upto basicopsRunSpec)

/-- 'armaturelaw42.BasicopsEffects', WHERE WHAT IT READS IS OF BULK AT MOST 1048576: true; the input reads as it did. -/
def basicopsEffectsUptoRow : OpenClaim := { program := "ytgiglbjkijlchaa", sum := "9bc4fcea8201e3e376b0b7a863e0b92a58ed6a20a30d5434644d92b7b2525dc6", func := "armature/armaturelaw42.BasicopsEffects", spec := "basicopsEffects", apart := false, narrowed := true }
def BasicopsEffectsUptoSaid : Prop := basicopsEffectsUptoRow.holds Try.pinned (OpenSpec.upto basicopsEffectsSpec)

/-- 'armaturelaw42.BasicopsInverses', WHERE WHAT IT READS IS OF BULK AT MOST 1048576: true; the input reads as it did. -/
def basicopsInversesUptoRow : OpenClaim := { program := "ytgiglbjkijlchaa", sum := "9bc4fcea8201e3e376b0b7a863e0b92a58ed6a20a30d5434644d92b7b2525dc6", func := "armature/armaturelaw42.BasicopsInverses", spec := "basicopsInverses", apart := false, narrowed := true }
def BasicopsInversesUptoSaid : Prop := basicopsInversesUptoRow.holds Try.pinned (OpenSpec.upto basicopsInversesSpec)

/-- 'armaturelaw42.BasicopsComposition', WHERE WHAT IT READS IS OF BULK AT MOST 1048576: true; the input reads as it did. -/
def basicopsCompositionUptoRow : OpenClaim := { program := "ytgiglbjkijlchaa", sum := "9bc4fcea8201e3e376b0b7a863e0b92a58ed6a20a30d5434644d92b7b2525dc6", func := "armature/armaturelaw42.BasicopsComposition", spec := "basicopsComposition", apart := false, narrowed := true }
def BasicopsCompositionUptoSaid : Prop := basicopsCompositionUptoRow.holds Try.pinned (OpenSpec.upto basicopsCompositionSpec)

end Rows
end Go.Proofs.Ytgiglbjkijlchaa
