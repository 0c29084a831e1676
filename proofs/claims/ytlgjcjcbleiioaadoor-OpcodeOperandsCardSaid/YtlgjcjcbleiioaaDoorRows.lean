/-
  NARROWER THAN 'FOR EVERY INPUT', by the rows' own cells (each row's printed sentence says how): OpcodeNames: laid · OpcodeOperands: laid · OpcodeUniqueNames: laid · OpcodeConsistency: laid.
  DERIVED. THE GIVEN ROWS OF THIS SEAT. 4 by the template 'for every input the law returns true; each argument reads behind the call as it read before'; 0 by the template 'total and deterministic' (their statements: YtlgjcjcbleiioaaDoorTotals.lean).
  GIVEN WITH THE SEED: the statements are not yours to turn. If you find one false, say at which input.
  Laid BY PROGRAM, IN A SANDBOX (cutbox-rows.mjs): the forced cells as the released guide's own fill.sh prints them over the translation b2a722624a7d9a40… (all of the seat's roots in one cut). By AI agents, Wed Nov 11 2026. No macro, syntax, notation, axiom, sorry.
-/
import Derived.Test.YtlgjcjcbleiioaaDoorChecked
import GoSem.Claim
import GoSem.ClaimJoined
import GoSem.ClaimMapViews
import Derived.JoinedTies
import Derived.KernelRfl
namespace Go.Proofs.YtlgjcjcbleiioaaDoor
/- THE CELL 'sum', in the pinned program and in every row, IS THE sha256 OF THE DUMP (.gsa) THAT YtlgjcjcbleiioaaDoorProg.lean LOADS. Nothing in Lean hashes anything: it is a label: what it is worth is what the hold of that sum in a sandbox is worth. -/
noncomputable def Tryd.pinned : Pinned := { name := "ytlgjcjcbleiioaadoor", sum := "b2a722624a7d9a40ed904905c2b358985c9a9a26fbdc2fea4e62b4f29826a573", checked := Tryd.checked }
namespace Rows
def none {H : Type} : Left H := { results := [], args := [] }

/- WHAT THE LISTED PACKAGE-LEVEL VARIABLES READ AS WHEN THE CALL BEGINS. Each datum BY PROGRAM (the guide's laid-datum.mjs) off the statement by which the dump's own 'gosem.cut.vars' lays the variable. In a bare row this is a premise. The card (YtlgjcjcbleiioaaDoorCards.lean) ties it to the program's text. -/
def laid_armature_opcode_names {H : Type} : DataW H := .agg [.lit (.string [110, 111, 112]), .lit (.string [97, 99, 111, 110, 115, 116, 110, 117, 108, 108]), .lit (.string [112, 117, 115, 104]), .lit (.string [108, 100, 99]), .lit (.string [105, 108, 111, 97, 100]), .lit (.string [108, 108, 111, 97, 100]), .lit (.string [97, 108, 111, 97, 100]), .lit (.string [105, 115, 116, 111, 114, 101]), .lit (.string [108, 115, 116, 111, 114, 101]), .lit (.string [97, 115, 116, 111, 114, 101]), .lit (.string [105, 105, 110, 99]), .lit (.string [112, 111, 112]), .lit (.string [100, 117, 112]), .lit (.string [100, 117, 112, 120, 49]), .lit (.string [115, 119, 97, 112]), .lit (.string [105, 97, 100, 100]), .lit (.string [105, 115, 117, 98]), .lit (.string [105, 109, 117, 108]), .lit (.string [105, 100, 105, 118]), .lit (.string [105, 114, 101, 109]), .lit (.string [105, 110, 101, 103]), .lit (.string [105, 115, 104, 108]), .lit (.string [105, 115, 104, 114]), .lit (.string [105, 117, 115, 104, 114]), .lit (.string [105, 97, 110, 100]), .lit (.string [105, 111, 114]), .lit (.string [105, 120, 111, 114]), .lit (.string [108, 97, 100, 100]), .lit (.string [108, 115, 117, 98]), .lit (.string [108, 109, 117, 108]), .lit (.string [108, 100, 105, 118]), .lit (.string [108, 114, 101, 109]), .lit (.string [108, 110, 101, 103]), .lit (.string [108, 99, 109, 112]), .lit (.string [105, 50, 108]), .lit (.string [108, 50, 105]), .lit (.string [105, 102, 101, 113]), .lit (.string [105, 102, 110, 101]), .lit (.string [105, 102, 108, 116]), .lit (.string [105, 102, 103, 101]), .lit (.string [105, 102, 103, 116]), .lit (.string [105, 102, 108, 101]), .lit (.string [105, 102, 105, 99, 109, 112, 101, 113]), .lit (.string [105, 102, 105, 99, 109, 112, 110, 101]), .lit (.string [105, 102, 105, 99, 109, 112, 108, 116]), .lit (.string [105, 102, 105, 99, 109, 112, 103, 101]), .lit (.string [105, 102, 105, 99, 109, 112, 103, 116]), .lit (.string [105, 102, 105, 99, 109, 112, 108, 101]), .lit (.string [105, 102, 97, 99, 109, 112, 101, 113]), .lit (.string [105, 102, 97, 99, 109, 112, 110, 101]), .lit (.string [105, 102, 110, 117, 108, 108]), .lit (.string [105, 102, 110, 111, 110, 110, 117, 108, 108]), .lit (.string [103, 111, 116, 111]), .lit (.string [116, 97, 98, 108, 101, 115, 119, 105, 116, 99, 104]), .lit (.string [108, 111, 111, 107, 117, 112, 115, 119, 105, 116, 99, 104]), .lit (.string [105, 114, 101, 116, 117, 114, 110]), .lit (.string [108, 114, 101, 116, 117, 114, 110]), .lit (.string [97, 114, 101, 116, 117, 114, 110]), .lit (.string [114, 101, 116, 117, 114, 110]), .lit (.string [103, 101, 116, 115, 116, 97, 116, 105, 99]), .lit (.string [112, 117, 116, 115, 116, 97, 116, 105, 99]), .lit (.string [103, 101, 116, 102, 105, 101, 108, 100]), .lit (.string [112, 117, 116, 102, 105, 101, 108, 100]), .lit (.string [105, 110, 118, 111, 107, 101, 118, 105, 114, 116, 117, 97, 108]), .lit (.string [105, 110, 118, 111, 107, 101, 115, 112, 101, 99, 105, 97, 108]), .lit (.string [105, 110, 118, 111, 107, 101, 115, 116, 97, 116, 105, 99]), .lit (.string [105, 110, 118, 111, 107, 101, 105, 110, 116, 101, 114, 102, 97, 99, 101]), .lit (.string [110, 101, 119]), .lit (.string [110, 101, 119, 97, 114, 114, 97, 121]), .lit (.string [97, 114, 114, 97, 121, 108, 101, 110, 103, 116, 104]), .lit (.string [105, 97, 108, 111, 97, 100]), .lit (.string [108, 97, 108, 111, 97, 100]), .lit (.string [97, 97, 108, 111, 97, 100]), .lit (.string [105, 97, 115, 116, 111, 114, 101]), .lit (.string [108, 97, 115, 116, 111, 114, 101]), .lit (.string [97, 97, 115, 116, 111, 114, 101]), .lit (.string [99, 104, 101, 99, 107, 99, 97, 115, 116]), .lit (.string [105, 110, 115, 116, 97, 110, 99, 101, 111, 102]), .lit (.string [97, 116, 104, 114, 111, 119]), .lit (.string [109, 111, 110, 105, 116, 111, 114, 101, 110, 116, 101, 114]), .lit (.string [109, 111, 110, 105, 116, 111, 114, 101, 120, 105, 116])]

/-- 'armaturelaw07.OpcodeNames': WHATEVER THE INPUT: true; the input reads as it did. -/
def opcodeNamesSpec : ChangeSpec := { name := "opcodeNames", fn := fun _ => fun
  | [d1, d2] => { results := [.lit (.bool true)], args := [d1, d2] }
  | _ => none }
def opcodeNamesRow : OpenClaim := { program := "ytlgjcjcbleiioaadoor", sum := "b2a722624a7d9a40ed904905c2b358985c9a9a26fbdc2fea4e62b4f29826a573", func := "armature/armaturelaw07.OpcodeNames", spec := "opcodeNames", named := ["armature/opcode.names"], apart := false, laid := [("armature/opcode.names", laid_armature_opcode_names)] }
def OpcodeNamesSaid : Prop := opcodeNamesRow.holds Tryd.pinned (OpenSpec.ofChange opcodeNamesSpec)

/-- ITS FALSE NEIGHBOUR: 'it returns false'. Refute it at one input. -/
def opcodeNamesWrong : ChangeSpec := { name := "opcodeNames", fn := fun _ => fun
  | [d1, d2] => { results := [.lit (.bool false)], args := [d1, d2] }
  | _ => none }
def OpcodeNamesWrongFalsely : Prop := opcodeNamesRow.holds Tryd.pinned (OpenSpec.ofChange opcodeNamesWrong)

/-- 'armaturelaw07.OpcodeOperands': WHATEVER THE INPUT: true; the input reads as it did. -/
def opcodeOperandsSpec : ChangeSpec := { name := "opcodeOperands", fn := fun _ => fun
  | [d] => { results := [.lit (.bool true)], args := [d] }
  | _ => none }
def opcodeOperandsRow : OpenClaim := { program := "ytlgjcjcbleiioaadoor", sum := "b2a722624a7d9a40ed904905c2b358985c9a9a26fbdc2fea4e62b4f29826a573", func := "armature/armaturelaw07.OpcodeOperands", spec := "opcodeOperands", named := ["armature/opcode.names"], apart := false, laid := [("armature/opcode.names", laid_armature_opcode_names)] }
def OpcodeOperandsSaid : Prop := opcodeOperandsRow.holds Tryd.pinned (OpenSpec.ofChange opcodeOperandsSpec)

/-- ITS FALSE NEIGHBOUR: 'it returns false'. Refute it at one input. -/
def opcodeOperandsWrong : ChangeSpec := { name := "opcodeOperands", fn := fun _ => fun
  | [d] => { results := [.lit (.bool false)], args := [d] }
  | _ => none }
def OpcodeOperandsWrongFalsely : Prop := opcodeOperandsRow.holds Tryd.pinned (OpenSpec.ofChange opcodeOperandsWrong)

/-- 'armaturelaw07.OpcodeUniqueNames': WHATEVER THE INPUT: true; the input reads as it did. -/
def opcodeUniqueNamesSpec : ChangeSpec := { name := "opcodeUniqueNames", fn := fun _ => fun
  | [d1, d2] => { results := [.lit (.bool true)], args := [d1, d2] }
  | _ => none }
def opcodeUniqueNamesRow : OpenClaim := { program := "ytlgjcjcbleiioaadoor", sum := "b2a722624a7d9a40ed904905c2b358985c9a9a26fbdc2fea4e62b4f29826a573", func := "armature/armaturelaw07.OpcodeUniqueNames", spec := "opcodeUniqueNames", named := ["armature/opcode.names"], apart := false, laid := [("armature/opcode.names", laid_armature_opcode_names)] }
def OpcodeUniqueNamesSaid : Prop := opcodeUniqueNamesRow.holds Tryd.pinned (OpenSpec.ofChange opcodeUniqueNamesSpec)

/-- ITS FALSE NEIGHBOUR: 'it returns false'. Refute it at one input. -/
def opcodeUniqueNamesWrong : ChangeSpec := { name := "opcodeUniqueNames", fn := fun _ => fun
  | [d1, d2] => { results := [.lit (.bool false)], args := [d1, d2] }
  | _ => none }
def OpcodeUniqueNamesWrongFalsely : Prop := opcodeUniqueNamesRow.holds Tryd.pinned (OpenSpec.ofChange opcodeUniqueNamesWrong)

/-- 'armaturelaw07.OpcodeConsistency': WHATEVER THE INPUT: true; the input reads as it did. -/
def opcodeConsistencySpec : ChangeSpec := { name := "opcodeConsistency", fn := fun _ => fun
  | [d] => { results := [.lit (.bool true)], args := [d] }
  | _ => none }
def opcodeConsistencyRow : OpenClaim := { program := "ytlgjcjcbleiioaadoor", sum := "b2a722624a7d9a40ed904905c2b358985c9a9a26fbdc2fea4e62b4f29826a573", func := "armature/armaturelaw07.OpcodeConsistency", spec := "opcodeConsistency", named := ["armature/opcode.names"], apart := false, laid := [("armature/opcode.names", laid_armature_opcode_names)] }
def OpcodeConsistencySaid : Prop := opcodeConsistencyRow.holds Tryd.pinned (OpenSpec.ofChange opcodeConsistencySpec)

/-- ITS FALSE NEIGHBOUR: 'it returns false'. Refute it at one input. -/
def opcodeConsistencyWrong : ChangeSpec := { name := "opcodeConsistency", fn := fun _ => fun
  | [d] => { results := [.lit (.bool false)], args := [d] }
  | _ => none }
def OpcodeConsistencyWrongFalsely : Prop := opcodeConsistencyRow.holds Tryd.pinned (OpenSpec.ofChange opcodeConsistencyWrong)

/- THE SECOND FORM. 'bulk': how many values and letters a reading holds, each counted each time it is reached (what is shared counts as often as it is met; a slice's spare places count too). A statement '..UptoSaid' is the law's where the arguments, and the package variables that the reading takes, are together of bulk at most 1048576: NARROWER than '..Said'. Prove '..Said' where nothing that the law and all that it calls make is longer than what came in: it says more and counts as full. Else prove '..UptoSaid'. A law counts once. -/
mutual
def uptoBulk {H : Type} : DataW H → Nat
  | .lit (.string bytes) => bytes.length + 1
  | .lit _ => 1
  | .nil => 1
  | .ptr d => uptoBulk d + 1
  | .slice elems spare => uptoBulkAll elems + uptoBulkAll spare + 1
  | .agg parts => uptoBulkAll parts + 1
  | .iface _ d => uptoBulk d + 1
  | .map entries => uptoBulkEntries entries + 1
  | .held _ => 1
def uptoBulkAll {H : Type} : List (DataW H) → Nat
  | [] => 0
  | d :: r => uptoBulk d + uptoBulkAll r
def uptoBulkEntries {H : Type} : List (Lit × DataW H) → Nat
  | [] => 0
  | x :: r => uptoBulkEntry x + uptoBulkEntries r
def uptoBulkEntry {H : Type} : Lit × DataW H → Nat
  | (.string bytes, d) => bytes.length + uptoBulk d + 1
  | (_, d) => uptoBulk d + 1
 end
def uptoSmall : (H : Type) → List (DataW H) → Bool := fun _ ds => decide (uptoBulkAll ds ≤ 1048576)
def OpenSpec.upto (s : _root_.Go.ChangeSpec) : _root_.Go.OpenSpec := { _root_.Go.OpenSpec.ofChange s with cond := some uptoSmall }

/-- 'armaturelaw07.OpcodeNames', WHERE WHAT IT READS IS OF BULK AT MOST 1048576: true; the input reads as it did. -/
def opcodeNamesUptoRow : OpenClaim := { program := "ytlgjcjcbleiioaadoor", sum := "b2a722624a7d9a40ed904905c2b358985c9a9a26fbdc2fea4e62b4f29826a573", func := "armature/armaturelaw07.OpcodeNames", spec := "opcodeNames", named := ["armature/opcode.names"], apart := false, laid := [("armature/opcode.names", laid_armature_opcode_names)], narrowed := true }
def OpcodeNamesUptoSaid : Prop := opcodeNamesUptoRow.holds Tryd.pinned (OpenSpec.upto opcodeNamesSpec)

/-- 'armaturelaw07.OpcodeOperands', WHERE WHAT IT READS IS OF BULK AT MOST 1048576: true; the input reads as it did. -/
def opcodeOperandsUptoRow : OpenClaim := { program := "ytlgjcjcbleiioaadoor", sum := "b2a722624a7d9a40ed904905c2b358985c9a9a26fbdc2fea4e62b4f29826a573", func := "armature/armaturelaw07.OpcodeOperands", spec := "opcodeOperands", named := ["armature/opcode.names"], apart := false, laid := [("armature/opcode.names", laid_armature_opcode_names)], narrowed := true }
def OpcodeOperandsUptoSaid : Prop := opcodeOperandsUptoRow.holds Tryd.pinned (OpenSpec.upto opcodeOperandsSpec)

/-- 'armaturelaw07.OpcodeUniqueNames', WHERE WHAT IT READS IS OF BULK AT MOST 1048576: true; the input reads as it did. -/
def opcodeUniqueNamesUptoRow : OpenClaim := { program := "ytlgjcjcbleiioaadoor", sum := "b2a722624a7d9a40ed904905c2b358985c9a9a26fbdc2fea4e62b4f29826a573", func := "armature/armaturelaw07.OpcodeUniqueNames", spec := "opcodeUniqueNames", named := ["armature/opcode.names"], apart := false, laid := [("armature/opcode.names", laid_armature_opcode_names)], narrowed := true }
def OpcodeUniqueNamesUptoSaid : Prop := opcodeUniqueNamesUptoRow.holds Tryd.pinned (OpenSpec.upto opcodeUniqueNamesSpec)

/-- 'armaturelaw07.OpcodeConsistency', WHERE WHAT IT READS IS OF BULK AT MOST 1048576: true; the input reads as it did. -/
def opcodeConsistencyUptoRow : OpenClaim := { program := "ytlgjcjcbleiioaadoor", sum := "b2a722624a7d9a40ed904905c2b358985c9a9a26fbdc2fea4e62b4f29826a573", func := "armature/armaturelaw07.OpcodeConsistency", spec := "opcodeConsistency", named := ["armature/opcode.names"], apart := false, laid := [("armature/opcode.names", laid_armature_opcode_names)], narrowed := true }
def OpcodeConsistencyUptoSaid : Prop := opcodeConsistencyUptoRow.holds Tryd.pinned (OpenSpec.upto opcodeConsistencySpec)

end Rows
end Go.Proofs.YtlgjcjcbleiioaaDoor
