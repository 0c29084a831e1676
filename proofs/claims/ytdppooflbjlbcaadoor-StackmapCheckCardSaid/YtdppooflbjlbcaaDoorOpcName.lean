/- Contracts of package opcode: the table of mnemonics, Name and Lookup; and of the reference's. (Written by wip/gen/opcname.py.) -/
import Derived.Test.YtdppooflbjlbcaaDoorOpcNum
import Derived.Laws.Rows
import Derived.Lib.Strings
namespace Go.Proofs.YtdppooflbjlbcaaDoor.I
open Go.ChangeShapes Go.WideShapes Go.ChangeAt Go.RowKit
set_option linter.unusedSimpArgs false
set_option linter.unusedVariables false

def nmL : List (List UInt8) := [[110, 111, 112], [97, 99, 111, 110, 115, 116, 110, 117, 108, 108], [112, 117, 115, 104], [108, 100, 99], [105, 108, 111, 97, 100], [108, 108, 111, 97, 100], [97, 108, 111, 97, 100], [105, 115, 116, 111, 114, 101], [108, 115, 116, 111, 114, 101], [97, 115, 116, 111, 114, 101], [105, 105, 110, 99], [112, 111, 112], [100, 117, 112], [100, 117, 112, 120, 49], [115, 119, 97, 112], [105, 97, 100, 100], [105, 115, 117, 98], [105, 109, 117, 108], [105, 100, 105, 118], [105, 114, 101, 109], [105, 110, 101, 103], [105, 115, 104, 108], [105, 115, 104, 114], [105, 117, 115, 104, 114], [105, 97, 110, 100], [105, 111, 114], [105, 120, 111, 114], [108, 97, 100, 100], [108, 115, 117, 98], [108, 109, 117, 108], [108, 100, 105, 118], [108, 114, 101, 109], [108, 110, 101, 103], [108, 99, 109, 112], [105, 50, 108], [108, 50, 105], [105, 102, 101, 113], [105, 102, 110, 101], [105, 102, 108, 116], [105, 102, 103, 101], [105, 102, 103, 116], [105, 102, 108, 101], [105, 102, 105, 99, 109, 112, 101, 113], [105, 102, 105, 99, 109, 112, 110, 101], [105, 102, 105, 99, 109, 112, 108, 116], [105, 102, 105, 99, 109, 112, 103, 101], [105, 102, 105, 99, 109, 112, 103, 116], [105, 102, 105, 99, 109, 112, 108, 101], [105, 102, 97, 99, 109, 112, 101, 113], [105, 102, 97, 99, 109, 112, 110, 101], [105, 102, 110, 117, 108, 108], [105, 102, 110, 111, 110, 110, 117, 108, 108], [103, 111, 116, 111], [116, 97, 98, 108, 101, 115, 119, 105, 116, 99, 104], [108, 111, 111, 107, 117, 112, 115, 119, 105, 116, 99, 104], [105, 114, 101, 116, 117, 114, 110], [108, 114, 101, 116, 117, 114, 110], [97, 114, 101, 116, 117, 114, 110], [114, 101, 116, 117, 114, 110], [103, 101, 116, 115, 116, 97, 116, 105, 99], [112, 117, 116, 115, 116, 97, 116, 105, 99], [103, 101, 116, 102, 105, 101, 108, 100], [112, 117, 116, 102, 105, 101, 108, 100], [105, 110, 118, 111, 107, 101, 118, 105, 114, 116, 117, 97, 108], [105, 110, 118, 111, 107, 101, 115, 112, 101, 99, 105, 97, 108], [105, 110, 118, 111, 107, 101, 115, 116, 97, 116, 105, 99], [105, 110, 118, 111, 107, 101, 105, 110, 116, 101, 114, 102, 97, 99, 101], [110, 101, 119], [110, 101, 119, 97, 114, 114, 97, 121], [97, 114, 114, 97, 121, 108, 101, 110, 103, 116, 104], [105, 97, 108, 111, 97, 100], [108, 97, 108, 111, 97, 100], [97, 97, 108, 111, 97, 100], [105, 97, 115, 116, 111, 114, 101], [108, 97, 115, 116, 111, 114, 101], [97, 97, 115, 116, 111, 114, 101], [99, 104, 101, 99, 107, 99, 97, 115, 116], [105, 110, 115, 116, 97, 110, 99, 101, 111, 102], [97, 116, 104, 114, 111, 119], [109, 111, 110, 105, 116, 111, 114, 101, 110, 116, 101, 114], [109, 111, 110, 105, 116, 111, 114, 101, 120, 105, 116]]
/-- mnemonic number k -/
def nm (k : Nat) : ByteArray := ⟨(nmL.getD k []).toArray⟩
/-- the table as the walk sees it -/
def nmA : Array Value := #[.string ⟨#[110, 111, 112]⟩, .string ⟨#[97, 99, 111, 110, 115, 116, 110, 117, 108, 108]⟩, .string ⟨#[112, 117, 115, 104]⟩, .string ⟨#[108, 100, 99]⟩, .string ⟨#[105, 108, 111, 97, 100]⟩, .string ⟨#[108, 108, 111, 97, 100]⟩, .string ⟨#[97, 108, 111, 97, 100]⟩, .string ⟨#[105, 115, 116, 111, 114, 101]⟩, .string ⟨#[108, 115, 116, 111, 114, 101]⟩, .string ⟨#[97, 115, 116, 111, 114, 101]⟩, .string ⟨#[105, 105, 110, 99]⟩, .string ⟨#[112, 111, 112]⟩, .string ⟨#[100, 117, 112]⟩, .string ⟨#[100, 117, 112, 120, 49]⟩, .string ⟨#[115, 119, 97, 112]⟩, .string ⟨#[105, 97, 100, 100]⟩, .string ⟨#[105, 115, 117, 98]⟩, .string ⟨#[105, 109, 117, 108]⟩, .string ⟨#[105, 100, 105, 118]⟩, .string ⟨#[105, 114, 101, 109]⟩, .string ⟨#[105, 110, 101, 103]⟩, .string ⟨#[105, 115, 104, 108]⟩, .string ⟨#[105, 115, 104, 114]⟩, .string ⟨#[105, 117, 115, 104, 114]⟩, .string ⟨#[105, 97, 110, 100]⟩, .string ⟨#[105, 111, 114]⟩, .string ⟨#[105, 120, 111, 114]⟩, .string ⟨#[108, 97, 100, 100]⟩, .string ⟨#[108, 115, 117, 98]⟩, .string ⟨#[108, 109, 117, 108]⟩, .string ⟨#[108, 100, 105, 118]⟩, .string ⟨#[108, 114, 101, 109]⟩, .string ⟨#[108, 110, 101, 103]⟩, .string ⟨#[108, 99, 109, 112]⟩, .string ⟨#[105, 50, 108]⟩, .string ⟨#[108, 50, 105]⟩, .string ⟨#[105, 102, 101, 113]⟩, .string ⟨#[105, 102, 110, 101]⟩, .string ⟨#[105, 102, 108, 116]⟩, .string ⟨#[105, 102, 103, 101]⟩, .string ⟨#[105, 102, 103, 116]⟩, .string ⟨#[105, 102, 108, 101]⟩, .string ⟨#[105, 102, 105, 99, 109, 112, 101, 113]⟩, .string ⟨#[105, 102, 105, 99, 109, 112, 110, 101]⟩, .string ⟨#[105, 102, 105, 99, 109, 112, 108, 116]⟩, .string ⟨#[105, 102, 105, 99, 109, 112, 103, 101]⟩, .string ⟨#[105, 102, 105, 99, 109, 112, 103, 116]⟩, .string ⟨#[105, 102, 105, 99, 109, 112, 108, 101]⟩, .string ⟨#[105, 102, 97, 99, 109, 112, 101, 113]⟩, .string ⟨#[105, 102, 97, 99, 109, 112, 110, 101]⟩, .string ⟨#[105, 102, 110, 117, 108, 108]⟩, .string ⟨#[105, 102, 110, 111, 110, 110, 117, 108, 108]⟩, .string ⟨#[103, 111, 116, 111]⟩, .string ⟨#[116, 97, 98, 108, 101, 115, 119, 105, 116, 99, 104]⟩, .string ⟨#[108, 111, 111, 107, 117, 112, 115, 119, 105, 116, 99, 104]⟩, .string ⟨#[105, 114, 101, 116, 117, 114, 110]⟩, .string ⟨#[108, 114, 101, 116, 117, 114, 110]⟩, .string ⟨#[97, 114, 101, 116, 117, 114, 110]⟩, .string ⟨#[114, 101, 116, 117, 114, 110]⟩, .string ⟨#[103, 101, 116, 115, 116, 97, 116, 105, 99]⟩, .string ⟨#[112, 117, 116, 115, 116, 97, 116, 105, 99]⟩, .string ⟨#[103, 101, 116, 102, 105, 101, 108, 100]⟩, .string ⟨#[112, 117, 116, 102, 105, 101, 108, 100]⟩, .string ⟨#[105, 110, 118, 111, 107, 101, 118, 105, 114, 116, 117, 97, 108]⟩, .string ⟨#[105, 110, 118, 111, 107, 101, 115, 112, 101, 99, 105, 97, 108]⟩, .string ⟨#[105, 110, 118, 111, 107, 101, 115, 116, 97, 116, 105, 99]⟩, .string ⟨#[105, 110, 118, 111, 107, 101, 105, 110, 116, 101, 114, 102, 97, 99, 101]⟩, .string ⟨#[110, 101, 119]⟩, .string ⟨#[110, 101, 119, 97, 114, 114, 97, 121]⟩, .string ⟨#[97, 114, 114, 97, 121, 108, 101, 110, 103, 116, 104]⟩, .string ⟨#[105, 97, 108, 111, 97, 100]⟩, .string ⟨#[108, 97, 108, 111, 97, 100]⟩, .string ⟨#[97, 97, 108, 111, 97, 100]⟩, .string ⟨#[105, 97, 115, 116, 111, 114, 101]⟩, .string ⟨#[108, 97, 115, 116, 111, 114, 101]⟩, .string ⟨#[97, 97, 115, 116, 111, 114, 101]⟩, .string ⟨#[99, 104, 101, 99, 107, 99, 97, 115, 116]⟩, .string ⟨#[105, 110, 115, 116, 97, 110, 99, 101, 111, 102]⟩, .string ⟨#[97, 116, 104, 114, 111, 119]⟩, .string ⟨#[109, 111, 110, 105, 116, 111, 114, 101, 110, 116, 101, 114]⟩, .string ⟨#[109, 111, 110, 105, 116, 111, 114, 101, 120, 105, 116]⟩]
theorem nmL_len : nmL.length = 81 := by decide
theorem nmA_size : nmA.size = 81 := by decide
theorem nmA_at : ∀ k, k < 81 → nmA[k]? = some (.string (nm k)) := by
  intro k hk
  have : nmA = ((List.range 81).map fun k => Value.string (nm k)).toArray := by rfl
  rw [this]; simp [hk]
theorem run_index_agg {P : Program} {w : World} (t e : TypeId) (n : Nat) (cs : Array Value) (i : Nat) (v : Value) (h : P.underlying t = some (.array n e)) (he : P.underlying e = some .string) (hi : i < n) (hv : cs[i]? = some v) (hs : (P.info? e).map (·.size) = some 1) :
    (Instr.index t (.agg cs) (.int .i64 i)).run P w = .ok v w := by
  obtain ⟨info, hinfo, hsz⟩ : ∃ info, P.info? e = some info ∧ info.size = 1 := by
    cases hh : P.info? e with
    | none => rw [hh] at hs; cases hs
    | some x => rw [hh] at hs; exact ⟨x, rfl, by simpa using hs⟩
  have hb : (0 ≤ (i : Int) ∧ (i : Int) < (n : Int)) := by omega
  simp [Instr.index, run_underlying h, asIntOf, hb, part, sizeOf, typeInfo, hinfo, hsz, isAgg, run_underlying he, hv, go_sem]
  exact fun hc => absurd hi (by omega)

/-- the mnemonic of an opcode -/
def nameS (o : Int) : ByteArray := if 0 ≤ o ∧ o ≤ 80 then nm o.toNat else ⟨#[]⟩

/-- the first number whose mnemonic is s -/
def lookK (s : ByteArray) : Option Nat := (List.range 81).find? fun j => (nm j).toList == s.toList
def lookV (s : ByteArray) : Int := match lookK s with | some j => j | none => 0
def lookB (s : ByteArray) : Bool := match lookK s with | some _ => true | none => false
theorem look_hit (s : ByteArray) (k : Nat) (hk : k < 81) (h : ((nm k).toList == s.toList) = true) (hb : ∀ j, j < k → ((nm j).toList == s.toList) = false) : lookK s = some k := by
  unfold lookK
  rw [List.find?_range_eq_some]
  refine ⟨h, by simpa using hk, fun j hj => by simp [hb j hj]⟩
theorem look_miss (s : ByteArray) (hb : ∀ j, j < 81 → ((nm j).toList == s.toList) = false) : lookK s = none := by
  unfold lookK
  rw [List.find?_range_eq_none]
  intro j hj
  simp [hb j hj]
theorem ret_ib {k : IntKind} {a b : Int} {c d : Bool} (h : a = b) (h' : c = d) : Ending.returned (.tuple #[.int k a, .bool c]) = .returned (.tuple #[.int k b, .bool d]) := by rw [h, h']

end Go.Proofs.YtdppooflbjlbcaaDoor.I
