/- The last slash; Package, SimpleName, Join, HasPrefix, IsMemberName, in the package and in its reference. -/
import Derived.Test.YtfpdnhbbbadegaaDoorNameCls
namespace Go.Proofs.YtfpdnhbbbadegaaDoor
open Go.ChangeShapes Go.WideShapes Go.ChangeAt Go.RowKit Go.PlainAid
set_option linter.unusedSimpArgs false
set_option linter.unusedVariables false

def lastFrom (s : ByteArray) : Nat → Int
  | 0 => -1
  | k + 1 => if bt s k = 47 then k else lastFrom s k
def lastI (s : ByteArray) : Int := lastFrom s s.size
theorem last_hit (s : ByteArray) (k : Nat) (h : bt s k = 47) : lastFrom s (k + 1) = k := by rw [lastFrom, if_pos h]
theorem last_miss (s : ByteArray) (k : Nat) (h : bt s k ≠ 47) : lastFrom s (k + 1) = lastFrom s k := by rw [lastFrom, if_neg h]

theorem lastFrom_bd (s : ByteArray) : ∀ k, -1 ≤ lastFrom s k ∧ lastFrom s k < k
  | 0 => ⟨Int.le_refl _, by show (-1 : Int) < 0; decide⟩
  | k + 1 => by
    have := lastFrom_bd s k
    unfold lastFrom
    split <;> omega
theorem lastI_cases (s : ByteArray) : lastI s = -1 ∨ ∃ k : Nat, lastI s = k ∧ k < s.size := by
  have := lastFrom_bd s s.size
  unfold lastI
  by_cases h : lastFrom s s.size = -1
  · exact .inl h
  · exact .inr ⟨(lastFrom s s.size).toNat, by omega, by omega⟩

def pkgB (s : ByteArray) : ByteArray := s.extract 0 (lastI s).toNat
def simB (s : ByteArray) : ByteArray := s.extract (lastI s + 1).toNat s.size

theorem extract_all (s : ByteArray) : s.extract 0 s.size = s := ba_ext (by rw [data_extract, List.drop_zero, Nat.sub_zero, List.take_of_length_le (by rw [len_data]; exact Nat.le_refl _)])
def joinB (p l : ByteArray) : ByteArray := bif p.toList.isEmpty then l else p ++ ⟨#[47]⟩ ++ l
def memB (s : ByteArray) : Bool := (s.toList == [60, 105, 110, 105, 116, 62] || s.toList == [60, 99, 108, 105, 110, 105, 116, 62]) || decide (s.size ≤ 64) && idB s
def pfxB (s p : ByteArray) : Bool := decide (p.size ≤ s.size) && (s.extract 0 p.size).toList == p.toList
theorem spfx_any (s p : ByteArray) (hs : s.size ≤ 9223372036854775807) (w : World) :
    Calls Tryd.prog 22 #[.string s, .string p] w fun e w' => e = .returned (.bool (pfxB s p)) ∧ w = w' := by
  by_cases h : p.size ≤ s.size
  · go_enter Tryd.func22, Tryd.ntmps22
    go_wp2
    go_ret
    exact ⟨ret_bool (by unfold pfxB; rw [decide_eq_true h]; rfl), rfl⟩
  · go_enter Tryd.func22, Tryd.ntmps22
    go_wp2
    go_ret
    exact ⟨ret_bool (by unfold pfxB; rw [decide_eq_false h]; rfl), rfl⟩

end Go.Proofs.YtfpdnhbbbadegaaDoor
