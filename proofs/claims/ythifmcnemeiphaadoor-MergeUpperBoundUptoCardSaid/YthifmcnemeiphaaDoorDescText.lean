/- Layer 4: the text of a valid type. -/
import Derived.Test.YthifmcnemeiphaaDoorDescKind
import Derived.Test.YthifmcnemeiphaaDoorShelf
namespace Go.Proofs.YthifmcnemeiphaaDoor
open Go.ChangeShapes Go.WideShapes Go.ChangeAt Go.RowKit Go.PlainAid
set_option linter.unusedSimpArgs false
set_option linter.unusedVariables false

def bars (k : Nat) : ByteArray := ⟨(List.replicate k 91).toArray⟩
theorem repeat_bars (k : Nat) (hk : k ≤ 8) (w : World) :
    Calls Tryd.prog 115 #[.string ⟨#[91]⟩, .int .i64 k] w fun e w' => e = .returned (.string (bars k)) ∧ Below w.heap.size w w' := by
  refine (Tryd.strings_Repeat ⟨#[91]⟩ k w (by omega) (by show 1 * k ≤ _; omega)).mono ?_
  rintro e w1 ⟨rfl, hb⟩
  refine ⟨?_, hb⟩
  rcases (by omega : k = 0 ∨ k = 1 ∨ k = 2 ∨ k = 3 ∨ k = 4 ∨ k = 5 ∨ k = 6 ∨ k = 7 ∨ k = 8) with rfl | rfl | rfl | rfl | rfl | rfl | rfl | rfl | rfl <;> rfl

theorem undrew {W w1 : World} (h : Below W.drew.heap.size W.drew w1) : Below W.heap.size W w1 := ((Below.refl W.heap.size W).drew).trans h
theorem bars_size (k : Nat) : (bars k).size = k := by unfold bars; show (List.replicate k (91 : UInt8)).toArray.size = k; simp

/-- the text of a type -/
def txt (d b : Int) (n : ByteArray) : ByteArray := if b = 76 then bars d.toNat ++ ⟨#[76]⟩ ++ (n ++ ⟨#[59]⟩) else bars d.toNat ++ ⟨#[b.toNat.toUInt8]⟩

theorem text_i (k : Nat) (hk : k ≤ 8) (n : ByteArray) (w : World) :
    Calls Tryd.prog 98 #[.agg #[.int .i64 k, .int .u8 73, .string n]] w fun e w' => e = .returned (.string (bars k ++ ⟨#[73]⟩)) ∧ Below w.heap.size w w' := by
  have hB : Below w.heap.size w w := Below.refl _ _
  have hz : (bars k).size ≤ 8 := by rw [bars_size]; omega
  have hz2 : ¬ (9223372036854775807 < (bars k).size + 1) := by omega
  go_enter Tryd.func98, Tryd.ntmps98
  go_wp2
  go_region_with (go_at_call 115; refine (repeat_bars k hk _).mono ?_; rintro e w1 ⟨rfl, hb0⟩; have hb1 := undrew hb0; clear hb0; have k1 := one_box hb1; obtain ⟨c0, c1, c2, f0, f1, f2⟩ := three_cells k1; replace hB := Below.trans (below_al hB _) (hb1.mono (below_al hB _).size); clear hb1 k1)
  all_goals go_wp2
  all_goals go_ret
  all_goals exact ⟨rfl, hB⟩

theorem text_j (k : Nat) (hk : k ≤ 8) (n : ByteArray) (w : World) :
    Calls Tryd.prog 98 #[.agg #[.int .i64 k, .int .u8 74, .string n]] w fun e w' => e = .returned (.string (bars k ++ ⟨#[74]⟩)) ∧ Below w.heap.size w w' := by
  have hB : Below w.heap.size w w := Below.refl _ _
  have hz : (bars k).size ≤ 8 := by rw [bars_size]; omega
  have hz2 : ¬ (9223372036854775807 < (bars k).size + 1) := by omega
  go_enter Tryd.func98, Tryd.ntmps98
  go_wp2
  go_region_with (go_at_call 115; refine (repeat_bars k hk _).mono ?_; rintro e w1 ⟨rfl, hb0⟩; have hb1 := undrew hb0; clear hb0; have k1 := one_box hb1; obtain ⟨c0, c1, c2, f0, f1, f2⟩ := three_cells k1; replace hB := Below.trans (below_al hB _) (hb1.mono (below_al hB _).size); clear hb1 k1)
  all_goals go_wp2
  all_goals go_ret
  all_goals exact ⟨rfl, hB⟩

theorem text_v (k : Nat) (hk : k ≤ 8) (n : ByteArray) (w : World) :
    Calls Tryd.prog 98 #[.agg #[.int .i64 k, .int .u8 86, .string n]] w fun e w' => e = .returned (.string (bars k ++ ⟨#[86]⟩)) ∧ Below w.heap.size w w' := by
  have hB : Below w.heap.size w w := Below.refl _ _
  have hz : (bars k).size ≤ 8 := by rw [bars_size]; omega
  have hz2 : ¬ (9223372036854775807 < (bars k).size + 1) := by omega
  go_enter Tryd.func98, Tryd.ntmps98
  go_wp2
  go_region_with (go_at_call 115; refine (repeat_bars k hk _).mono ?_; rintro e w1 ⟨rfl, hb0⟩; have hb1 := undrew hb0; clear hb0; have k1 := one_box hb1; obtain ⟨c0, c1, c2, f0, f1, f2⟩ := three_cells k1; replace hB := Below.trans (below_al hB _) (hb1.mono (below_al hB _).size); clear hb1 k1)
  all_goals go_wp2
  all_goals go_ret
  all_goals exact ⟨rfl, hB⟩

theorem text_l (k : Nat) (hk : k ≤ 8) (n : ByteArray) (hn : n.size ≤ 140737488355328) (w : World) :
    Calls Tryd.prog 98 #[.agg #[.int .i64 k, .int .u8 76, .string n]] w fun e w' => e = .returned (.string (bars k ++ ⟨#[76]⟩ ++ (n ++ ⟨#[59]⟩))) ∧ Below w.heap.size w w' := by
  have hB : Below w.heap.size w w := Below.refl _ _
  have hz : (bars k).size ≤ 8 := by rw [bars_size]; omega
  have hz2 : ¬ (9223372036854775807 < (bars k).size + 1) := by omega
  have hz3 : ¬ (9223372036854775807 < n.size + 1) := by omega
  have hz4 : ¬ (9223372036854775807 < (bars k).size + 1 + (n.size + 1)) := by omega
  go_enter Tryd.func98, Tryd.ntmps98
  go_wp2
  go_region_with (go_at_call 115; refine (repeat_bars k hk _).mono ?_; rintro e w1 ⟨rfl, hb0⟩; have hb1 := undrew hb0; clear hb0; have k1 := one_box hb1; obtain ⟨c0, c1, c2, f0, f1, f2⟩ := three_cells k1; replace hB := Below.trans (below_al hB _) (hb1.mono (below_al hB _).size); clear hb1 k1)
  all_goals go_wp2
  all_goals go_ret
  all_goals exact ⟨rfl, hB⟩

theorem text_any (d b : Int) (n : ByteArray) (hv : validB d b n = true) (hn : n.size ≤ 140737488355328) (w : World) :
    Calls Tryd.prog 98 #[.agg #[.int .i64 d, .int .u8 b, .string n]] w fun e w' => e = .returned (.string (txt d b n)) ∧ Below w.heap.size w w' := by
  have h := valid_base hv
  have hd := valid_bd hv
  obtain ⟨k, rfl⟩ := Int.eq_ofNat_of_zero_le hd.1
  have hk : k ≤ 8 := by omega
  rcases h with rfl | rfl | rfl | rfl
  · exact text_i k hk n w
  · exact text_j k hk n w
  · exact text_l k hk n hn w
  · exact text_v k hk n w

end Go.Proofs.YthifmcnemeiphaaDoor
