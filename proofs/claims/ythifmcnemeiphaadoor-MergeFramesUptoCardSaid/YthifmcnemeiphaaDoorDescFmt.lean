/- Layer 4: Format and FormatClassConstant, in the package and in its reference. -/
import Derived.Test.YthifmcnemeiphaaDoorDescText
namespace Go.Proofs.YthifmcnemeiphaaDoor
open Go.ChangeShapes Go.WideShapes Go.ChangeAt Go.RowKit Go.PlainAid
set_option linter.unusedSimpArgs false
set_option linter.unusedVariables false

theorem notF {b : Bool} (h : (!b) = false) : b = true := by cases b <;> simp_all
theorem beqT {a b : Int} (h : (a == b) = true) : a = b := by simpa using h
theorem beqN {a b : Int} (h : (a == b) = false) : ¬ a = b := by simpa using h
theorem bneT {a b : Int} (h : (a != b) = true) : ¬ a = b := by simpa using h
theorem bneF {a b : Int} (h : (a != b) = false) : a = b := by simpa using h
theorem notT {b : Bool} (h : (!b) = true) : b = false := by cases b <;> simp_all

def fmE (d b : Int) (n : ByteArray) : Int := if validB d b n = true then 0 else 13
def fmS (d b : Int) (n : ByteArray) : ByteArray := if validB d b n = true then txt d b n else ⟨#[]⟩
theorem fm_ok {d b : Int} {n : ByteArray} (h : validB d b n = true) : fmS d b n = txt d b n ∧ fmE d b n = 0 := by unfold fmS fmE; rw [if_pos h, if_pos h]; exact ⟨rfl, rfl⟩
theorem fm_bad {d b : Int} {n : ByteArray} (h : validB d b n = false) : fmS d b n = ⟨#[]⟩ ∧ fmE d b n = 13 := by unfold fmS fmE; rw [h]; exact ⟨rfl, rfl⟩

theorem fmt_any (d b : Int) (n : ByteArray) (hn : n.size ≤ 140737488355328) (w : World) :
    Calls Tryd.prog 71 #[.agg #[.int .i64 d, .int .u8 b, .string n]] w fun e w' => e = .returned (.tuple #[.string (fmS d b n), .int .i64 (fmE d b n)]) ∧ Below w.heap.size w w' := by
  have hB : Below w.heap.size w w := Below.refl _ _
  go_enter Tryd.func71, Tryd.ntmps71
  go_wp2_with (first | (go_at_call 65; refine (valid_any _ _ _ _).mono ?_; rintro e w1 ⟨rfl, hb1⟩; have k1 := one_box hb1; obtain ⟨c0, c1, c2, f0, f1, f2⟩ := three_cells k1; replace hB := Below.trans (below_al hB _) (hb1.mono (below_al hB _).size); clear hb1 k1) | (go_at_call 98; refine (text_any _ _ _ (notF (by assumption)) hn _).mono ?_; rintro e w1 ⟨rfl, hb1⟩; replace hB := Below.trans hB (hb1.mono hB.size); clear hb1))
  all_goals go_ret2
  · have g := fm_bad (notT (b := validB d b n) (by assumption)); exact ⟨by rw [g.1, g.2]; rfl, hB⟩
  · have g := fm_ok (notF (b := validB d b n) (by assumption)); exact ⟨by rw [g.1, g.2]; rfl, hB⟩

def fcE (d b : Int) (n : ByteArray) : Int := if validB d b n = true then if 0 < d ∨ b = 76 then 0 else 1 else 13
def fcS (d b : Int) (n : ByteArray) : ByteArray := if validB d b n = true then if 0 < d then txt d b n else if b = 76 then n else ⟨#[]⟩ else ⟨#[]⟩
theorem fc_bad {d b : Int} {n : ByteArray} (h : validB d b n = false) : fcS d b n = ⟨#[]⟩ ∧ fcE d b n = 13 := by unfold fcS fcE; rw [h]; exact ⟨rfl, rfl⟩
theorem fc_arr {d b : Int} {n : ByteArray} (h : validB d b n = true) (h0 : 0 < d) : fcS d b n = txt d b n ∧ fcE d b n = 0 := by unfold fcS fcE; rw [if_pos h, if_pos h, if_pos h0, if_pos (Or.inl h0)]; exact ⟨rfl, rfl⟩
theorem fc_cls {d b : Int} {n : ByteArray} (h : validB d b n = true) (h0 : ¬ 0 < d) (hb : b = 76) : fcS d b n = n ∧ fcE d b n = 0 := by unfold fcS fcE; rw [if_pos h, if_pos h, if_neg h0, if_pos hb, if_pos (Or.inr hb)]; exact ⟨rfl, rfl⟩
theorem fc_prim {d b : Int} {n : ByteArray} (h : validB d b n = true) (h0 : ¬ 0 < d) (hb : ¬ b = 76) : fcS d b n = ⟨#[]⟩ ∧ fcE d b n = 1 := by unfold fcS fcE; rw [if_pos h, if_pos h, if_neg h0, if_neg hb, if_neg (by omega)]; exact ⟨rfl, rfl⟩

theorem bars_succ (k : Nat) : bars k ++ ⟨#[91]⟩ = bars (k + 1) := by
  apply ByteArray.ext
  unfold bars
  rw [ByteArray.data_append]
  apply Array.ext'
  simp [List.replicate_succ']

set_option maxHeartbeats 400000 in
theorem rfmt_i (k : Nat) (n : ByteArray) (hv : validB k 73 n = true) (hn : n.size ≤ 140737488355328) (w : World) :
    Calls Tryd.prog 73 #[.agg #[.int .i64 k, .int .u8 73, .string n]] w fun e w' => e = .returned (.tuple #[.string (bars k ++ ⟨#[73]⟩), .int .i64 0]) ∧ Below w.heap.size w w' := by
  have hB : Below w.heap.size w w := Below.refl _ _
  have hd := valid_bd hv
  have hk : k ≤ 8 := by omega
  go_enter Tryd.func73, Tryd.ntmps73
  go_wp2_with (go_at_call 67; refine (rvalid_any _ _ _ (by omega) _).mono ?_; rintro e w1 ⟨rfl, hb1⟩; have k1 := one_box hb1; obtain ⟨c0, c1, c2, f0, f1, f2⟩ := three_cells k1; replace hB := Below.trans (below_al hB _) (hb1.mono (below_al hB _).size); clear hb1 k1)
  go_loop [4, 5] (fun s i => ∃ j : Nat, j ≤ k ∧ i = .int .i64 j ∧ s = .string (bars j)) (fun _ i => (k - (intOf i).toNat))
  case atStart => exact ⟨0, Nat.zero_le _, rfl, rfl⟩
  case round =>
    obtain ⟨j, hj, rfl, rfl⟩ := hrel
    have hz := bars_size j
    have hz1 : (bars j).size ≤ 8 := by omega
    have hz2 : ¬ (9223372036854775807 < (bars j).size + 1) := by omega
    have hz3 : ¬ (9223372036854775807 < (bars j).size + 1 + n.size) := by omega
    have hz4 : ¬ (9223372036854775807 < (bars j).size + 1 + n.size + 1) := by omega
    clear hz
    by_cases hlt : j < k
    · go_wp2
      go_round
      case rel => exact ⟨j + 1, by omega, by go_num, by rw [← bars_succ]⟩
      case measure => simp [intOf]; omega
    · obtain rfl : j = k := by omega
      go_wp2
      go_ret2
      exact ⟨rfl, hB⟩

set_option maxHeartbeats 400000 in
theorem rfmt_j (k : Nat) (n : ByteArray) (hv : validB k 74 n = true) (hn : n.size ≤ 140737488355328) (w : World) :
    Calls Tryd.prog 73 #[.agg #[.int .i64 k, .int .u8 74, .string n]] w fun e w' => e = .returned (.tuple #[.string (bars k ++ ⟨#[74]⟩), .int .i64 0]) ∧ Below w.heap.size w w' := by
  have hB : Below w.heap.size w w := Below.refl _ _
  have hd := valid_bd hv
  have hk : k ≤ 8 := by omega
  go_enter Tryd.func73, Tryd.ntmps73
  go_wp2_with (go_at_call 67; refine (rvalid_any _ _ _ (by omega) _).mono ?_; rintro e w1 ⟨rfl, hb1⟩; have k1 := one_box hb1; obtain ⟨c0, c1, c2, f0, f1, f2⟩ := three_cells k1; replace hB := Below.trans (below_al hB _) (hb1.mono (below_al hB _).size); clear hb1 k1)
  go_loop [4, 5] (fun s i => ∃ j : Nat, j ≤ k ∧ i = .int .i64 j ∧ s = .string (bars j)) (fun _ i => (k - (intOf i).toNat))
  case atStart => exact ⟨0, Nat.zero_le _, rfl, rfl⟩
  case round =>
    obtain ⟨j, hj, rfl, rfl⟩ := hrel
    have hz := bars_size j
    have hz1 : (bars j).size ≤ 8 := by omega
    have hz2 : ¬ (9223372036854775807 < (bars j).size + 1) := by omega
    have hz3 : ¬ (9223372036854775807 < (bars j).size + 1 + n.size) := by omega
    have hz4 : ¬ (9223372036854775807 < (bars j).size + 1 + n.size + 1) := by omega
    clear hz
    by_cases hlt : j < k
    · go_wp2
      go_round
      case rel => exact ⟨j + 1, by omega, by go_num, by rw [← bars_succ]⟩
      case measure => simp [intOf]; omega
    · obtain rfl : j = k := by omega
      go_wp2
      go_ret2
      exact ⟨rfl, hB⟩

set_option maxHeartbeats 400000 in
theorem rfmt_v (k : Nat) (n : ByteArray) (hv : validB k 86 n = true) (hn : n.size ≤ 140737488355328) (w : World) :
    Calls Tryd.prog 73 #[.agg #[.int .i64 k, .int .u8 86, .string n]] w fun e w' => e = .returned (.tuple #[.string (bars k ++ ⟨#[86]⟩), .int .i64 0]) ∧ Below w.heap.size w w' := by
  have hB : Below w.heap.size w w := Below.refl _ _
  have hd := valid_bd hv
  have hk : k ≤ 8 := by omega
  go_enter Tryd.func73, Tryd.ntmps73
  go_wp2_with (go_at_call 67; refine (rvalid_any _ _ _ (by omega) _).mono ?_; rintro e w1 ⟨rfl, hb1⟩; have k1 := one_box hb1; obtain ⟨c0, c1, c2, f0, f1, f2⟩ := three_cells k1; replace hB := Below.trans (below_al hB _) (hb1.mono (below_al hB _).size); clear hb1 k1)
  go_loop [4, 5] (fun s i => ∃ j : Nat, j ≤ k ∧ i = .int .i64 j ∧ s = .string (bars j)) (fun _ i => (k - (intOf i).toNat))
  case atStart => exact ⟨0, Nat.zero_le _, rfl, rfl⟩
  case round =>
    obtain ⟨j, hj, rfl, rfl⟩ := hrel
    have hz := bars_size j
    have hz1 : (bars j).size ≤ 8 := by omega
    have hz2 : ¬ (9223372036854775807 < (bars j).size + 1) := by omega
    have hz3 : ¬ (9223372036854775807 < (bars j).size + 1 + n.size) := by omega
    have hz4 : ¬ (9223372036854775807 < (bars j).size + 1 + n.size + 1) := by omega
    clear hz
    by_cases hlt : j < k
    · go_wp2
      go_round
      case rel => exact ⟨j + 1, by omega, by go_num, by rw [← bars_succ]⟩
      case measure => simp [intOf]; omega
    · obtain rfl : j = k := by omega
      go_wp2
      go_ret2
      exact ⟨rfl, hB⟩

set_option maxHeartbeats 400000 in
theorem rfmt_l (k : Nat) (n : ByteArray) (hv : validB k 76 n = true) (hn : n.size ≤ 140737488355328) (w : World) :
    Calls Tryd.prog 73 #[.agg #[.int .i64 k, .int .u8 76, .string n]] w fun e w' => e = .returned (.tuple #[.string (bars k ++ ⟨#[76]⟩ ++ (n ++ ⟨#[59]⟩)), .int .i64 0]) ∧ Below w.heap.size w w' := by
  have hB : Below w.heap.size w w := Below.refl _ _
  have hd := valid_bd hv
  have hk : k ≤ 8 := by omega
  go_enter Tryd.func73, Tryd.ntmps73
  go_wp2_with (go_at_call 67; refine (rvalid_any _ _ _ (by omega) _).mono ?_; rintro e w1 ⟨rfl, hb1⟩; have k1 := one_box hb1; obtain ⟨c0, c1, c2, f0, f1, f2⟩ := three_cells k1; replace hB := Below.trans (below_al hB _) (hb1.mono (below_al hB _).size); clear hb1 k1)
  go_loop [4, 5] (fun s i => ∃ j : Nat, j ≤ k ∧ i = .int .i64 j ∧ s = .string (bars j)) (fun _ i => (k - (intOf i).toNat))
  case atStart => exact ⟨0, Nat.zero_le _, rfl, rfl⟩
  case round =>
    obtain ⟨j, hj, rfl, rfl⟩ := hrel
    have hz := bars_size j
    have hz1 : (bars j).size ≤ 8 := by omega
    have hz2 : ¬ (9223372036854775807 < (bars j).size + 1) := by omega
    have hz3 : ¬ (9223372036854775807 < (bars j).size + 1 + n.size) := by omega
    have hz4 : ¬ (9223372036854775807 < (bars j).size + 1 + n.size + 1) := by omega
    clear hz
    by_cases hlt : j < k
    · go_wp2
      go_round
      case rel => exact ⟨j + 1, by omega, by go_num, by rw [← bars_succ]⟩
      case measure => simp [intOf]; omega
    · obtain rfl : j = k := by omega
      go_wp2
      go_ret2
      exact ⟨by rw [← ByteArray.append_assoc]; rfl, hB⟩

theorem rfmt_bad (d b : Int) (n : ByteArray) (hv : validB d b n = false) (hn : n.size ≤ 140737488355328) (w : World) :
    Calls Tryd.prog 73 #[.agg #[.int .i64 d, .int .u8 b, .string n]] w fun e w' => e = .returned (.tuple #[.string ⟨#[]⟩, .int .i64 13]) ∧ Below w.heap.size w w' := by
  have hB : Below w.heap.size w w := Below.refl _ _
  go_enter Tryd.func73, Tryd.ntmps73
  go_wp2_with (go_at_call 67; refine (rvalid_any _ _ _ (by omega) _).mono ?_; rintro e w1 ⟨rfl, hb1⟩; have k1 := one_box hb1; obtain ⟨c0, c1, c2, f0, f1, f2⟩ := three_cells k1; replace hB := Below.trans (below_al hB _) (hb1.mono (below_al hB _).size); clear hb1 k1)
  go_ret2
  exact ⟨rfl, hB⟩

theorem rfmt_any (d b : Int) (n : ByteArray) (hn : n.size ≤ 140737488355328) (w : World) :
    Calls Tryd.prog 73 #[.agg #[.int .i64 d, .int .u8 b, .string n]] w fun e w' => e = .returned (.tuple #[.string (fmS d b n), .int .i64 (fmE d b n)]) ∧ Below w.heap.size w w' := by
  cases hv : validB d b n with
  | false => have g := fm_bad hv; rw [g.1, g.2]; exact rfmt_bad d b n hv hn w
  | true =>
    have g := fm_ok hv
    rw [g.1, g.2]
    have h := valid_base hv
    have hd := valid_bd hv
    obtain ⟨k, rfl⟩ := Int.eq_ofNat_of_zero_le hd.1
    rcases h with rfl | rfl | rfl | rfl
    · exact rfmt_i k n hv hn w
    · exact rfmt_j k n hv hn w
    · exact rfmt_l k n hv hn w
    · exact rfmt_v k n hv hn w

end Go.Proofs.YthifmcnemeiphaaDoor
