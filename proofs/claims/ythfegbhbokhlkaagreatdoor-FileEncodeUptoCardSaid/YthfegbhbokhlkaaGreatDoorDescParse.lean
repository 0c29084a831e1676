/- Layer 4: Parse, ParseClassConstant, in the package and in its reference. -/
import Derived.Test.YthfegbhbokhlkaaGreatDoorDescTake
namespace Go.Proofs.YthfegbhbokhlkaaGreatDoor
open Go.ChangeShapes Go.WideShapes Go.ChangeAt Go.RowKit Go.PlainAid
set_option linter.unusedSimpArgs false
set_option linter.unusedVariables false

def nextI (i : Nat) (n : Int) : Int := if n = 0 then -1 else i + n
theorem next_pos {i c : Nat} (h : 0 < c) : nextI i c = (i + c : Nat) := by unfold nextI; rw [if_neg (by omega)]; omega
theorem next_zero (i : Nat) : nextI i 0 = -1 := rfl
theorem take_any (s : ByteArray) (i : Nat) (hs : s.size ≤ 140737488355328) (hi : i ≤ s.size) (w : World) :
    Calls Tryz.prog 103 #[.string s, .int .i64 i] w fun e w' => e = .returned (.tuple #[.agg #[.int .i64 (preD (s.data.toList.drop i)), .int .u8 (preB (s.data.toList.drop i)), .string (preS (s.data.toList.drop i))], .int .i64 (nextI i (preN (s.data.toList.drop i)))]) ∧ Below w.heap.size w w' := by
  have hlen := drop_len s i
  have hle := lead_le (s.data.toList.drop i)
  by_cases h : lead (s.data.toList.drop i) < (s.data.toList.drop i).length
  · have hk : i + lead (s.data.toList.drop i) < s.size := by omega
    have h91 := lead_not s i hk
    have hbt := bt_drop s i (lead (s.data.toList.drop i))
    by_cases h76 : bt s (i + lead (s.data.toList.drop i)) = 76
    · by_cases ht : till ((s.data.toList.drop i).drop (lead (s.data.toList.drop i) + 1)) < ((s.data.toList.drop i).drop (lead (s.data.toList.drop i) + 1)).length
      · have hp := pre_cls h (by rw [hbt]; exact h76) ht
        rw [drop_drop'] at hp ht
        rw [name_cut] at hp
        have htt := ht
        rw [drop_len] at htt
        cases hv : validB (lead (s.data.toList.drop i)) 76 (s.extract (i + lead (s.data.toList.drop i) + 1) (i + lead (s.data.toList.drop i) + 1 + till (s.data.toList.drop (i + lead (s.data.toList.drop i) + 1)))) with
        | true =>
          rw [pre_ok hv] at hp
          obtain ⟨p1, p2, p3, p4⟩ := pre_is hp
          rw [p1, p2, p3, p4, next_pos (by omega), show i + (lead (s.data.toList.drop i) + 1 + (till (s.data.toList.drop (i + lead (s.data.toList.drop i) + 1)) + 1)) = i + lead (s.data.toList.drop i) + 1 + till (s.data.toList.drop (i + lead (s.data.toList.drop i) + 1)) + 1 by omega]
          exact take_cls_ok s i _ hs hi rfl _ hk h76 rfl (by omega) hv w
        | false =>
          rw [pre_bad hv] at hp
          obtain ⟨p1, p2, p3, p4⟩ := pre_is hp
          rw [p1, p2, p3, p4, next_zero]
          exact take_cls_bad s i _ hs hi rfl _ hk h76 rfl (by omega) hv w
      · obtain ⟨p1, p2, p3, p4⟩ := pre_is (pre_open h (by rw [hbt]; exact h76) ht)
        rw [p1, p2, p3, p4, next_zero]
        rw [drop_drop'] at ht
        have hb := till_le (s.data.toList.drop (i + lead (s.data.toList.drop i) + 1))
        rw [drop_len] at ht hb
        exact take_open s i _ hs hi rfl _ hk h76 rfl (by omega) w
    · have hp := pre_prim h (by rw [hbt]; exact h76)
      rw [hbt] at hp
      cases hv : validB (lead (s.data.toList.drop i)) (bt s (i + lead (s.data.toList.drop i))) ⟨#[]⟩ with
      | true =>
        rw [pre_ok hv] at hp
        obtain ⟨p1, p2, p3, p4⟩ := pre_is hp
        rw [p1, p2, p3, p4, next_pos (by omega), show i + (lead (s.data.toList.drop i) + 1) = i + lead (s.data.toList.drop i) + 1 by omega]
        exact take_prim_ok s i _ hs hi rfl hk h91 h76 hv w
      | false =>
        rw [pre_bad hv] at hp
        obtain ⟨p1, p2, p3, p4⟩ := pre_is hp
        rw [p1, p2, p3, p4, next_zero]
        exact take_prim_bad s i _ hs hi rfl hk h91 h76 hv w
  · obtain ⟨p1, p2, p3, p4⟩ := pre_is (pre_end h)
    rw [p1, p2, p3, p4, next_zero]
    exact take_end s i _ hs hi rfl (by omega) w

/-! ### Parse -/
def pa (s : ByteArray) : Int × Int × ByteArray × Int := if 0 < preN s.data.toList ∧ preN s.data.toList = s.size then (preD s.data.toList, preB s.data.toList, preS s.data.toList, 0) else (0, 0, ⟨#[]⟩, 13)
def paD (s : ByteArray) : Int := (pa s).1
def paB (s : ByteArray) : Int := (pa s).2.1
def paS (s : ByteArray) : ByteArray := (pa s).2.2.1
def paE (s : ByteArray) : Int := (pa s).2.2.2
theorem pa_ok {s : ByteArray} (h : 0 < preN s.data.toList ∧ preN s.data.toList = s.size) : paD s = preD s.data.toList ∧ paB s = preB s.data.toList ∧ paS s = preS s.data.toList ∧ paE s = 0 := by unfold paD paB paS paE pa; rw [if_pos h]; exact ⟨rfl, rfl, rfl, rfl⟩
theorem pa_bad {s : ByteArray} (h : ¬ (0 < preN s.data.toList ∧ preN s.data.toList = s.size)) : paD s = 0 ∧ paB s = 0 ∧ paS s = ⟨#[]⟩ ∧ paE s = 13 := by unfold paD paB paS paE pa; rw [if_neg h]; exact ⟨rfl, rfl, rfl, rfl⟩
theorem pre_nn (l : List UInt8) : 0 ≤ preN l := by rcases pre_cases l with h | h <;> omega
theorem pre_le (l : List UInt8) : preN l ≤ l.length := by rcases pre_cases l with h | h <;> omega

theorem parse_any (s : ByteArray) (hs : s.size ≤ 140737488355328) (w : World) :
    Calls Tryz.prog 98 #[.string s] w fun e w' => e = .returned (.tuple #[.agg #[.int .i64 (paD s), .int .u8 (paB s), .string (paS s)], .int .i64 (paE s)]) ∧ Below w.heap.size w w' := by
  have hB : Below w.heap.size w w := Below.refl _ _
  have h0 := pre_nn s.data.toList
  go_enter Tryz.func98, Tryz.ntmps98
  go_wp2_with (go_at_call 107; refine (prefix_any _ hs _).mono ?_; rintro e w1 ⟨rfl, hb1⟩; obtain ⟨hc1, hf1⟩ := bcell hb1; have hz1 := hb1.size; (try simp only [World.size_alloc, World.size_setCell] at hz1); (try have hza : w.heap.size < w1.heap.size := by omega); (try have hzb : w.heap.size + 1 < w1.heap.size := by omega); (try have hzc : w.heap.size + 1 + 1 < w1.heap.size := by omega); (try have hzd : wa.heap.size < w1.heap.size := by omega); (try replace hR := (hb1.block w.heap.size (by first | exact lt_heap hR | (have := lt_heap hR; simp; omega))).trans (by first | with_reducible exact hR | with_reducible exact laid_old hR)); replace hB := below_on (w := w) ((by repeat (first | with_reducible exact hB | with_reducible exact Below.refl _ _ | with_reducible refine below_al ?_ _ | with_reducible refine below_st ?_ (by first | exact Nat.le_refl _ | exact Nat.le_add_right _ _ | (simp; omega)) _))) hb1; clear hb1)
  · have h : preN s.data.toList = 0 := by assumption
    have g := pa_bad (s := s) (by omega)
    refine bodyPost_ret (v := .tuple #[.agg #[.int .i64 0, .int .u8 0, .string ⟨#[]⟩], .int .i64 13]) ?_ rfl ⟨by rw [g.1, g.2.1, g.2.2.1, g.2.2.2], (by repeat (first | with_reducible exact hB | with_reducible exact Below.refl _ _ | with_reducible refine below_al ?_ _ | with_reducible refine below_st ?_ (by first | exact Nat.le_refl _ | exact Nat.le_add_right _ _ | (simp; omega)) _))⟩; simp [results, Tryz.f98, go_sem, set_same, *]
  · have h : ¬ preN s.data.toList = 0 := by assumption
    have h' : (preN s.data.toList == 0) = true ∨ (preN s.data.toList != (s.size : Int)) = true := by assumption
    have g := pa_bad (s := s) (by simp at h'; omega)
    refine bodyPost_ret (v := .tuple #[.agg #[.int .i64 0, .int .u8 0, .string ⟨#[]⟩], .int .i64 13]) ?_ rfl ⟨by rw [g.1, g.2.1, g.2.2.1, g.2.2.2], (by repeat (first | with_reducible exact hB | with_reducible exact Below.refl _ _ | with_reducible refine below_al ?_ _ | with_reducible refine below_st ?_ (by first | exact Nat.le_refl _ | exact Nat.le_add_right _ _ | (simp; omega)) _))⟩; simp [results, Tryz.f98, go_sem, set_same, *]
  · have h : ¬ preN s.data.toList = 0 := by assumption
    have h' : (preN s.data.toList == 0) = false ∧ (preN s.data.toList != (s.size : Int)) = false := by assumption
    have g := pa_ok (s := s) (by simp at h'; omega)
    refine bodyPost_ret (v := .tuple #[.agg #[.int .i64 (preD s.data.toList), .int .u8 (preB s.data.toList), .string (preS s.data.toList)], .int .i64 0]) ?_ rfl ⟨by rw [g.1, g.2.1, g.2.2.1, g.2.2.2], (by repeat (first | with_reducible exact hB | with_reducible exact Below.refl _ _ | with_reducible refine below_al ?_ _ | with_reducible refine below_st ?_ (by first | exact Nat.le_refl _ | exact Nat.le_add_right _ _ | (simp; omega)) _))⟩; simp [results, Tryz.f98, go_sem, set_same, *]

end Go.Proofs.YthfegbhbokhlkaaGreatDoor
