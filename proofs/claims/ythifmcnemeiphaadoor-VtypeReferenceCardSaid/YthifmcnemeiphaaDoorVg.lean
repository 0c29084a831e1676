/- Layer 17: Format and Equal, in the package and in its reference. -/
import Derived.Lib.AppendIntMem
import Derived.Lib.ItoaLen
import Derived.Test.YthifmcnemeiphaaDoorVf
import Derived.Test.YthifmcnemeiphaaDoorShelf
namespace Go.Proofs.YthifmcnemeiphaaDoor
open Go.ChangeShapes Go.WideShapes Go.ChangeAt Go.RowKit Go.PlainAid
set_option linter.unusedSimpArgs false
set_option linter.unusedVariables false

abbrev Tab (w : World) : Prop := Lib.TabIs Tryd.prog w "internal/strconv.uint64pow10" .u64 Lib.pow10Tab
theorem tab_on {w w1 : World} (h : Tab w) (hb : Below w.heap.size w w1) : Tab w1 := (Lib.tabBelow_of_tabIs h) w1 hb
def itoaB (n : Int) : ByteArray := ⟨(Lib.itoa n).toArray⟩
theorem itoa_any (n : Int) (h0 : -9223372036854775808 ≤ n) (h1 : n ≤ 9223372036854775807) (w : World) (ht : Tab w) :
    Calls Tryd.prog 72 #[.int .i64 n] w fun e w' => e = .returned (.string (itoaB n)) ∧ Below w.heap.size w w' := by
  refine (Tryd.strconv_Itoa n h0 h1 w ht).mono ?_
  rintro e w' ⟨rfl, k, os, rfl⟩
  exact ⟨rfl, Lib.below_grow _ _ (Nat.le_refl _) k os⟩
theorem itoaB_size (n : Int) (h0 : -9223372036854775808 ≤ n) (h1 : n ≤ 9223372036854775807) : (itoaB n).size ≤ 21 := by
  show (Lib.itoa n).toArray.size ≤ 21
  rw [List.size_toArray]
  exact Lib.itoa_length_le n h0 h1
theorem fmS_size (d b : Int) (s : ByteArray) : (fmS d b s).size ≤ s.size + 10 := by
  unfold fmS
  split
  · rename_i h
    have hd := valid_bd h
    unfold txt
    have e1 : (⟨#[76]⟩ : ByteArray).size = 1 := rfl
    have e2 : (⟨#[59]⟩ : ByteArray).size = 1 := rfl
    have e3 : (⟨#[b.toNat.toUInt8]⟩ : ByteArray).size = 1 := rfl
    split
    · rw [ByteArray.size_append, ByteArray.size_append, ByteArray.size_append, bars_size, e1, e2]; omega
    · rw [ByteArray.size_append, bars_size, e3]; omega
  · show (0 : Nat) ≤ _
    omega
theorem vv_rng {k n d b : Int} {s : ByteArray} {p : Int} (h : vvB k n d b s p = true) : 0 ≤ k ∧ k ≤ 6 := by
  unfold vvB at h
  grind
def vfS (k n d b : Int) (s : ByteArray) (p : Int) : ByteArray :=
  if vvB k n d b s p = true then
    if k = 0 then ⟨#[116, 111, 112]⟩ else if k = 1 then ⟨#[105, 110, 116]⟩ else if k = 2 then ⟨#[108, 111, 110, 103]⟩ else if k = 3 then ⟨#[110, 117, 108, 108]⟩
    else if k = 4 then fmS d b s else if k = 5 then ⟨#[110, 101, 119, 32]⟩ ++ itoaB n ++ ⟨#[32]⟩ ++ fmS d b s else ⟨#[116, 104, 105, 115, 32]⟩ ++ fmS d b s
  else ⟨#[]⟩
set_option maxHeartbeats 2000000 in
theorem vfmt_any (k n d b : Int) (s : ByteArray) (p : Int) (h0 : -9223372036854775808 ≤ n) (h1 : n ≤ 9223372036854775807) (hs : s.size ≤ 140737488355328) (w : World) (ht : Tab w) :
    Calls Tryd.prog 37 #[.agg #[.int .i64 k, .int .i64 n, .int .i64 d, .int .u8 b, .string s, .int .i64 p]] w fun e w' => e = .returned (.string (vfS k n d b s p)) ∧ Below w.heap.size w w' := by
  have hB : Below w.heap.size w w := Below.refl _ _
  have hi := itoaB_size n h0 h1
  have hf := fmS_size d b s
  have HR := Lib.hid (@vv_rng k n d b s p)
  go_enter Tryd.func37, Tryd.ntmps37
  go_wp2_with (first | (go_at_call 33; refine (vvalid_any _ _ _ _ _ _ _).mono ?_; rintro e w1 ⟨rfl, hb1⟩; obtain ⟨hc1, hf1⟩ := bcell hb1; have hz1 := hb1.size; (try simp only [World.size_alloc, World.size_setCell] at hz1); (try have hza : w.heap.size < w1.heap.size := by omega); (try have hzb : w.heap.size + 1 < w1.heap.size := by omega); (try have hzc : w.heap.size + 1 + 1 < w1.heap.size := by omega); (try have hzd : wa.heap.size < w1.heap.size := by omega); (try replace hR := (hb1.block w.heap.size (by first | exact lt_heap hR | (have := lt_heap hR; simp; omega))).trans (by first | with_reducible exact hR | with_reducible exact laid_old hR)); replace hB := below_on (w := w) ((by repeat (first | with_reducible exact hB | with_reducible exact Below.refl _ _ | with_reducible refine below_al ?_ _ | with_reducible refine below_st ?_ (by first | exact Nat.le_refl _ | exact Nat.le_add_right _ _ | (simp; omega)) _))) hb1; clear hb1) | (go_at_call 71; refine (fmt_any _ _ _ hs _).mono ?_; rintro e w1 ⟨rfl, hb1⟩; obtain ⟨hc1, hf1⟩ := bcell hb1; have hz1 := hb1.size; (try simp only [World.size_alloc, World.size_setCell] at hz1); (try have hza : w.heap.size < w1.heap.size := by omega); (try have hzb : w.heap.size + 1 < w1.heap.size := by omega); (try have hzc : w.heap.size + 1 + 1 < w1.heap.size := by omega); (try have hzd : wa.heap.size < w1.heap.size := by omega); (try replace hR := (hb1.block w.heap.size (by first | exact lt_heap hR | (have := lt_heap hR; simp; omega))).trans (by first | with_reducible exact hR | with_reducible exact laid_old hR)); replace hB := below_on (w := w) ((by repeat (first | with_reducible exact hB | with_reducible exact Below.refl _ _ | with_reducible refine below_al ?_ _ | with_reducible refine below_st ?_ (by first | exact Nat.le_refl _ | exact Nat.le_add_right _ _ | (simp; omega)) _))) hb1; clear hb1) | (go_at_call 72; refine (itoa_any _ h0 h1 _ (tab_on ht (by repeat (first | with_reducible exact hB | with_reducible exact Below.refl _ _ | with_reducible refine below_al ?_ _ | with_reducible refine below_st ?_ (by first | exact Nat.le_refl _ | exact Nat.le_add_right _ _ | (simp; omega)) _)))).mono ?_; rintro e w1 ⟨rfl, hb1⟩; obtain ⟨hc1, hf1⟩ := bcell hb1; have hz1 := hb1.size; (try simp only [World.size_alloc, World.size_setCell] at hz1); (try have hza : w.heap.size < w1.heap.size := by omega); (try have hzb : w.heap.size + 1 < w1.heap.size := by omega); (try have hzc : w.heap.size + 1 + 1 < w1.heap.size := by omega); (try have hzd : wa.heap.size < w1.heap.size := by omega); (try replace hR := (hb1.block w.heap.size (by first | exact lt_heap hR | (have := lt_heap hR; simp; omega))).trans (by first | with_reducible exact hR | with_reducible exact laid_old hR)); replace hB := below_on (w := w) ((by repeat (first | with_reducible exact hB | with_reducible exact Below.refl _ _ | with_reducible refine below_al ?_ _ | with_reducible refine below_st ?_ (by first | exact Nat.le_refl _ | exact Nat.le_add_right _ _ | (simp; omega)) _))) hb1; clear hb1))
  all_goals (try (exfalso; omega))
  all_goals go_ret
  all_goals refine ⟨?_, (by repeat (first | with_reducible exact hB | with_reducible exact Below.refl _ _ | with_reducible refine below_al ?_ _ | with_reducible refine below_st ?_ (by first | exact Nat.le_refl _ | exact Nat.le_add_right _ _ | (simp; omega)) _))⟩
  all_goals have hr := HR.out
  all_goals (unfold vfS; simp_all)
  all_goals (try grind)
set_option maxHeartbeats 2000000 in
theorem rvfmt_any (k n d b : Int) (s : ByteArray) (p : Int) (h0 : -9223372036854775808 ≤ n) (h1 : n ≤ 9223372036854775807) (hs : s.size ≤ 140737488355328) (w : World) (ht : Tab w) :
    Calls Tryd.prog 38 #[.agg #[.int .i64 k, .int .i64 n, .int .i64 d, .int .u8 b, .string s, .int .i64 p]] w fun e w' => e = .returned (.string (vfS k n d b s p)) ∧ Below w.heap.size w w' := by
  have hB : Below w.heap.size w w := Below.refl _ _
  have hi := itoaB_size n h0 h1
  have hf := fmS_size d b s
  have HR := Lib.hid (@vv_rng k n d b s p)
  go_enter Tryd.func38, Tryd.ntmps38
  go_wp2_with (first | (go_at_call 34; refine (rvvalid_any _ _ _ _ _ _ (by omega) _).mono ?_; rintro e w1 ⟨rfl, hb1⟩; obtain ⟨hc1, hf1⟩ := bcell hb1; have hz1 := hb1.size; (try simp only [World.size_alloc, World.size_setCell] at hz1); (try have hza : w.heap.size < w1.heap.size := by omega); (try have hzb : w.heap.size + 1 < w1.heap.size := by omega); (try have hzc : w.heap.size + 1 + 1 < w1.heap.size := by omega); (try have hzd : wa.heap.size < w1.heap.size := by omega); (try replace hR := (hb1.block w.heap.size (by first | exact lt_heap hR | (have := lt_heap hR; simp; omega))).trans (by first | with_reducible exact hR | with_reducible exact laid_old hR)); replace hB := below_on (w := w) ((by repeat (first | with_reducible exact hB | with_reducible exact Below.refl _ _ | with_reducible refine below_al ?_ _ | with_reducible refine below_st ?_ (by first | exact Nat.le_refl _ | exact Nat.le_add_right _ _ | (simp; omega)) _))) hb1; clear hb1) | (go_at_call 73; refine (rfmt_any _ _ _ hs _).mono ?_; rintro e w1 ⟨rfl, hb1⟩; obtain ⟨hc1, hf1⟩ := bcell hb1; have hz1 := hb1.size; (try simp only [World.size_alloc, World.size_setCell] at hz1); (try have hza : w.heap.size < w1.heap.size := by omega); (try have hzb : w.heap.size + 1 < w1.heap.size := by omega); (try have hzc : w.heap.size + 1 + 1 < w1.heap.size := by omega); (try have hzd : wa.heap.size < w1.heap.size := by omega); (try replace hR := (hb1.block w.heap.size (by first | exact lt_heap hR | (have := lt_heap hR; simp; omega))).trans (by first | with_reducible exact hR | with_reducible exact laid_old hR)); replace hB := below_on (w := w) ((by repeat (first | with_reducible exact hB | with_reducible exact Below.refl _ _ | with_reducible refine below_al ?_ _ | with_reducible refine below_st ?_ (by first | exact Nat.le_refl _ | exact Nat.le_add_right _ _ | (simp; omega)) _))) hb1; clear hb1) | (go_at_call 72; refine (itoa_any _ h0 h1 _ (tab_on ht (by repeat (first | with_reducible exact hB | with_reducible exact Below.refl _ _ | with_reducible refine below_al ?_ _ | with_reducible refine below_st ?_ (by first | exact Nat.le_refl _ | exact Nat.le_add_right _ _ | (simp; omega)) _)))).mono ?_; rintro e w1 ⟨rfl, hb1⟩; obtain ⟨hc1, hf1⟩ := bcell hb1; have hz1 := hb1.size; (try simp only [World.size_alloc, World.size_setCell] at hz1); (try have hza : w.heap.size < w1.heap.size := by omega); (try have hzb : w.heap.size + 1 < w1.heap.size := by omega); (try have hzc : w.heap.size + 1 + 1 < w1.heap.size := by omega); (try have hzd : wa.heap.size < w1.heap.size := by omega); (try replace hR := (hb1.block w.heap.size (by first | exact lt_heap hR | (have := lt_heap hR; simp; omega))).trans (by first | with_reducible exact hR | with_reducible exact laid_old hR)); replace hB := below_on (w := w) ((by repeat (first | with_reducible exact hB | with_reducible exact Below.refl _ _ | with_reducible refine below_al ?_ _ | with_reducible refine below_st ?_ (by first | exact Nat.le_refl _ | exact Nat.le_add_right _ _ | (simp; omega)) _))) hb1; clear hb1))
  all_goals (try (exfalso; omega))
  all_goals go_ret
  all_goals refine ⟨?_, (by repeat (first | with_reducible exact hB | with_reducible exact Below.refl _ _ | with_reducible refine below_al ?_ _ | with_reducible refine below_st ?_ (by first | exact Nat.le_refl _ | exact Nat.le_add_right _ _ | (simp; omega)) _))⟩
  all_goals have hr := HR.out
  all_goals (unfold vfS; simp_all)
  all_goals (try grind)
end Go.Proofs.YthifmcnemeiphaaDoor
