/- Layer 4: the reference's Parse; ParseClassConstant, in the package and in its reference. -/
import Derived.Test.YthfegbhbokhlkaaGreatDoorDescParse
namespace Go.Proofs.YthfegbhbokhlkaaGreatDoor
open Go.ChangeShapes Go.WideShapes Go.ChangeAt Go.RowKit Go.PlainAid
set_option linter.unusedSimpArgs false
set_option linter.unusedVariables false

theorem take0_any (s : ByteArray) (hs : s.size ≤ 140737488355328) (w : World) :
    Calls Tryz.prog 103 #[.string s, .int .i64 0] w fun e w' => e = .returned (.tuple #[.agg #[.int .i64 (preD s.data.toList), .int .u8 (preB s.data.toList), .string (preS s.data.toList)], .int .i64 (nextI 0 (preN s.data.toList))]) ∧ Below w.heap.size w w' := by
  have h := take_any s 0 hs (Nat.zero_le _) w
  rw [List.drop_zero] at h
  exact h
theorem next_len {s : ByteArray} : nextI 0 (preN s.data.toList) = s.size ↔ (0 < preN s.data.toList ∧ preN s.data.toList = s.size) := by
  have h0 := pre_nn s.data.toList
  unfold nextI
  split <;> omega

theorem rparse_any (s : ByteArray) (hs : s.size ≤ 140737488355328) (w : World) :
    Calls Tryz.prog 94 #[.string s] w fun e w' => e = .returned (.tuple #[.agg #[.int .i64 (paD s), .int .u8 (paB s), .string (paS s)], .int .i64 (paE s)]) ∧ Below w.heap.size w w' := by
  have hB : Below w.heap.size w w := Below.refl _ _
  by_cases hn : 0 < preN s.data.toList ∧ preN s.data.toList = s.size
  · have g := pa_ok hn
    rw [g.1, g.2.1, g.2.2.1, g.2.2.2]
    have h := next_len.2 hn
    have hb : (nextI 0 (preN s.data.toList) != (s.size : Int)) = false := by simpa using h
    clear h g hn
    go_enter Tryz.func94, Tryz.ntmps94
    go_wp2_with (go_at_call 103; refine (take0_any _ hs _).mono ?_; rintro e w1 ⟨rfl, hb1⟩; obtain ⟨hc1, hf1⟩ := bcell hb1; have hz1 := hb1.size; (try simp only [World.size_alloc, World.size_setCell] at hz1); (try have hza : w.heap.size < w1.heap.size := by omega); (try have hzb : w.heap.size + 1 < w1.heap.size := by omega); (try have hzc : w.heap.size + 1 + 1 < w1.heap.size := by omega); (try have hzd : wa.heap.size < w1.heap.size := by omega); (try replace hR := (hb1.block w.heap.size (by first | exact lt_heap hR | (have := lt_heap hR; simp; omega))).trans (by first | with_reducible exact hR | with_reducible exact laid_old hR)); replace hB := below_on (w := w) ((by repeat (first | with_reducible exact hB | with_reducible exact Below.refl _ _ | with_reducible refine below_al ?_ _ | with_reducible refine below_st ?_ (by first | exact Nat.le_refl _ | exact Nat.le_add_right _ _ | (simp; omega)) _))) hb1; clear hb1)
    refine bodyPost_ret (v := .tuple #[.agg #[.int .i64 (preD s.data.toList), .int .u8 (preB s.data.toList), .string (preS s.data.toList)], .int .i64 0]) ?_ rfl ⟨rfl, (by repeat (first | with_reducible exact hB | with_reducible exact Below.refl _ _ | with_reducible refine below_al ?_ _ | with_reducible refine below_st ?_ (by first | exact Nat.le_refl _ | exact Nat.le_add_right _ _ | (simp; omega)) _))⟩; simp [results, Tryz.f94, go_sem, set_same, *]
  · have g := pa_bad hn
    rw [g.1, g.2.1, g.2.2.1, g.2.2.2]
    have h := fun h => hn (next_len.1 h)
    have hb : (nextI 0 (preN s.data.toList) != (s.size : Int)) = true := by simpa using h
    clear h g hn
    go_enter Tryz.func94, Tryz.ntmps94
    go_wp2_with (go_at_call 103; refine (take0_any _ hs _).mono ?_; rintro e w1 ⟨rfl, hb1⟩; obtain ⟨hc1, hf1⟩ := bcell hb1; have hz1 := hb1.size; (try simp only [World.size_alloc, World.size_setCell] at hz1); (try have hza : w.heap.size < w1.heap.size := by omega); (try have hzb : w.heap.size + 1 < w1.heap.size := by omega); (try have hzc : w.heap.size + 1 + 1 < w1.heap.size := by omega); (try have hzd : wa.heap.size < w1.heap.size := by omega); (try replace hR := (hb1.block w.heap.size (by first | exact lt_heap hR | (have := lt_heap hR; simp; omega))).trans (by first | with_reducible exact hR | with_reducible exact laid_old hR)); replace hB := below_on (w := w) ((by repeat (first | with_reducible exact hB | with_reducible exact Below.refl _ _ | with_reducible refine below_al ?_ _ | with_reducible refine below_st ?_ (by first | exact Nat.le_refl _ | exact Nat.le_add_right _ _ | (simp; omega)) _))) hb1; clear hb1)
    refine bodyPost_ret (v := .tuple #[.agg #[.int .i64 0, .int .u8 0, .string ⟨#[]⟩], .int .i64 13]) ?_ rfl ⟨rfl, (by repeat (first | with_reducible exact hB | with_reducible exact Below.refl _ _ | with_reducible refine below_al ?_ _ | with_reducible refine below_st ?_ (by first | exact Nat.le_refl _ | exact Nat.le_add_right _ _ | (simp; omega)) _))⟩; simp [results, Tryz.f94, go_sem, set_same, *]

/-! ### ParseClassConstant -/
def fst91 (s : ByteArray) : Bool := Lib.hasPrefix s.data.toList [91]
def pc (s : ByteArray) : Int × Int × ByteArray × Int := if clsB s = true then (0, 76, s, 0) else if fst91 s = true then (paD s, paB s, paS s, paE s) else (0, 0, ⟨#[]⟩, 13)
def pcD (s : ByteArray) : Int := (pc s).1
def pcB (s : ByteArray) : Int := (pc s).2.1
def pcS (s : ByteArray) : ByteArray := (pc s).2.2.1
def pcE (s : ByteArray) : Int := (pc s).2.2.2
theorem pc_cls {s : ByteArray} (h : clsB s = true) : pcD s = 0 ∧ pcB s = 76 ∧ pcS s = s ∧ pcE s = 0 := by unfold pcD pcB pcS pcE pc; rw [if_pos h]; exact ⟨rfl, rfl, rfl, rfl⟩
theorem pc_arr {s : ByteArray} (h : clsB s = false) (h1 : fst91 s = true) : pcD s = paD s ∧ pcB s = paB s ∧ pcS s = paS s ∧ pcE s = paE s := by unfold pcD pcB pcS pcE pc; rw [h, h1]; exact ⟨rfl, rfl, rfl, rfl⟩
theorem pc_bad {s : ByteArray} (h : clsB s = false) (h1 : fst91 s = false) : pcD s = 0 ∧ pcB s = 0 ∧ pcS s = ⟨#[]⟩ ∧ pcE s = 13 := by unfold pcD pcB pcS pcE pc; rw [h, h1]; exact ⟨rfl, rfl, rfl, rfl⟩
theorem fst_iff (s : ByteArray) : fst91 s = true ↔ 0 < s.size ∧ bt s 0 = 91 := by
  have hl := len_data s
  unfold fst91 Lib.hasPrefix
  rw [bt_data]
  cases h : s.data.toList with
  | nil => rw [h] at hl; simp at hl; simp [← hl]
  | cons c l =>
    rw [h] at hl
    simp only [List.length_cons] at hl
    simp only [List.isPrefixOf, List.getD_cons_zero]
    constructor
    · intro h; simp at h; subst h; exact ⟨by omega, rfl⟩
    · rintro ⟨_, h2⟩
      have := u8_yes (c := 91) h2
      subst this; rfl
theorem has91_any (s : ByteArray) (w : World) :
    Calls Tryz.prog 28 #[.string s, .string ⟨#[91]⟩] w fun e w' => e = .returned (.bool (fst91 s)) ∧ w = w' :=
  (Tryz.strings_HasPrefix s ⟨#[91]⟩ w).mono fun e w' h => ⟨h.1, h.2.symm⟩

theorem pcc_any (s : ByteArray) (hs : s.size ≤ 140737488355328) (w : World) :
    Calls Tryz.prog 88 #[.string s] w fun e w' => e = .returned (.tuple #[.agg #[.int .i64 (pcD s), .int .u8 (pcB s), .string (pcS s)], .int .i64 (pcE s)]) ∧ Below w.heap.size w w' := by
  have hB : Below w.heap.size w w := Below.refl _ _
  cases hc : clsB s with
  | true =>
    have g := pc_cls hc
    rw [g.1, g.2.1, g.2.2.1, g.2.2.2]
    clear g
    go_enter Tryz.func88, Tryz.ntmps88
    go_wp2_with (go_at_call 97; refine (cls_any _ _).mono ?_; rintro e w1 ⟨rfl, hb1⟩; obtain ⟨hc1, hf1⟩ := bcell hb1; have hz1 := hb1.size; (try simp only [World.size_alloc, World.size_setCell] at hz1); (try have hza : w.heap.size < w1.heap.size := by omega); (try have hzb : w.heap.size + 1 < w1.heap.size := by omega); (try have hzc : w.heap.size + 1 + 1 < w1.heap.size := by omega); (try have hzd : wa.heap.size < w1.heap.size := by omega); (try replace hR := (hb1.block w.heap.size (by first | exact lt_heap hR | (have := lt_heap hR; simp; omega))).trans (by first | with_reducible exact hR | with_reducible exact laid_old hR)); replace hB := below_on (w := w) ((by repeat (first | with_reducible exact hB | with_reducible exact Below.refl _ _ | with_reducible refine below_al ?_ _ | with_reducible refine below_st ?_ (by first | exact Nat.le_refl _ | exact Nat.le_add_right _ _ | (simp; omega)) _))) hb1; clear hb1)
    refine bodyPost_ret (v := .tuple #[.agg #[.int .i64 0, .int .u8 76, .string s], .int .i64 0]) ?_ rfl ⟨rfl, (by repeat (first | with_reducible exact hB | with_reducible exact Below.refl _ _ | with_reducible refine below_al ?_ _ | with_reducible refine below_st ?_ (by first | exact Nat.le_refl _ | exact Nat.le_add_right _ _ | (simp; omega)) _))⟩; simp [results, Tryz.f88, go_sem, set_same, *]
  | false =>
    cases h1 : fst91 s with
    | true =>
      have g := pc_arr hc h1
      rw [g.1, g.2.1, g.2.2.1, g.2.2.2]
      clear g
      go_enter Tryz.func88, Tryz.ntmps88
      go_wp2_with (first | (go_at_call 97; refine (cls_any _ _).mono ?_; rintro e w1 ⟨rfl, hb1⟩; obtain ⟨hc1, hf1⟩ := bcell hb1; have hz1 := hb1.size; (try simp only [World.size_alloc, World.size_setCell] at hz1); (try have hza : w.heap.size < w1.heap.size := by omega); (try have hzb : w.heap.size + 1 < w1.heap.size := by omega); (try have hzc : w.heap.size + 1 + 1 < w1.heap.size := by omega); (try have hzd : wa.heap.size < w1.heap.size := by omega); (try replace hR := (hb1.block w.heap.size (by first | exact lt_heap hR | (have := lt_heap hR; simp; omega))).trans (by first | with_reducible exact hR | with_reducible exact laid_old hR)); replace hB := below_on (w := w) ((by repeat (first | with_reducible exact hB | with_reducible exact Below.refl _ _ | with_reducible refine below_al ?_ _ | with_reducible refine below_st ?_ (by first | exact Nat.le_refl _ | exact Nat.le_add_right _ _ | (simp; omega)) _))) hb1; clear hb1) | (go_at_call 28; refine (has91_any _ _).mono ?_; rintro e w' ⟨rfl, rfl⟩) | (go_at_call 98; refine (parse_any _ hs _).mono ?_; rintro e w1 ⟨rfl, hb1⟩; obtain ⟨hc1, hf1⟩ := bcell hb1; have hz1 := hb1.size; (try simp only [World.size_alloc, World.size_setCell] at hz1); (try have hza : w.heap.size < w1.heap.size := by omega); (try have hzb : w.heap.size + 1 < w1.heap.size := by omega); (try have hzc : w.heap.size + 1 + 1 < w1.heap.size := by omega); (try have hzd : wa.heap.size < w1.heap.size := by omega); (try replace hR := (hb1.block w.heap.size (by first | exact lt_heap hR | (have := lt_heap hR; simp; omega))).trans (by first | with_reducible exact hR | with_reducible exact laid_old hR)); replace hB := below_on (w := w) ((by repeat (first | with_reducible exact hB | with_reducible exact Below.refl _ _ | with_reducible refine below_al ?_ _ | with_reducible refine below_st ?_ (by first | exact Nat.le_refl _ | exact Nat.le_add_right _ _ | (simp; omega)) _))) hb1; clear hb1))
      refine bodyPost_ret (v := .tuple #[.agg #[.int .i64 (paD s), .int .u8 (paB s), .string (paS s)], .int .i64 (paE s)]) ?_ rfl ⟨rfl, (by repeat (first | with_reducible exact hB | with_reducible exact Below.refl _ _ | with_reducible refine below_al ?_ _ | with_reducible refine below_st ?_ (by first | exact Nat.le_refl _ | exact Nat.le_add_right _ _ | (simp; omega)) _))⟩; simp [results, Tryz.f88, go_sem, set_same, *]
    | false =>
      have g := pc_bad hc h1
      rw [g.1, g.2.1, g.2.2.1, g.2.2.2]
      clear g
      go_enter Tryz.func88, Tryz.ntmps88
      go_wp2_with (first | (go_at_call 97; refine (cls_any _ _).mono ?_; rintro e w1 ⟨rfl, hb1⟩; obtain ⟨hc1, hf1⟩ := bcell hb1; have hz1 := hb1.size; (try simp only [World.size_alloc, World.size_setCell] at hz1); (try have hza : w.heap.size < w1.heap.size := by omega); (try have hzb : w.heap.size + 1 < w1.heap.size := by omega); (try have hzc : w.heap.size + 1 + 1 < w1.heap.size := by omega); (try have hzd : wa.heap.size < w1.heap.size := by omega); (try replace hR := (hb1.block w.heap.size (by first | exact lt_heap hR | (have := lt_heap hR; simp; omega))).trans (by first | with_reducible exact hR | with_reducible exact laid_old hR)); replace hB := below_on (w := w) ((by repeat (first | with_reducible exact hB | with_reducible exact Below.refl _ _ | with_reducible refine below_al ?_ _ | with_reducible refine below_st ?_ (by first | exact Nat.le_refl _ | exact Nat.le_add_right _ _ | (simp; omega)) _))) hb1; clear hb1) | (go_at_call 28; refine (has91_any _ _).mono ?_; rintro e w' ⟨rfl, rfl⟩) | (go_at_call 98; refine (parse_any _ hs _).mono ?_; rintro e w1 ⟨rfl, hb1⟩; obtain ⟨hc1, hf1⟩ := bcell hb1; have hz1 := hb1.size; (try simp only [World.size_alloc, World.size_setCell] at hz1); (try have hza : w.heap.size < w1.heap.size := by omega); (try have hzb : w.heap.size + 1 < w1.heap.size := by omega); (try have hzc : w.heap.size + 1 + 1 < w1.heap.size := by omega); (try have hzd : wa.heap.size < w1.heap.size := by omega); (try replace hR := (hb1.block w.heap.size (by first | exact lt_heap hR | (have := lt_heap hR; simp; omega))).trans (by first | with_reducible exact hR | with_reducible exact laid_old hR)); replace hB := below_on (w := w) ((by repeat (first | with_reducible exact hB | with_reducible exact Below.refl _ _ | with_reducible refine below_al ?_ _ | with_reducible refine below_st ?_ (by first | exact Nat.le_refl _ | exact Nat.le_add_right _ _ | (simp; omega)) _))) hb1; clear hb1))
      refine bodyPost_ret (v := .tuple #[.agg #[.int .i64 0, .int .u8 0, .string ⟨#[]⟩], .int .i64 13]) ?_ rfl ⟨rfl, (by repeat (first | with_reducible exact hB | with_reducible exact Below.refl _ _ | with_reducible refine below_al ?_ _ | with_reducible refine below_st ?_ (by first | exact Nat.le_refl _ | exact Nat.le_add_right _ _ | (simp; omega)) _))⟩; simp [results, Tryz.f88, go_sem, set_same, *]

theorem rpcc_any (s : ByteArray) (hs : s.size ≤ 140737488355328) (w : World) :
    Calls Tryz.prog 82 #[.string s] w fun e w' => e = .returned (.tuple #[.agg #[.int .i64 (pcD s), .int .u8 (pcB s), .string (pcS s)], .int .i64 (pcE s)]) ∧ Below w.heap.size w w' := by
  have hB : Below w.heap.size w w := Below.refl _ _
  have hgb := get_bt s
  cases hc : clsB s with
  | true =>
    have g := pc_cls hc
    rw [g.1, g.2.1, g.2.2.1, g.2.2.2]
    clear g
    go_enter Tryz.func82, Tryz.ntmps82
    go_wp2_with (go_at_call 93; refine (rcls_any _ (by omega) _).mono ?_; rintro e w' ⟨rfl, rfl⟩)
    refine bodyPost_ret (v := .tuple #[.agg #[.int .i64 0, .int .u8 76, .string s], .int .i64 0]) ?_ rfl ⟨rfl, (by repeat (first | with_reducible exact hB | with_reducible exact Below.refl _ _ | with_reducible refine below_al ?_ _ | with_reducible refine below_st ?_ (by first | exact Nat.le_refl _ | exact Nat.le_add_right _ _ | (simp; omega)) _))⟩; simp [results, Tryz.f82, go_sem, set_same, *]
  | false =>
    cases h1 : fst91 s with
    | true =>
      have g := pc_arr hc h1
      rw [g.1, g.2.1, g.2.2.1, g.2.2.2]
      obtain ⟨hp, h91⟩ := (fst_iff s).1 h1
      have he := nonempty_data hp
      clear g h1
      go_enter Tryz.func82, Tryz.ntmps82
      go_wp2_with (first | (go_at_call 93; refine (rcls_any _ (by omega) _).mono ?_; rintro e w' ⟨rfl, rfl⟩) | (go_at_call 94; refine (rparse_any _ hs _).mono ?_; rintro e w1 ⟨rfl, hb1⟩; obtain ⟨hc1, hf1⟩ := bcell hb1; have hz1 := hb1.size; (try simp only [World.size_alloc, World.size_setCell] at hz1); (try have hza : w.heap.size < w1.heap.size := by omega); (try have hzb : w.heap.size + 1 < w1.heap.size := by omega); (try have hzc : w.heap.size + 1 + 1 < w1.heap.size := by omega); (try have hzd : wa.heap.size < w1.heap.size := by omega); (try replace hR := (hb1.block w.heap.size (by first | exact lt_heap hR | (have := lt_heap hR; simp; omega))).trans (by first | with_reducible exact hR | with_reducible exact laid_old hR)); replace hB := below_on (w := w) ((by repeat (first | with_reducible exact hB | with_reducible exact Below.refl _ _ | with_reducible refine below_al ?_ _ | with_reducible refine below_st ?_ (by first | exact Nat.le_refl _ | exact Nat.le_add_right _ _ | (simp; omega)) _))) hb1; clear hb1))
      refine bodyPost_ret (v := .tuple #[.agg #[.int .i64 (paD s), .int .u8 (paB s), .string (paS s)], .int .i64 (paE s)]) ?_ rfl ⟨rfl, (by repeat (first | with_reducible exact hB | with_reducible exact Below.refl _ _ | with_reducible refine below_al ?_ _ | with_reducible refine below_st ?_ (by first | exact Nat.le_refl _ | exact Nat.le_add_right _ _ | (simp; omega)) _))⟩; simp [results, Tryz.f82, go_sem, set_same, *]
    | false =>
      have g := pc_bad hc h1
      rw [g.1, g.2.1, g.2.2.1, g.2.2.2]
      have hn := mt (fst_iff s).2 (by rw [h1]; simp)
      clear g h1
      by_cases hp : 0 < s.size
      · have he := nonempty_data hp
        have h91 : (bt s 0 != 91) = true := by have : ¬ bt s 0 = 91 := fun e => hn ⟨hp, e⟩
                                               simpa using this
        clear hn
        go_enter Tryz.func82, Tryz.ntmps82
        go_wp2_with (first | (go_at_call 93; refine (rcls_any _ (by omega) _).mono ?_; rintro e w' ⟨rfl, rfl⟩) | (go_at_call 94; refine (rparse_any _ hs _).mono ?_; rintro e w1 ⟨rfl, hb1⟩; obtain ⟨hc1, hf1⟩ := bcell hb1; have hz1 := hb1.size; (try simp only [World.size_alloc, World.size_setCell] at hz1); (try have hza : w.heap.size < w1.heap.size := by omega); (try have hzb : w.heap.size + 1 < w1.heap.size := by omega); (try have hzc : w.heap.size + 1 + 1 < w1.heap.size := by omega); (try have hzd : wa.heap.size < w1.heap.size := by omega); (try replace hR := (hb1.block w.heap.size (by first | exact lt_heap hR | (have := lt_heap hR; simp; omega))).trans (by first | with_reducible exact hR | with_reducible exact laid_old hR)); replace hB := below_on (w := w) ((by repeat (first | with_reducible exact hB | with_reducible exact Below.refl _ _ | with_reducible refine below_al ?_ _ | with_reducible refine below_st ?_ (by first | exact Nat.le_refl _ | exact Nat.le_add_right _ _ | (simp; omega)) _))) hb1; clear hb1))
        refine bodyPost_ret (v := .tuple #[.agg #[.int .i64 0, .int .u8 0, .string ⟨#[]⟩], .int .i64 13]) ?_ rfl ⟨rfl, (by repeat (first | with_reducible exact hB | with_reducible exact Below.refl _ _ | with_reducible refine below_al ?_ _ | with_reducible refine below_st ?_ (by first | exact Nat.le_refl _ | exact Nat.le_add_right _ _ | (simp; omega)) _))⟩; simp [results, Tryz.f82, go_sem, set_same, *]
      · have he := empty_data (s := s) (by omega)
        clear hn
        go_enter Tryz.func82, Tryz.ntmps82
        go_wp2_with (first | (go_at_call 93; refine (rcls_any _ (by omega) _).mono ?_; rintro e w' ⟨rfl, rfl⟩) | (go_at_call 94; refine (rparse_any _ hs _).mono ?_; rintro e w1 ⟨rfl, hb1⟩; obtain ⟨hc1, hf1⟩ := bcell hb1; have hz1 := hb1.size; (try simp only [World.size_alloc, World.size_setCell] at hz1); (try have hza : w.heap.size < w1.heap.size := by omega); (try have hzb : w.heap.size + 1 < w1.heap.size := by omega); (try have hzc : w.heap.size + 1 + 1 < w1.heap.size := by omega); (try have hzd : wa.heap.size < w1.heap.size := by omega); (try replace hR := (hb1.block w.heap.size (by first | exact lt_heap hR | (have := lt_heap hR; simp; omega))).trans (by first | with_reducible exact hR | with_reducible exact laid_old hR)); replace hB := below_on (w := w) ((by repeat (first | with_reducible exact hB | with_reducible exact Below.refl _ _ | with_reducible refine below_al ?_ _ | with_reducible refine below_st ?_ (by first | exact Nat.le_refl _ | exact Nat.le_add_right _ _ | (simp; omega)) _))) hb1; clear hb1))
        refine bodyPost_ret (v := .tuple #[.agg #[.int .i64 0, .int .u8 0, .string ⟨#[]⟩], .int .i64 13]) ?_ rfl ⟨rfl, (by repeat (first | with_reducible exact hB | with_reducible exact Below.refl _ _ | with_reducible refine below_al ?_ _ | with_reducible refine below_st ?_ (by first | exact Nat.le_refl _ | exact Nat.le_add_right _ _ | (simp; omega)) _))⟩; simp [results, Tryz.f82, go_sem, set_same, *]

end Go.Proofs.YthfegbhbokhlkaaGreatDoor
