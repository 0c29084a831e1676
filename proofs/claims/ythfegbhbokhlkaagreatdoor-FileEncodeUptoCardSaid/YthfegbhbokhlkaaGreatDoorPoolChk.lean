/- Layer 5: what Check asks of texts, in the package and in its reference. -/
import Derived.Test.YthfegbhbokhlkaaGreatDoorPoolAddAll
import Derived.Test.YthfegbhbokhlkaaGreatDoorDescRsigW
import Derived.Test.YthfegbhbokhlkaaGreatDoorDescPsigW
import Derived.Test.YthfegbhbokhlkaaGreatDoorNameLast
namespace Go.Proofs.YthfegbhbokhlkaaGreatDoor
open Go.ChangeShapes Go.WideShapes Go.ChangeAt Go.RowKit Go.PlainAid
set_option linter.unusedSimpArgs false
set_option linter.unusedVariables false

def sgE (d : ByteArray) : Int := (sgOf d.data.toList).2.2
def sgB (d : ByteArray) : Int := (sgOf d.data.toList).2.1.2.1
def dsB (d : ByteArray) : Bool := if paE d = 0 then (if paB d = 86 then false else true) else (if sgE d = 0 then true else false)
theorem pa_sg {d : ByteArray} (h : paE d = 0) : ¬ sgE d = 0 := by
  intro hs
  have h40 : d.data.toList.getD 0 0 = 40 := by
    by_cases e : d.data.toList.getD 0 0 = 40
    · exact e
    · unfold sgE at hs; rw [sg_open e] at hs; cases hs
  by_cases hp : 0 < preN d.data.toList ∧ preN d.data.toList = d.size
  · exfalso
    have hn := hp.1
    have hl : lead d.data.toList = 0 := by
      unfold lead
      cases e : d.data.toList with
      | nil => rfl
      | cons c r =>
        rw [e] at h40
        have : c = 40 := by simpa using h40
        subst this
        rfl
    have hlen : 0 < d.data.toList.length := by
      have := pre_le d.data.toList
      omega
    have hb : ((d.data.toList.getD (lead d.data.toList) 0).toNat : Int) = 40 := by rw [hl, h40]; rfl
    have hv : preN d.data.toList = 0 := by
      unfold preN
      rw [pre_prim (by rw [hl]; exact hlen) (by rw [hb]; decide), hb, pre_bad]
      rw [hl]; decide +kernel
    omega
  · rw [(pa_bad hp).2.2.2] at h; cases h
theorem eqT {a b : Int} (h : (a == b) = true) : a = b := by simpa using h
theorem eqF {a b : Int} (h : (a == b) = false) : ¬ a = b := by simpa using h
theorem ds_1 {d : ByteArray} (h : paE d = 0) : dsB d = (paB d != 86) := by
  unfold dsB; rw [if_pos h]
  by_cases h1 : paB d = 86
  · rw [if_pos h1, h1]; rfl
  · rw [if_neg h1]; simp [h1]
theorem ds_2 {d : ByteArray} (h : ¬ paE d = 0) : dsB d = (sgE d == 0) := by
  unfold dsB; rw [if_neg h]
  by_cases h1 : sgE d = 0
  · rw [if_pos h1, h1]; rfl
  · rw [if_neg h1]; simp [h1]
def clB (n : ByteArray) : Bool := n.toList == [60, 99, 108, 105, 110, 105, 116, 62]
def inB (n : ByteArray) : Bool := n.toList == [60, 105, 110, 105, 116, 62]
def ltB (n : ByteArray) : Bool := Lib.hasPrefix n.data.toList [60]
def ntxE (n d : ByteArray) : Int := if memB n = true then (if dsB d = true then 0 else 13) else 12

theorem ntx_1 {n d : ByteArray} (h : memB n = false) : ntxE n d = 12 := by unfold ntxE; rw [h]; rfl
theorem ntx_2 {n d : ByteArray} (h : memB n = true) (h1 : dsB d = true) : ntxE n d = 0 := by unfold ntxE; rw [h, h1]; rfl
theorem ntx_3 {n d : ByteArray} (h : memB n = true) (h1 : dsB d = false) : ntxE n d = 13 := by unfold ntxE; rw [h, h1]; rfl
def tli (b : Bool) : Int := if b = true then 8 else 0
theorem tli_any (b : Bool) (w : World) : Calls Tryz.prog 69 #[.bool b] w fun e w' => e = .returned (.int .i64 (tli b)) ∧ Below w.heap.size w w' := by
  have hB : Below w.heap.size w w := Below.refl _ _
  cases b
  all_goals
    go_enter Tryz.func69, Tryz.ntmps69
    go_wp2
    go_ret
    exact ⟨rfl, hB⟩

theorem dsc_any (d : ByteArray) (hd : d.size ≤ 2000000) (w : World) : Calls Tryz.prog 84 #[.string d] w fun e w' => e = .returned (.bool (dsB d)) ∧ Below w.heap.size w w' := by
  have hB : Below w.heap.size w w := Below.refl _ _
  go_enter Tryz.func84, Tryz.ntmps84
  go_wp2_with (first | (go_at_call 94; refine (rparse_any _ (by omega) _).mono ?_; rintro e w1 ⟨rfl, hb1⟩; obtain ⟨hc1, hf1⟩ := bcell hb1; have hz1 := hb1.size; (try simp only [World.size_alloc, World.size_setCell] at hz1); (try have hza : w.heap.size < w1.heap.size := by omega); (try have hzb : w.heap.size + 1 < w1.heap.size := by omega); (try have hzc : w.heap.size + 1 + 1 < w1.heap.size := by omega); (try have hzd : wa.heap.size < w1.heap.size := by omega); (try replace hR := (hb1.block w.heap.size (by first | exact lt_heap hR | (have := lt_heap hR; simp; omega))).trans (by first | with_reducible exact hR | with_reducible exact laid_old hR)); replace hB := below_on (w := w) ((by repeat (first | with_reducible exact hB | with_reducible exact Below.refl _ _ | with_reducible refine below_al ?_ _ | with_reducible refine below_st ?_ (by first | exact Nat.le_refl _ | exact Nat.le_add_right _ _ | (simp; omega)) _))) hb1; clear hb1) | (go_at_call 96; refine (rsig_all _ hd _).mono ?_; rintro e w1 ⟨A1, c1, rfl, _, _, hb1⟩; replace hB := below_on (w := w) (by repeat (first | with_reducible exact hB | with_reducible exact Below.refl _ _ | with_reducible refine below_al ?_ _ | with_reducible refine below_st ?_ (by first | exact Nat.le_refl _ | exact Nat.le_add_right _ _ | (simp; omega)) _)) hb1; clear hb1))
  all_goals go_ret
  · exact ⟨by rw [ds_1 (eqT (by assumption))]; rfl, (by repeat (first | with_reducible exact hB | with_reducible exact Below.refl _ _ | with_reducible refine below_al ?_ _ | with_reducible refine below_st ?_ (by first | exact Nat.le_refl _ | exact Nat.le_add_right _ _ | (simp; omega)) _))⟩
  · exact ⟨by rw [ds_2 (eqF (by assumption))]; rfl, (by repeat (first | with_reducible exact hB | with_reducible exact Below.refl _ _ | with_reducible refine below_al ?_ _ | with_reducible refine below_st ?_ (by first | exact Nat.le_refl _ | exact Nat.le_add_right _ _ | (simp; omega)) _))⟩

theorem cnt_any (n d : ByteArray) (hn : n.size ≤ 140737488351232) (hd : d.size ≤ 140737488351232) (w : World) : Calls Tryz.prog 89 #[.string n, .string d] w fun e w' => e = .returned (.int .i64 (ntxE n d)) ∧ Below w.heap.size w w' := by
  have hB : Below w.heap.size w w := Below.refl _ _
  go_enter Tryz.func89, Tryz.ntmps89
  go_wp2_with (first | (go_at_call 99; refine (mem_any _ (by omega) _).mono ?_; rintro e w' ⟨rfl, rfl⟩) | (go_at_call 98; refine (parse_any _ (by omega) _).mono ?_; rintro e w1 ⟨rfl, hb1⟩; obtain ⟨hc1, hf1⟩ := bcell hb1; have hz1 := hb1.size; (try simp only [World.size_alloc, World.size_setCell] at hz1); (try have hza : w.heap.size < w1.heap.size := by omega); (try have hzb : w.heap.size + 1 < w1.heap.size := by omega); (try have hzc : w.heap.size + 1 + 1 < w1.heap.size := by omega); (try have hzd : wa.heap.size < w1.heap.size := by omega); (try replace hR := (hb1.block w.heap.size (by first | exact lt_heap hR | (have := lt_heap hR; simp; omega))).trans (by first | with_reducible exact hR | with_reducible exact laid_old hR)); replace hB := below_on (w := w) ((by repeat (first | with_reducible exact hB | with_reducible exact Below.refl _ _ | with_reducible refine below_al ?_ _ | with_reducible refine below_st ?_ (by first | exact Nat.le_refl _ | exact Nat.le_add_right _ _ | (simp; omega)) _))) hb1; clear hb1) | (go_at_call 100; refine (psig_big _ hd _).mono ?_; rintro e w1 ⟨A1, c1, rfl, _, _, hb1⟩; replace hB := below_on (w := w) (by repeat (first | with_reducible exact hB | with_reducible exact Below.refl _ _ | with_reducible refine below_al ?_ _ | with_reducible refine below_st ?_ (by first | exact Nat.le_refl _ | exact Nat.le_add_right _ _ | (simp; omega)) _)) hb1; clear hb1))
  all_goals go_ret
  · exact ⟨by rw [ntx_1 (notT (by assumption))]; rfl, (by repeat (first | with_reducible exact hB | with_reducible exact Below.refl _ _ | with_reducible refine below_al ?_ _ | with_reducible refine below_st ?_ (by first | exact Nat.le_refl _ | exact Nat.le_add_right _ _ | (simp; omega)) _))⟩
  · exact ⟨by rw [ntx_2 (notF (by assumption)) (by rw [ds_1 (by assumption)]; assumption)]; rfl, (by repeat (first | with_reducible exact hB | with_reducible exact Below.refl _ _ | with_reducible refine below_al ?_ _ | with_reducible refine below_st ?_ (by first | exact Nat.le_refl _ | exact Nat.le_add_right _ _ | (simp; omega)) _))⟩
  · exact absurd (eqT (a := sgE d) (by assumption)) (pa_sg (by assumption))
  · exact ⟨by rw [ntx_3 (notF (by assumption)) (by rw [ds_1 (by assumption)]; assumption)]; rfl, (by repeat (first | with_reducible exact hB | with_reducible exact Below.refl _ _ | with_reducible refine below_al ?_ _ | with_reducible refine below_st ?_ (by first | exact Nat.le_refl _ | exact Nat.le_add_right _ _ | (simp; omega)) _))⟩
  · exact ⟨by rw [ntx_2 (notF (by assumption)) (by rw [ds_2 (by assumption)]; assumption)]; rfl, (by repeat (first | with_reducible exact hB | with_reducible exact Below.refl _ _ | with_reducible refine below_al ?_ _ | with_reducible refine below_st ?_ (by first | exact Nat.le_refl _ | exact Nat.le_add_right _ _ | (simp; omega)) _))⟩
  · exact ⟨by rw [ntx_3 (notF (by assumption)) (by rw [ds_2 (by assumption)]; assumption)]; rfl, (by repeat (first | with_reducible exact hB | with_reducible exact Below.refl _ _ | with_reducible refine below_al ?_ _ | with_reducible refine below_st ?_ (by first | exact Nat.le_refl _ | exact Nat.le_add_right _ _ | (simp; omega)) _))⟩

def mbE (t : Int) (n d : ByteArray) : Int :=
  if ((t == 9) == (sgE d == 0)) = true then 13
  else if t = 9 then (if ltB n = true then 12 else 0)
  else if clB n = true then 12
  else if inB n = true then (if t = 11 then 12 else if sgB d = 86 then 0 else 12)
  else 0
theorem mb_1 {t : Int} {n d : ByteArray} (h : ((t == 9) == (sgE d == 0)) = true) : mbE t n d = 13 := by unfold mbE; rw [if_pos h]
theorem mb_r {t : Int} {d : ByteArray} {b : Bool} (h : ((sgE d == 0) == (t == 9)) = b) : ((t == 9) == (sgE d == 0)) = b := by rw [← h]; cases (t == 9) <;> cases (sgE d == 0) <;> rfl
theorem mb_2 {t : Int} {n d : ByteArray} (h : ((t == 9) == (sgE d == 0)) = false) (h1 : (t == 9) = true) (h2 : ltB n = true) : mbE t n d = 12 := by unfold mbE; rw [h, if_neg (by decide), if_pos (eqT h1), h2]; rfl
theorem mb_3 {t : Int} {n d : ByteArray} (h : ((t == 9) == (sgE d == 0)) = false) (h1 : (t == 9) = true) (h2 : ltB n = false) : mbE t n d = 0 := by unfold mbE; rw [h, if_neg (by decide), if_pos (eqT h1), h2]; rfl
theorem mb_4 {t : Int} {n d : ByteArray} (h : ((t == 9) == (sgE d == 0)) = false) (h1 : (t == 9) = false) (h2 : clB n = true) : mbE t n d = 12 := by unfold mbE; rw [h, if_neg (by decide), if_neg (eqF h1), h2]; rfl
theorem mb_5 {t : Int} {n d : ByteArray} (h : ((t == 9) == (sgE d == 0)) = false) (h1 : (t == 9) = false) (h2 : clB n = false) (h3 : inB n = true) (h4 : t = 11) : mbE t n d = 12 := by unfold mbE; rw [h, if_neg (by decide), if_neg (eqF h1), h2, h3, if_neg (by decide), if_pos rfl, if_pos h4]
theorem mb_6 {t : Int} {n d : ByteArray} (h : ((t == 9) == (sgE d == 0)) = false) (h1 : (t == 9) = false) (h2 : clB n = false) (h3 : inB n = true) (h4 : ¬ t = 11) (h5 : (t == 11) = true ∨ (sgB d != 86) = true) : mbE t n d = 12 := by
  unfold mbE; rw [h, if_neg (by decide), if_neg (eqF h1), h2, h3, if_neg (by decide), if_pos rfl, if_neg h4, if_neg]
  rcases h5 with h5 | h5
  · exact absurd (eqT h5) h4
  · exact bneT h5
theorem mb_7 {t : Int} {n d : ByteArray} (h : ((t == 9) == (sgE d == 0)) = false) (h1 : (t == 9) = false) (h2 : clB n = false) (h3 : inB n = true) (h4 : ¬ t = 11) (h5 : (t == 11) = false ∧ (sgB d != 86) = false) : mbE t n d = 0 := by
  unfold mbE; rw [h, if_neg (by decide), if_neg (eqF h1), h2, h3, if_neg (by decide), if_pos rfl, if_neg h4, if_pos (bneF h5.2)]
theorem mb_8 {t : Int} {n d : ByteArray} (h : ((t == 9) == (sgE d == 0)) = false) (h1 : (t == 9) = false) (h2 : clB n = false) (h3 : inB n = false) : mbE t n d = 0 := by unfold mbE; rw [h, if_neg (by decide), if_neg (eqF h1), h2, h3]; rfl
theorem cl_p {n : ByteArray} (h : n.toList = [60, 99, 108, 105, 110, 105, 116, 62]) : clB n = true := by unfold clB; rw [h]; rfl
theorem cl_n {n : ByteArray} (h : ¬ n.toList = [60, 99, 108, 105, 110, 105, 116, 62]) : clB n = false := by unfold clB; simpa using h
theorem in_p {n : ByteArray} (h : n.toList = [60, 105, 110, 105, 116, 62]) : inB n = true := by unfold inB; rw [h]; rfl
theorem in_n {n : ByteArray} (h : ¬ n.toList = [60, 105, 110, 105, 116, 62]) : inB n = false := by unfold inB; simpa using h
theorem lt_is (s : ByteArray) : ltB s = true ↔ 0 < s.size ∧ bt s 0 = 60 := by
  have hl := len_data s
  unfold ltB Lib.hasPrefix
  rw [bt_data]
  cases h : s.data.toList with
  | nil => rw [h] at hl; simp at hl; simp [← hl]
  | cons c l =>
    rw [h] at hl
    simp only [List.length_cons] at hl
    simp only [List.isPrefixOf, List.getD_cons_zero]
    constructor
    · intro h; simp at h; subst h; exact ⟨by omega, rfl⟩
    · rintro ⟨_, h2⟩
      have := u8_yes (c := 60) h2
      subst this; rfl
theorem lt_p {s : ByteArray} (h : 0 < s.size) (h1 : (bt s 0 == 60) = true) : ltB s = true := (lt_is s).2 ⟨h, eqT h1⟩
theorem lt_n {s : ByteArray} (h1 : (bt s 0 == 60) = false) : ltB s = false := by
  cases e : ltB s with
  | false => rfl
  | true => exact absurd ((lt_is s).1 e).2 (eqF h1)
theorem lt_z {s : ByteArray} (h1 : ¬ 0 < s.size) : ltB s = false := by
  cases e : ltB s with
  | false => rfl
  | true => exact absurd ((lt_is s).1 e).1 h1
theorem has60_any (s : ByteArray) (w : World) :
    Calls Tryz.prog 28 #[.string s, .string ⟨#[60]⟩] w fun e w' => e = .returned (.bool (ltB s)) ∧ w = w' :=
  (Tryz.strings_HasPrefix s ⟨#[60]⟩ w).mono fun e w' h => ⟨h.1, h.2.symm⟩

theorem cmb_any (t : Int) (n d : ByteArray) (hn : n.size ≤ 140737488351232) (hd : d.size ≤ 140737488351232) (w : World) : Calls Tryz.prog 91 #[.int .i64 t, .string n, .string d] w fun e w' => e = .returned (.int .i64 (mbE t n d)) ∧ Below w.heap.size w w' := by
  have hB : Below w.heap.size w w := Below.refl _ _
  go_enter Tryz.func91, Tryz.ntmps91
  go_wp2_with (first | (go_at_call 28; refine (has60_any _ _).mono ?_; rintro e w' ⟨rfl, rfl⟩) | (go_at_call 100; refine (psig_big _ hd _).mono ?_; rintro e w1 ⟨A1, c1, rfl, _, _, hb1⟩; replace hB := below_on (w := w) (by repeat (first | with_reducible exact hB | with_reducible exact Below.refl _ _ | with_reducible refine below_al ?_ _ | with_reducible refine below_st ?_ (by first | exact Nat.le_refl _ | exact Nat.le_add_right _ _ | (simp; omega)) _)) hb1; clear hb1))
  all_goals go_ret
  · exact ⟨by rw [mb_1 (d := d) (by assumption)]; rfl, (by repeat (first | with_reducible exact hB | with_reducible exact Below.refl _ _ | with_reducible refine below_al ?_ _ | with_reducible refine below_st ?_ (by first | exact Nat.le_refl _ | exact Nat.le_add_right _ _ | (simp; omega)) _))⟩
  · exact ⟨by rw [mb_2 (d := d) (by assumption) (by assumption) (by assumption)]; rfl, (by repeat (first | with_reducible exact hB | with_reducible exact Below.refl _ _ | with_reducible refine below_al ?_ _ | with_reducible refine below_st ?_ (by first | exact Nat.le_refl _ | exact Nat.le_add_right _ _ | (simp; omega)) _))⟩
  · exact ⟨by rw [mb_3 (d := d) (by assumption) (by assumption) (by assumption)]; rfl, (by repeat (first | with_reducible exact hB | with_reducible exact Below.refl _ _ | with_reducible refine below_al ?_ _ | with_reducible refine below_st ?_ (by first | exact Nat.le_refl _ | exact Nat.le_add_right _ _ | (simp; omega)) _))⟩
  · exact ⟨by rw [mb_4 (d := d) (by assumption) (by assumption) (by assumption)]; rfl, (by repeat (first | with_reducible exact hB | with_reducible exact Below.refl _ _ | with_reducible refine below_al ?_ _ | with_reducible refine below_st ?_ (by first | exact Nat.le_refl _ | exact Nat.le_add_right _ _ | (simp; omega)) _))⟩
  · exact ⟨by rw [mb_5 (d := d) (by assumption) (by assumption) (by assumption) (by assumption) (by assumption)]; rfl, (by repeat (first | with_reducible exact hB | with_reducible exact Below.refl _ _ | with_reducible refine below_al ?_ _ | with_reducible refine below_st ?_ (by first | exact Nat.le_refl _ | exact Nat.le_add_right _ _ | (simp; omega)) _))⟩
  · exact ⟨by rw [mb_6 (d := d) (by assumption) (by assumption) (by assumption) (by assumption) (by assumption) (by assumption)]; rfl, (by repeat (first | with_reducible exact hB | with_reducible exact Below.refl _ _ | with_reducible refine below_al ?_ _ | with_reducible refine below_st ?_ (by first | exact Nat.le_refl _ | exact Nat.le_add_right _ _ | (simp; omega)) _))⟩
  · exact ⟨by rw [mb_7 (d := d) (by assumption) (by assumption) (by assumption) (by assumption) (by assumption) (by assumption)]; rfl, (by repeat (first | with_reducible exact hB | with_reducible exact Below.refl _ _ | with_reducible refine below_al ?_ _ | with_reducible refine below_st ?_ (by first | exact Nat.le_refl _ | exact Nat.le_add_right _ _ | (simp; omega)) _))⟩
  · exact ⟨by rw [mb_8 (d := d) (by assumption) (by assumption) (by assumption) (by assumption)]; rfl, (by repeat (first | with_reducible exact hB | with_reducible exact Below.refl _ _ | with_reducible refine below_al ?_ _ | with_reducible refine below_st ?_ (by first | exact Nat.le_refl _ | exact Nat.le_add_right _ _ | (simp; omega)) _))⟩

theorem nmd_any (t : Int) (n d : ByteArray) (hn : n.size ≤ 2000000) (hd : d.size ≤ 2000000) (w : World) : Calls Tryz.prog 86 #[.int .i64 t, .string n, .string d] w fun e w' => e = .returned (.int .i64 (mbE t n d)) ∧ Below w.heap.size w w' := by
  have hB : Below w.heap.size w w := Below.refl _ _
  have hgb := get_bt n
  go_enter Tryz.func86, Tryz.ntmps86
  go_wp2_with (go_at_call 96; refine (rsig_all _ hd _).mono ?_; rintro e w1 ⟨A1, c1, rfl, _, _, hb1⟩; replace hB := below_on (w := w) (by repeat (first | with_reducible exact hB | with_reducible exact Below.refl _ _ | with_reducible refine below_al ?_ _ | with_reducible refine below_st ?_ (by first | exact Nat.le_refl _ | exact Nat.le_add_right _ _ | (simp; omega)) _)) hb1; clear hb1)
  all_goals go_ret
  · exact ⟨by rw [mb_1 (d := d) (mb_r (by assumption))]; rfl, (by repeat (first | with_reducible exact hB | with_reducible exact Below.refl _ _ | with_reducible refine below_al ?_ _ | with_reducible refine below_st ?_ (by first | exact Nat.le_refl _ | exact Nat.le_add_right _ _ | (simp; omega)) _))⟩
  · exact ⟨by rw [mb_2 (d := d) (mb_r (by assumption)) (by assumption) (lt_p (by assumption) (by assumption))]; rfl, (by repeat (first | with_reducible exact hB | with_reducible exact Below.refl _ _ | with_reducible refine below_al ?_ _ | with_reducible refine below_st ?_ (by first | exact Nat.le_refl _ | exact Nat.le_add_right _ _ | (simp; omega)) _))⟩
  · exact ⟨by rw [mb_3 (d := d) (mb_r (by assumption)) (by assumption) (lt_n (by assumption))]; rfl, (by repeat (first | with_reducible exact hB | with_reducible exact Below.refl _ _ | with_reducible refine below_al ?_ _ | with_reducible refine below_st ?_ (by first | exact Nat.le_refl _ | exact Nat.le_add_right _ _ | (simp; omega)) _))⟩
  · exact ⟨by rw [mb_3 (d := d) (mb_r (by assumption)) (by assumption) (lt_z (by assumption))]; rfl, (by repeat (first | with_reducible exact hB | with_reducible exact Below.refl _ _ | with_reducible refine below_al ?_ _ | with_reducible refine below_st ?_ (by first | exact Nat.le_refl _ | exact Nat.le_add_right _ _ | (simp; omega)) _))⟩
  · exact ⟨by rw [mb_4 (d := d) (mb_r (by assumption)) (by assumption) (cl_p (by assumption))]; rfl, (by repeat (first | with_reducible exact hB | with_reducible exact Below.refl _ _ | with_reducible refine below_al ?_ _ | with_reducible refine below_st ?_ (by first | exact Nat.le_refl _ | exact Nat.le_add_right _ _ | (simp; omega)) _))⟩
  · exact ⟨by rw [mb_5 (d := d) (mb_r (by assumption)) (by assumption) (cl_n (by assumption)) (in_p (by assumption)) (by assumption)]; rfl, (by repeat (first | with_reducible exact hB | with_reducible exact Below.refl _ _ | with_reducible refine below_al ?_ _ | with_reducible refine below_st ?_ (by first | exact Nat.le_refl _ | exact Nat.le_add_right _ _ | (simp; omega)) _))⟩
  · exact ⟨by rw [mb_6 (d := d) (mb_r (by assumption)) (by assumption) (cl_n (by assumption)) (in_p (by assumption)) (by assumption) (by assumption)]; rfl, (by repeat (first | with_reducible exact hB | with_reducible exact Below.refl _ _ | with_reducible refine below_al ?_ _ | with_reducible refine below_st ?_ (by first | exact Nat.le_refl _ | exact Nat.le_add_right _ _ | (simp; omega)) _))⟩
  · exact ⟨by rw [mb_7 (d := d) (mb_r (by assumption)) (by assumption) (cl_n (by assumption)) (in_p (by assumption)) (by assumption) (by assumption)]; rfl, (by repeat (first | with_reducible exact hB | with_reducible exact Below.refl _ _ | with_reducible refine below_al ?_ _ | with_reducible refine below_st ?_ (by first | exact Nat.le_refl _ | exact Nat.le_add_right _ _ | (simp; omega)) _))⟩
  · exact ⟨by rw [mb_4 (d := d) (mb_r (by assumption)) (by assumption) (by assumption)]; rfl, (by repeat (first | with_reducible exact hB | with_reducible exact Below.refl _ _ | with_reducible refine below_al ?_ _ | with_reducible refine below_st ?_ (by first | exact Nat.le_refl _ | exact Nat.le_add_right _ _ | (simp; omega)) _))⟩
  · exact ⟨by rw [mb_8 (d := d) (mb_r (by assumption)) (by assumption) (cl_n (by assumption)) (in_n (by assumption))]; rfl, (by repeat (first | with_reducible exact hB | with_reducible exact Below.refl _ _ | with_reducible refine below_al ?_ _ | with_reducible refine below_st ?_ (by first | exact Nat.le_refl _ | exact Nat.le_add_right _ _ | (simp; omega)) _))⟩

end Go.Proofs.YthfegbhbokhlkaaGreatDoor
