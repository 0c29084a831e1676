import Derived.Test.YtalejaklggnnpaaGreatDoorPjM
import Derived.Test.YtalejaklggnnpaaGreatDoorDsM
import Derived.Test.YtalejaklggnnpaaGreatDoorNmM
import Derived.Deep.RegionHeld3
/- PoolChk -/
/- Layer 5: what Check asks of texts, in the package and in its reference. -/
namespace Go.Proofs.YtalejaklggnnpaaGreatDoor
open Go.ChangeShapes Go.WideShapes Go.ChangeAt Go.RowKit Go.PlainAid
set_option linter.unusedSimpArgs false
set_option linter.unusedVariables false
def sgE (d : ByteArray) : Int := (sgOf d.data.toList).2.2
def sgB (d : ByteArray) : Int := (sgOf d.data.toList).2.1.2.1
def dsB (d : ByteArray) : Bool := if paE d = 0 then (if paB d = 86 then false else true) else (if sgE d = 0 then true else false)
theorem pa_sg {d : ByteArray} (h : paE d = 0) : ¬ sgE d = 0 := by
 intro hs
 have h40 : d.data.toList.getD 0 0 = 40 := by
  by_cases e : d.data.toList.getD 0 0 = 40
  ·
   exact e
  ·
   unfold sgE at hs; rw [sg_open e] at hs; cases hs
 by_cases hp : 0 < preN d.data.toList ∧ preN d.data.toList = d.size
 ·
  exfalso
  have hn := hp.1
  have hl : lead d.data.toList = 0 := by
   unfold lead
   cases e : d.data.toList with
   | nil => rfl
   | cons c r =>
    rw [e] at h40
    have : c = 40 := by simpa using h40
    subst this
    rfl
  have hlen : 0 < d.data.toList.length := by
   have := pre_le d.data.toList
   omega
  have hb : ((d.data.toList.getD (lead d.data.toList) 0).toNat : Int) = 40 := by rw [hl, h40]; rfl
  have hv : preN d.data.toList = 0 := by
   unfold preN
   rw [pre_prim (by rw [hl]; exact hlen) (by rw [hb]; decide), hb, pre_bad]
   rw [hl]; decide +kernel
  omega
 ·
  rw [(pa_bad hp).2.2.2] at h; cases h
theorem eqT {a b : Int} (h : (a == b) = true) : a = b := by simpa using h
theorem eqF {a b : Int} (h : (a == b) = false) : ¬ a = b := by simpa using h
theorem ds_1 {d : ByteArray} (h : paE d = 0) : dsB d = (paB d != 86) := by
 unfold dsB; rw [if_pos h]
 by_cases h1 : paB d = 86
 ·
  rw [if_pos h1, h1]; rfl
 ·
  rw [if_neg h1]; simp [h1]
theorem ds_2 {d : ByteArray} (h : ¬ paE d = 0) : dsB d = (sgE d == 0) := by
 unfold dsB; rw [if_neg h]
 by_cases h1 : sgE d = 0
 ·
  rw [if_pos h1, h1]; rfl
 ·
  rw [if_neg h1]; simp [h1]
def clB (n : ByteArray) : Bool := n.toList == [60, 99, 108, 105, 110, 105, 116, 62]
def inB (n : ByteArray) : Bool := n.toList == [60, 105, 110, 105, 116, 62]
def ltB (n : ByteArray) : Bool := Lib.hasPrefix n.data.toList [60]
def ntxE (n d : ByteArray) : Int := if memB n = true then (if dsB d = true then 0 else 13) else 12
theorem ntx_1 {n d : ByteArray} (h : memB n = false) : ntxE n d = 12 := by unfold ntxE; rw [h]; rfl
theorem ntx_2 {n d : ByteArray} (h : memB n = true) (h1 : dsB d = true) : ntxE n d = 0 := by unfold ntxE; rw [h, h1]; rfl
theorem ntx_3 {n d : ByteArray} (h : memB n = true) (h1 : dsB d = false) : ntxE n d = 13 := by unfold ntxE; rw [h, h1]; rfl
def tli (b : Bool) : Int := if b = true then 8 else 0
theorem tli_any (b : Bool) (w : World) : Calls Tryz.prog 141 #[.bool b] w fun e w' => e = .returned (.int .i64 (tli b)) ∧ Below w.heap.size w w' := by
 have hB : Below w.heap.size w w := Below.refl _ _
 cases b
 all_goals
  go_enter Tryz.func141, Tryz.ntmps141
  go_wp2
  go_ret
  exact ⟨rfl, hB⟩
theorem dsc_any (d : ByteArray) (hd : d.size ≤ 2000000) (w : World) : Calls Tryz.prog 176 #[.string d] w fun e w' => e = .returned (.bool (dsB d)) ∧ Below w.heap.size w w' := by
 have hB : Below w.heap.size w w := Below.refl _ _
 go_enter Tryz.func176, Tryz.ntmps176
 go_wp2_with (first | (go_at_call 125; refine (rparse_any _ (by omega) _).mono ?_; rintro e w1 ⟨rfl, hb1⟩; obtain ⟨hc1, hf1⟩ := bcell hb1; have hz1 := hb1.size; (try simp only [World.size_alloc, World.size_setCell] at hz1); (try have hza : w.heap.size < w1.heap.size := by omega); (try have hzb : w.heap.size + 1 < w1.heap.size := by omega); (try have hzc : w.heap.size + 1 + 1 < w1.heap.size := by omega); (try have hzd : wa.heap.size < w1.heap.size := by omega); (try replace hR := (hb1.block w.heap.size (by first | exact lt_heap hR | (have := lt_heap hR; simp; omega))).trans (by first | with_reducible exact hR | with_reducible exact laid_old hR)); replace hB := below_on (w := w) ((by repeat (first | with_reducible exact hB | with_reducible exact Below.refl _ _ | with_reducible refine below_al ?_ _ | with_reducible refine below_st ?_ (by first | exact Nat.le_refl _ | exact Nat.le_add_right _ _ | (simp; omega)) _))) hb1; clear hb1) | (go_at_call 190; refine (rsig_all _ hd _).mono ?_; rintro e w1 ⟨A1, c1, rfl, _, _, hb1⟩; replace hB := below_on (w := w) (by repeat (first | with_reducible exact hB | with_reducible exact Below.refl _ _ | with_reducible refine below_al ?_ _ | with_reducible refine below_st ?_ (by first | exact Nat.le_refl _ | exact Nat.le_add_right _ _ | (simp; omega)) _)) hb1; clear hb1))
 all_goals go_ret
 ·
  exact ⟨by rw [ds_1 (eqT (by assumption))]; rfl, (by repeat (first | with_reducible exact hB | with_reducible exact Below.refl _ _ | with_reducible refine below_al ?_ _ | with_reducible refine below_st ?_ (by first | exact Nat.le_refl _ | exact Nat.le_add_right _ _ | (simp; omega)) _))⟩
 ·
  exact ⟨by rw [ds_2 (eqF (by assumption))]; rfl, (by repeat (first | with_reducible exact hB | with_reducible exact Below.refl _ _ | with_reducible refine below_al ?_ _ | with_reducible refine below_st ?_ (by first | exact Nat.le_refl _ | exact Nat.le_add_right _ _ | (simp; omega)) _))⟩
theorem cnt_any (n d : ByteArray) (hn : n.size ≤ 140737488351232) (hd : d.size ≤ 140737488351232) (w : World) : Calls Tryz.prog 184 #[.string n, .string d] w fun e w' => e = .returned (.int .i64 (ntxE n d)) ∧ Below w.heap.size w w' := by
 have hB : Below w.heap.size w w := Below.refl _ _
 go_enter Tryz.func184, Tryz.ntmps184
 go_wp2_with (first | (go_at_call 191; refine (mem_any _ (by omega) _).mono ?_; rintro e w' ⟨rfl, rfl⟩) | (go_at_call 110; refine (parse_any _ (by omega) _).mono ?_; rintro e w1 ⟨rfl, hb1⟩; obtain ⟨hc1, hf1⟩ := bcell hb1; have hz1 := hb1.size; (try simp only [World.size_alloc, World.size_setCell] at hz1); (try have hza : w.heap.size < w1.heap.size := by omega); (try have hzb : w.heap.size + 1 < w1.heap.size := by omega); (try have hzc : w.heap.size + 1 + 1 < w1.heap.size := by omega); (try have hzd : wa.heap.size < w1.heap.size := by omega); (try replace hR := (hb1.block w.heap.size (by first | exact lt_heap hR | (have := lt_heap hR; simp; omega))).trans (by first | with_reducible exact hR | with_reducible exact laid_old hR)); replace hB := below_on (w := w) ((by repeat (first | with_reducible exact hB | with_reducible exact Below.refl _ _ | with_reducible refine below_al ?_ _ | with_reducible refine below_st ?_ (by first | exact Nat.le_refl _ | exact Nat.le_add_right _ _ | (simp; omega)) _))) hb1; clear hb1) | (go_at_call 192; refine (psig_big _ hd _).mono ?_; rintro e w1 ⟨A1, c1, rfl, _, _, hb1⟩; replace hB := below_on (w := w) (by repeat (first | with_reducible exact hB | with_reducible exact Below.refl _ _ | with_reducible refine below_al ?_ _ | with_reducible refine below_st ?_ (by first | exact Nat.le_refl _ | exact Nat.le_add_right _ _ | (simp; omega)) _)) hb1; clear hb1))
 all_goals go_ret
 ·
  exact ⟨by rw [ntx_1 (notT (by assumption))]; rfl, (by repeat (first | with_reducible exact hB | with_reducible exact Below.refl _ _ | with_reducible refine below_al ?_ _ | with_reducible refine below_st ?_ (by first | exact Nat.le_refl _ | exact Nat.le_add_right _ _ | (simp; omega)) _))⟩
 ·
  exact ⟨by rw [ntx_2 (notF (by assumption)) (by rw [ds_1 (by assumption)]; assumption)]; rfl, (by repeat (first | with_reducible exact hB | with_reducible exact Below.refl _ _ | with_reducible refine below_al ?_ _ | with_reducible refine below_st ?_ (by first | exact Nat.le_refl _ | exact Nat.le_add_right _ _ | (simp; omega)) _))⟩
 ·
  exact absurd (eqT (a := sgE d) (by assumption)) (pa_sg (by assumption))
 ·
  exact ⟨by rw [ntx_3 (notF (by assumption)) (by rw [ds_1 (by assumption)]; assumption)]; rfl, (by repeat (first | with_reducible exact hB | with_reducible exact Below.refl _ _ | with_reducible refine below_al ?_ _ | with_reducible refine below_st ?_ (by first | exact Nat.le_refl _ | exact Nat.le_add_right _ _ | (simp; omega)) _))⟩
 ·
  exact ⟨by rw [ntx_2 (notF (by assumption)) (by rw [ds_2 (by assumption)]; assumption)]; rfl, (by repeat (first | with_reducible exact hB | with_reducible exact Below.refl _ _ | with_reducible refine below_al ?_ _ | with_reducible refine below_st ?_ (by first | exact Nat.le_refl _ | exact Nat.le_add_right _ _ | (simp; omega)) _))⟩
 ·
  exact ⟨by rw [ntx_3 (notF (by assumption)) (by rw [ds_2 (by assumption)]; assumption)]; rfl, (by repeat (first | with_reducible exact hB | with_reducible exact Below.refl _ _ | with_reducible refine below_al ?_ _ | with_reducible refine below_st ?_ (by first | exact Nat.le_refl _ | exact Nat.le_add_right _ _ | (simp; omega)) _))⟩
def mbE (t : Int) (n d : ByteArray) : Int :=
 if ((t == 9) == (sgE d == 0)) = true then 13
 else if t = 9 then (if ltB n = true then 12 else 0)
 else if clB n = true then 12
 else if inB n = true then (if t = 11 then 12 else if sgB d = 86 then 0 else 12)
 else 0
theorem mb_1 {t : Int} {n d : ByteArray} (h : ((t == 9) == (sgE d == 0)) = true) : mbE t n d = 13 := by unfold mbE; rw [if_pos h]
theorem mb_r {t : Int} {d : ByteArray} {b : Bool} (h : ((sgE d == 0) == (t == 9)) = b) : ((t == 9) == (sgE d == 0)) = b := by rw [← h]; cases (t == 9) <;> cases (sgE d == 0) <;> rfl
theorem mb_2 {t : Int} {n d : ByteArray} (h : ((t == 9) == (sgE d == 0)) = false) (h1 : (t == 9) = true) (h2 : ltB n = true) : mbE t n d = 12 := by unfold mbE; rw [h, if_neg (by decide), if_pos (eqT h1), h2]; rfl
theorem mb_3 {t : Int} {n d : ByteArray} (h : ((t == 9) == (sgE d == 0)) = false) (h1 : (t == 9) = true) (h2 : ltB n = false) : mbE t n d = 0 := by unfold mbE; rw [h, if_neg (by decide), if_pos (eqT h1), h2]; rfl
theorem mb_4 {t : Int} {n d : ByteArray} (h : ((t == 9) == (sgE d == 0)) = false) (h1 : (t == 9) = false) (h2 : clB n = true) : mbE t n d = 12 := by unfold mbE; rw [h, if_neg (by decide), if_neg (eqF h1), h2]; rfl
theorem mb_5 {t : Int} {n d : ByteArray} (h : ((t == 9) == (sgE d == 0)) = false) (h1 : (t == 9) = false) (h2 : clB n = false) (h3 : inB n = true) (h4 : t = 11) : mbE t n d = 12 := by unfold mbE; rw [h, if_neg (by decide), if_neg (eqF h1), h2, h3, if_neg (by decide), if_pos rfl, if_pos h4]
theorem mb_6 {t : Int} {n d : ByteArray} (h : ((t == 9) == (sgE d == 0)) = false) (h1 : (t == 9) = false) (h2 : clB n = false) (h3 : inB n = true) (h4 : ¬ t = 11) (h5 : (t == 11) = true ∨ (sgB d != 86) = true) : mbE t n d = 12 := by
 unfold mbE; rw [h, if_neg (by decide), if_neg (eqF h1), h2, h3, if_neg (by decide), if_pos rfl, if_neg h4, if_neg]
 rcases h5 with h5 | h5
 ·
  exact absurd (eqT h5) h4
 ·
  exact bneT h5
theorem mb_7 {t : Int} {n d : ByteArray} (h : ((t == 9) == (sgE d == 0)) = false) (h1 : (t == 9) = false) (h2 : clB n = false) (h3 : inB n = true) (h4 : ¬ t = 11) (h5 : (t == 11) = false ∧ (sgB d != 86) = false) : mbE t n d = 0 := by
 unfold mbE; rw [h, if_neg (by decide), if_neg (eqF h1), h2, h3, if_neg (by decide), if_pos rfl, if_neg h4, if_pos (bneF h5.2)]
theorem mb_8 {t : Int} {n d : ByteArray} (h : ((t == 9) == (sgE d == 0)) = false) (h1 : (t == 9) = false) (h2 : clB n = false) (h3 : inB n = false) : mbE t n d = 0 := by unfold mbE; rw [h, if_neg (by decide), if_neg (eqF h1), h2, h3]; rfl
theorem cl_p {n : ByteArray} (h : n.toList = [60, 99, 108, 105, 110, 105, 116, 62]) : clB n = true := by unfold clB; rw [h]; rfl
theorem cl_n {n : ByteArray} (h : ¬ n.toList = [60, 99, 108, 105, 110, 105, 116, 62]) : clB n = false := by unfold clB; simpa using h
theorem in_p {n : ByteArray} (h : n.toList = [60, 105, 110, 105, 116, 62]) : inB n = true := by unfold inB; rw [h]; rfl
theorem in_n {n : ByteArray} (h : ¬ n.toList = [60, 105, 110, 105, 116, 62]) : inB n = false := by unfold inB; simpa using h
theorem lt_is (s : ByteArray) : ltB s = true ↔ 0 < s.size ∧ bt s 0 = 60 := by
 have hl := len_data s
 unfold ltB Lib.hasPrefix
 rw [bt_data]
 cases h : s.data.toList with
 | nil => rw [h] at hl; simp at hl; simp [← hl]
 | cons c l =>
  rw [h] at hl
  simp only [List.length_cons] at hl
  simp only [List.isPrefixOf, List.getD_cons_zero]
  constructor
  ·
   intro h; simp at h; subst h; exact ⟨by omega, rfl⟩
  ·
   rintro ⟨_, h2⟩
   have := u8_yes (c := 60) h2
   subst this; rfl
theorem lt_p {s : ByteArray} (h : 0 < s.size) (h1 : (bt s 0 == 60) = true) : ltB s = true := (lt_is s).2 ⟨h, eqT h1⟩
theorem lt_n {s : ByteArray} (h1 : (bt s 0 == 60) = false) : ltB s = false := by
 cases e : ltB s with
 | false => rfl
 | true => exact absurd ((lt_is s).1 e).2 (eqF h1)
theorem lt_z {s : ByteArray} (h1 : ¬ 0 < s.size) : ltB s = false := by
 cases e : ltB s with
 | false => rfl
 | true => exact absurd ((lt_is s).1 e).1 h1
theorem has60_any (s : ByteArray) (w : World) :
  Calls Tryz.prog 113 #[.string s, .string ⟨#[60]⟩] w fun e w' => e = .returned (.bool (ltB s)) ∧ w = w' :=
 (Tryz.strings_HasPrefix s ⟨#[60]⟩ w).mono fun e w' h => ⟨h.1, h.2.symm⟩
theorem cmb_any (t : Int) (n d : ByteArray) (hn : n.size ≤ 140737488351232) (hd : d.size ≤ 140737488351232) (w : World) : Calls Tryz.prog 185 #[.int .i64 t, .string n, .string d] w fun e w' => e = .returned (.int .i64 (mbE t n d)) ∧ Below w.heap.size w w' := by
 have hB : Below w.heap.size w w := Below.refl _ _
 go_enter Tryz.func185, Tryz.ntmps185
 go_wp2_with (first | (go_at_call 113; refine (has60_any _ _).mono ?_; rintro e w' ⟨rfl, rfl⟩) | (go_at_call 192; refine (psig_big _ hd _).mono ?_; rintro e w1 ⟨A1, c1, rfl, _, _, hb1⟩; replace hB := below_on (w := w) (by repeat (first | with_reducible exact hB | with_reducible exact Below.refl _ _ | with_reducible refine below_al ?_ _ | with_reducible refine below_st ?_ (by first | exact Nat.le_refl _ | exact Nat.le_add_right _ _ | (simp; omega)) _)) hb1; clear hb1))
 all_goals go_ret
 ·
  exact ⟨by rw [mb_1 (d := d) (by assumption)]; rfl, (by repeat (first | with_reducible exact hB | with_reducible exact Below.refl _ _ | with_reducible refine below_al ?_ _ | with_reducible refine below_st ?_ (by first | exact Nat.le_refl _ | exact Nat.le_add_right _ _ | (simp; omega)) _))⟩
 ·
  exact ⟨by rw [mb_2 (d := d) (by assumption) (by assumption) (by assumption)]; rfl, (by repeat (first | with_reducible exact hB | with_reducible exact Below.refl _ _ | with_reducible refine below_al ?_ _ | with_reducible refine below_st ?_ (by first | exact Nat.le_refl _ | exact Nat.le_add_right _ _ | (simp; omega)) _))⟩
 ·
  exact ⟨by rw [mb_3 (d := d) (by assumption) (by assumption) (by assumption)]; rfl, (by repeat (first | with_reducible exact hB | with_reducible exact Below.refl _ _ | with_reducible refine below_al ?_ _ | with_reducible refine below_st ?_ (by first | exact Nat.le_refl _ | exact Nat.le_add_right _ _ | (simp; omega)) _))⟩
 ·
  exact ⟨by rw [mb_4 (d := d) (by assumption) (by assumption) (by assumption)]; rfl, (by repeat (first | with_reducible exact hB | with_reducible exact Below.refl _ _ | with_reducible refine below_al ?_ _ | with_reducible refine below_st ?_ (by first | exact Nat.le_refl _ | exact Nat.le_add_right _ _ | (simp; omega)) _))⟩
 ·
  exact ⟨by rw [mb_5 (d := d) (by assumption) (by assumption) (by assumption) (by assumption) (by assumption)]; rfl, (by repeat (first | with_reducible exact hB | with_reducible exact Below.refl _ _ | with_reducible refine below_al ?_ _ | with_reducible refine below_st ?_ (by first | exact Nat.le_refl _ | exact Nat.le_add_right _ _ | (simp; omega)) _))⟩
 ·
  exact ⟨by rw [mb_6 (d := d) (by assumption) (by assumption) (by assumption) (by assumption) (by assumption) (by assumption)]; rfl, (by repeat (first | with_reducible exact hB | with_reducible exact Below.refl _ _ | with_reducible refine below_al ?_ _ | with_reducible refine below_st ?_ (by first | exact Nat.le_refl _ | exact Nat.le_add_right _ _ | (simp; omega)) _))⟩
 ·
  exact ⟨by rw [mb_7 (d := d) (by assumption) (by assumption) (by assumption) (by assumption) (by assumption) (by assumption)]; rfl, (by repeat (first | with_reducible exact hB | with_reducible exact Below.refl _ _ | with_reducible refine below_al ?_ _ | with_reducible refine below_st ?_ (by first | exact Nat.le_refl _ | exact Nat.le_add_right _ _ | (simp; omega)) _))⟩
 ·
  exact ⟨by rw [mb_8 (d := d) (by assumption) (by assumption) (by assumption) (by assumption)]; rfl, (by repeat (first | with_reducible exact hB | with_reducible exact Below.refl _ _ | with_reducible refine below_al ?_ _ | with_reducible refine below_st ?_ (by first | exact Nat.le_refl _ | exact Nat.le_add_right _ _ | (simp; omega)) _))⟩
theorem nmd_any (t : Int) (n d : ByteArray) (hn : n.size ≤ 2000000) (hd : d.size ≤ 2000000) (w : World) : Calls Tryz.prog 178 #[.int .i64 t, .string n, .string d] w fun e w' => e = .returned (.int .i64 (mbE t n d)) ∧ Below w.heap.size w w' := by
 have hB : Below w.heap.size w w := Below.refl _ _
 have hgb := get_bt n
 go_enter Tryz.func178, Tryz.ntmps178
 go_wp2_with (go_at_call 190; refine (rsig_all _ hd _).mono ?_; rintro e w1 ⟨A1, c1, rfl, _, _, hb1⟩; replace hB := below_on (w := w) (by repeat (first | with_reducible exact hB | with_reducible exact Below.refl _ _ | with_reducible refine below_al ?_ _ | with_reducible refine below_st ?_ (by first | exact Nat.le_refl _ | exact Nat.le_add_right _ _ | (simp; omega)) _)) hb1; clear hb1)
 all_goals go_ret
 ·
  exact ⟨by rw [mb_1 (d := d) (mb_r (by assumption))]; rfl, (by repeat (first | with_reducible exact hB | with_reducible exact Below.refl _ _ | with_reducible refine below_al ?_ _ | with_reducible refine below_st ?_ (by first | exact Nat.le_refl _ | exact Nat.le_add_right _ _ | (simp; omega)) _))⟩
 ·
  exact ⟨by rw [mb_2 (d := d) (mb_r (by assumption)) (by assumption) (lt_p (by assumption) (by assumption))]; rfl, (by repeat (first | with_reducible exact hB | with_reducible exact Below.refl _ _ | with_reducible refine below_al ?_ _ | with_reducible refine below_st ?_ (by first | exact Nat.le_refl _ | exact Nat.le_add_right _ _ | (simp; omega)) _))⟩
 ·
  exact ⟨by rw [mb_3 (d := d) (mb_r (by assumption)) (by assumption) (lt_n (by assumption))]; rfl, (by repeat (first | with_reducible exact hB | with_reducible exact Below.refl _ _ | with_reducible refine below_al ?_ _ | with_reducible refine below_st ?_ (by first | exact Nat.le_refl _ | exact Nat.le_add_right _ _ | (simp; omega)) _))⟩
 ·
  exact ⟨by rw [mb_3 (d := d) (mb_r (by assumption)) (by assumption) (lt_z (by assumption))]; rfl, (by repeat (first | with_reducible exact hB | with_reducible exact Below.refl _ _ | with_reducible refine below_al ?_ _ | with_reducible refine below_st ?_ (by first | exact Nat.le_refl _ | exact Nat.le_add_right _ _ | (simp; omega)) _))⟩
 ·
  exact ⟨by rw [mb_4 (d := d) (mb_r (by assumption)) (by assumption) (cl_p (by assumption))]; rfl, (by repeat (first | with_reducible exact hB | with_reducible exact Below.refl _ _ | with_reducible refine below_al ?_ _ | with_reducible refine below_st ?_ (by first | exact Nat.le_refl _ | exact Nat.le_add_right _ _ | (simp; omega)) _))⟩
 ·
  exact ⟨by rw [mb_5 (d := d) (mb_r (by assumption)) (by assumption) (cl_n (by assumption)) (in_p (by assumption)) (by assumption)]; rfl, (by repeat (first | with_reducible exact hB | with_reducible exact Below.refl _ _ | with_reducible refine below_al ?_ _ | with_reducible refine below_st ?_ (by first | exact Nat.le_refl _ | exact Nat.le_add_right _ _ | (simp; omega)) _))⟩
 ·
  exact ⟨by rw [mb_6 (d := d) (mb_r (by assumption)) (by assumption) (cl_n (by assumption)) (in_p (by assumption)) (by assumption) (by assumption)]; rfl, (by repeat (first | with_reducible exact hB | with_reducible exact Below.refl _ _ | with_reducible refine below_al ?_ _ | with_reducible refine below_st ?_ (by first | exact Nat.le_refl _ | exact Nat.le_add_right _ _ | (simp; omega)) _))⟩
 ·
  exact ⟨by rw [mb_7 (d := d) (mb_r (by assumption)) (by assumption) (cl_n (by assumption)) (in_p (by assumption)) (by assumption) (by assumption)]; rfl, (by repeat (first | with_reducible exact hB | with_reducible exact Below.refl _ _ | with_reducible refine below_al ?_ _ | with_reducible refine below_st ?_ (by first | exact Nat.le_refl _ | exact Nat.le_add_right _ _ | (simp; omega)) _))⟩
 ·
  exact ⟨by rw [mb_4 (d := d) (mb_r (by assumption)) (by assumption) (by assumption)]; rfl, (by repeat (first | with_reducible exact hB | with_reducible exact Below.refl _ _ | with_reducible refine below_al ?_ _ | with_reducible refine below_st ?_ (by first | exact Nat.le_refl _ | exact Nat.le_add_right _ _ | (simp; omega)) _))⟩
 ·
  exact ⟨by rw [mb_8 (d := d) (mb_r (by assumption)) (by assumption) (cl_n (by assumption)) (in_n (by assumption))]; rfl, (by repeat (first | with_reducible exact hB | with_reducible exact Below.refl _ _ | with_reducible refine below_al ?_ _ | with_reducible refine below_st ?_ (by first | exact Nat.le_refl _ | exact Nat.le_add_right _ _ | (simp; omega)) _))⟩
end Go.Proofs.YtalejaklggnnpaaGreatDoor
/- PoolTxt -/
/- Layer 5: checkTexts, contents, in the package and in its reference, tag by tag. -/
namespace Go.Proofs.YtalejaklggnnpaaGreatDoor
open Go.ChangeShapes Go.WideShapes Go.ChangeAt Go.RowKit Go.PlainAid
set_option linter.unusedSimpArgs false
set_option linter.unusedVariables false
def Bnd (B : Nat) (L : List Cn) : Prop := ∀ c ∈ L, c.s.size ≤ B
abbrev Short (L : List Cn) : Prop := Bnd 2000000 L
abbrev Fits (L : List Cn) : Prop := Bnd 140737488351232 L
theorem at_mem (L : List Cn) (i : Int) : atC L i ∈ L ∨ atC L i = cnZ := by
 by_cases h : 1 ≤ i ∧ i ≤ L.length
 ·
  have hk : (i - 1).toNat < L.length := by omega
  left
  unfold atC; rw [if_pos h, List.getD_eq_getElem?_getD, List.getElem?_eq_getElem hk]
  exact List.getElem_mem hk
 ·
  right; exact (at_out h).1
theorem at_short {B : Nat} {L : List Cn} (h : Bnd B L) (i : Int) : (atC L i).s.size ≤ B := by
 rcases at_mem L i with h1 | h1
 ·
  exact h _ h1
 ·
  rw [h1]; exact Nat.zero_le _
theorem tg_short {B : Nat} {L : List Cn} (h : Bnd B L) (i t : Int) : (tgC L i t).s.size ≤ B := by
 unfold tgC
 split
 ·
  split
  ·
   exact at_short h i
  ·
   exact Nat.zero_le _
 ·
  exact Nat.zero_le _
theorem ntN_short {B : Nat} {L : List Cn} (h : Bnd B L) (i : Int) : (ntN L i).size ≤ B := by
 unfold ntN nt
 split
 ·
  split
  ·
   split
   ·
    exact tg_short h _ _
   ·
    exact Nat.zero_le _
  ·
   exact Nat.zero_le _
 ·
  exact Nat.zero_le _
theorem ntD_short {B : Nat} {L : List Cn} (h : Bnd B L) (i : Int) : (ntD L i).size ≤ B := by
 unfold ntD nt
 split
 ·
  split
  ·
   split
   ·
    exact tg_short h _ _
   ·
    exact Nat.zero_le _
  ·
   exact Nat.zero_le _
 ·
  exact Nat.zero_le _
theorem tg_here {L : List Cn} {i t : Int} (h : tgE L i t = 0) : ∃ (k : Nat) (p : Cn), i = (k : Int) + 1 ∧ k < L.length ∧ L[k]? = some p ∧ tgC L i t = p := by
 by_cases h1 : 1 ≤ i ∧ i ≤ L.length
 ·
  have hk : (i - 1).toNat < L.length := by omega
  refine ⟨(i - 1).toNat, L[(i - 1).toNat], by omega, hk, List.getElem?_eq_getElem hk, ?_⟩
  have he : atE L i = 0 := by unfold atE; rw [if_pos h1]
  by_cases h2 : (atC L i).t = t
  ·
   rw [(tg_3 he h2).1]
   unfold atC; rw [if_pos h1, List.getD_eq_getElem?_getD, List.getElem?_eq_getElem hk]; rfl
  ·
   rw [(tg_2 he h2).2] at h; cases h
 ·
  have he := (at_out h1).2
  rw [(tg_1 (by rw [he]; decide)).2, he] at h; cases h
def mtx (L : List Cn) (t b : Int) : Int := if ntE L b = 0 then mbE t (ntN L b) (ntD L b) else 0
theorem mtx_1 {L : List Cn} {t b : Int} (h : ¬ ntE L b = 0) : mtx L t b = 0 := by unfold mtx; rw [if_neg h]
theorem mtx_2 {L : List Cn} {t b : Int} (h : ntE L b = 0) : mtx L t b = mbE t (ntN L b) (ntD L b) := by unfold mtx; rw [if_pos h]
def txE (L : List Cn) (t a b : Int) : Int :=
 if t = 7 then pcE (tgC L a 1).s
 else if t = 12 then ntxE (tgC L a 1).s (tgC L b 1).s
 else if mtB t = true then mtx L t b
 else 0
theorem pc_e (s : ByteArray) : pcE s = 0 ∨ pcE s = 13 := by
 cases h : clsB s with
 | true => exact Or.inl (pc_cls h).2.2.2
 | false =>
  cases h1 : fst91 s with
  | true =>
   rw [(pc_arr h h1).2.2.2]
   by_cases hp : 0 < preN s.data.toList ∧ preN s.data.toList = s.size
   ·
    exact Or.inl (pa_ok hp).2.2.2
   ·
    exact Or.inr (pa_bad hp).2.2.2
  | false => exact Or.inr (pc_bad h h1).2.2.2
theorem pc_13 {s : ByteArray} (h : ¬ pcE s = 0) : pcE s = 13 := (pc_e s).resolve_left h
set_option maxHeartbeats 1000000 in
theorem ctx_7 {w0 : World} {A : Option Addr} {n c : Nat} {L : List Cn} (s : ByteArray) (m a b : Int) (hS : Fits L) (ha : tgE L a 1 = 0) (hn : L.length = n) (hN : n ≤ 100000) (hp : Pool w0 w0.heap.size A L) (w : World) (hb : Below w0.heap.size w0 w) :
  Calls Tryz.prog 167 #[.slice A n c, .agg #[.int .i64 7, .string s, .int .i64 m, .int .i64 a, .int .i64 b]] w fun e w' => e = .returned (.int .i64 (pcE (tgC L a 1).s)) ∧ Below w.heap.size w w' := by
 have HP := Lib.hid (hp.up hb)
 have HN := Lib.hid hn
 clear hp hb hn
 have hB : Below w.heap.size w w := Below.refl _ _
 obtain ⟨k, p, k_i, k_l, k_g, k_c⟩ := tg_here ha
 rw [HN.out] at k_l
 subst k_i
 have hz := tg_short hS ((k : Int) + 1) 1
 rw [k_c] at hz ⊢
 rcases HP.out with h0 | ⟨gg, o, rfl, hg, hcell⟩
 ·
  rw [h0] at k_g; cases k_g
 obtain ⟨a0, a1, a2, a3, a4⟩ := hcell k _ k_g
 clear hcell
 have kq0 : (0 : Int) ≤ (k : Int) := by omega
 have kq1 : (k : Int) < (n : Int) := by omega
 go_enter Tryz.func167, Tryz.ntmps167
 go_wp2_with (go_at_call 183; refine (pcc_any _ (by omega) _).mono ?_; rintro e w1 ⟨rfl, hb1⟩; obtain ⟨hc1, hf1⟩ := bcell hb1; have hz1 := hb1.size; (try simp only [World.size_alloc, World.size_setCell] at hz1); (try have hza : w.heap.size < w1.heap.size := by omega); (try have hzb : w.heap.size + 1 < w1.heap.size := by omega); (try have hzc : w.heap.size + 1 + 1 < w1.heap.size := by omega); (try have hzd : wa.heap.size < w1.heap.size := by omega); (try replace hR := (hb1.block w.heap.size (by first | exact lt_heap hR | (have := lt_heap hR; simp; omega))).trans (by first | with_reducible exact hR | with_reducible exact laid_old hR)); replace hB := below_on (w := w) ((by repeat (first | with_reducible exact hB | with_reducible exact Below.refl _ _ | with_reducible refine below_al ?_ _ | with_reducible refine below_st ?_ (by first | exact Nat.le_refl _ | exact Nat.le_add_right _ _ | (simp; omega)) _))) hb1; clear hb1)
 go_ret
 exact ⟨rfl, (by repeat (first | with_reducible exact hB | with_reducible exact Below.refl _ _ | with_reducible refine below_al ?_ _ | with_reducible refine below_st ?_ (by first | exact Nat.le_refl _ | exact Nat.le_add_right _ _ | (simp; omega)) _))⟩
set_option maxHeartbeats 1000000 in
theorem ctx_8 {w0 : World} {A : Option Addr} {n c : Nat} {L : List Cn} (s : ByteArray) (m a b : Int) (hS : Fits L)  (hn : L.length = n) (hN : n ≤ 100000) (hp : Pool w0 w0.heap.size A L) (w : World) (hb : Below w0.heap.size w0 w) :
  Calls Tryz.prog 167 #[.slice A n c, .agg #[.int .i64 8, .string s, .int .i64 m, .int .i64 a, .int .i64 b]] w fun e w' => e = .returned (.int .i64 (0)) ∧ Below w.heap.size w w' := by
 have HP := Lib.hid (hp.up hb)
 have HN := Lib.hid hn
 clear hp hb hn
 have hB : Below w.heap.size w w := Below.refl _ _
 go_enter Tryz.func167, Tryz.ntmps167
 go_wp2
 go_ret
 exact ⟨rfl, (by repeat (first | with_reducible exact hB | with_reducible exact Below.refl _ _ | with_reducible refine below_al ?_ _ | with_reducible refine below_st ?_ (by first | exact Nat.le_refl _ | exact Nat.le_add_right _ _ | (simp; omega)) _))⟩
set_option maxHeartbeats 1000000 in
theorem ctx_12 {w0 : World} {A : Option Addr} {n c : Nat} {L : List Cn} (s : ByteArray) (m a b : Int) (hS : Fits L) (ha : tgE L a 1 = 0) (hb2 : tgE L b 1 = 0) (hn : L.length = n) (hN : n ≤ 100000) (hp : Pool w0 w0.heap.size A L) (w : World) (hb : Below w0.heap.size w0 w) :
  Calls Tryz.prog 167 #[.slice A n c, .agg #[.int .i64 12, .string s, .int .i64 m, .int .i64 a, .int .i64 b]] w fun e w' => e = .returned (.int .i64 (ntxE (tgC L a 1).s (tgC L b 1).s)) ∧ Below w.heap.size w w' := by
 have HP := Lib.hid (hp.up hb)
 have HN := Lib.hid hn
 clear hp hb hn
 have hB : Below w.heap.size w w := Below.refl _ _
 obtain ⟨k, p, k_i, k_l, k_g, k_c⟩ := tg_here ha
 rw [HN.out] at k_l
 obtain ⟨j, q, j_i, j_l, j_g, j_c⟩ := tg_here hb2
 rw [HN.out] at j_l
 subst k_i
 subst j_i
 have hz := tg_short hS ((k : Int) + 1) 1
 have hy := tg_short hS ((j : Int) + 1) 1
 rw [k_c] at hz ⊢
 rw [j_c] at hy ⊢
 rcases HP.out with h0 | ⟨gg, o, rfl, hg, hcell⟩
 ·
  rw [h0] at k_g; cases k_g
 obtain ⟨a0, a1, a2, a3, a4⟩ := hcell k _ k_g
 obtain ⟨b0, b1, b2, b3, b4⟩ := hcell j _ j_g
 clear hcell a0 a2 a3 a4 b0 b2 b3 b4
 have kq0 : (0 : Int) ≤ (k : Int) := by omega
 have kq1 : (k : Int) < (n : Int) := by omega
 have jq0 : (0 : Int) ≤ (j : Int) := by omega
 have jq1 : (j : Int) < (n : Int) := by omega
 go_enter Tryz.func167, Tryz.ntmps167
 go_wp2_with fail
 have hB1 : Below w.heap.size w (w.alloc (.cells #[.int .i64 12, .string s, .int .i64 m, .int .i64 ((k : Int) + 1), .int .i64 ((j : Int) + 1)] 155)) := below_al hB _
 have hz1 : w.heap.size < (w.alloc (.cells #[.int .i64 12, .string s, .int .i64 m, .int .i64 ((k : Int) + 1), .int .i64 ((j : Int) + 1)] 155)).heap.size := by simp
 have K0 : (w.alloc (.cells #[.int .i64 12, .string s, .int .i64 m, .int .i64 ((k : Int) + 1), .int .i64 ((j : Int) + 1)] 155)).heap[w.heap.size]? = some (.cells #[.int .i64 12, .string s, .int .i64 m, .int .i64 ((k : Int) + 1), .int .i64 ((j : Int) + 1)] 155) := World.alloc_heap_new w _
 have x1 := (hB1.cell (p := ⟨gg, o + k * 5 + 1, none⟩) hg).trans a1
 have y1 := (hB1.cell (p := ⟨gg, o + j * 5 + 1, none⟩) hg).trans b1
 generalize w.alloc (.cells #[.int .i64 12, .string s, .int .i64 m, .int .i64 ((k : Int) + 1), .int .i64 ((j : Int) + 1)] 155) = W1 at hB1 hz1 K0 x1 y1 ⊢
 obtain ⟨c0, c1, c2, c3, c4, f0, f1, f2, f3, f4⟩ := five_cells K0
 clear f0 f1 f2 f3 f4 K0 a1 b1 c1 c2
 have hw1 : IntKind.i64.wrap (k : Int) = (k : Int) := by rw [IntKind.wrap_i64]; omega
 have hw2 : IntKind.i64.wrap (j : Int) = (j : Int) := by rw [IntKind.wrap_i64]; omega
 go_region_held3 (fun w' => w'.cell? ⟨w.heap.size, 3, none⟩ = some (.int .i64 ((k : Int) + 1)) ∧ w'.cell? ⟨w.heap.size, 4, none⟩ = some (.int .i64 ((j : Int) + 1)) ∧ w'.cell? ⟨gg, o + k * 5 + 1, none⟩ = some (.string p.s) ∧ w'.cell? ⟨gg, o + j * 5 + 1, none⟩ = some (.string q.s) ∧ w.heap.size < w'.heap.size ∧ Below w.heap.size w w') (((try go_split_ands); (repeat' apply And.intro) <;> (first | assumption | exact (Below.cell hq (by first | (dsimp only; omega) | (simp; omega))).trans (by assumption) | (have := hq.size; omega) | (simp; omega) | exact below_on (w := w) (by assumption) hq | exact Below.drew (by assumption) | exact below_al (by assumption) _ | exact below_al (Below.drew (by assumption)) _ | go_keep)))
  ((go_at_call 184; refine (cnt_any _ _ hz hy _).mono ?_; rintro e wq ⟨rfl, hq⟩))
 all_goals (go_wp2; go_ret; go_split_ands; exact ⟨rfl, by assumption⟩)
set_option maxHeartbeats 1000000 in
theorem ctx_9 {w0 : World} {A : Option Addr} {n c : Nat} {L : List Cn} (s : ByteArray) (m a b : Int) (hS : Fits L)  (hn : L.length = n) (hN : n ≤ 100000) (hp : Pool w0 w0.heap.size A L) (w : World) (hb : Below w0.heap.size w0 w) :
  Calls Tryz.prog 167 #[.slice A n c, .agg #[.int .i64 9, .string s, .int .i64 m, .int .i64 a, .int .i64 b]] w fun e w' => e = .returned (.int .i64 (mtx L 9 b)) ∧ Below w.heap.size w w' := by
 have HP := Lib.hid (hp.up hb)
 have HN := Lib.hid hn
 clear hp hb hn
 have hB : Below w.heap.size w w := Below.refl _ _
 have hz := ntN_short hS b
 have hy := ntD_short hS b
 go_enter Tryz.func167, Tryz.ntmps167
 go_wp2_with (first | (go_at_call 151; refine (nt_any _ HN.out hN HP.out _ (by repeat (first | with_reducible exact hB | with_reducible exact Below.refl _ _ | with_reducible refine below_al ?_ _ | with_reducible refine below_st ?_ (by first | exact Nat.le_refl _ | exact Nat.le_add_right _ _ | (simp; omega)) _))).mono ?_; rintro e w1 ⟨rfl, hb1⟩; obtain ⟨hc1, hf1⟩ := bcell hb1; have hz1 := hb1.size; (try simp only [World.size_alloc, World.size_setCell] at hz1); (try have hza : w.heap.size < w1.heap.size := by omega); (try have hzb : w.heap.size + 1 < w1.heap.size := by omega); (try have hzc : w.heap.size + 1 + 1 < w1.heap.size := by omega); (try have hzd : wa.heap.size < w1.heap.size := by omega); (try replace hR := (hb1.block w.heap.size (by first | exact lt_heap hR | (have := lt_heap hR; simp; omega))).trans (by first | with_reducible exact hR | with_reducible exact laid_old hR)); replace hB := below_on (w := w) ((by repeat (first | with_reducible exact hB | with_reducible exact Below.refl _ _ | with_reducible refine below_al ?_ _ | with_reducible refine below_st ?_ (by first | exact Nat.le_refl _ | exact Nat.le_add_right _ _ | (simp; omega)) _))) hb1; clear hb1) | (go_at_call 185; refine (cmb_any 9 _ _ hz hy _).mono ?_; rintro e w1 ⟨rfl, hb1⟩; obtain ⟨hc1, hf1⟩ := bcell hb1; have hz1 := hb1.size; (try simp only [World.size_alloc, World.size_setCell] at hz1); (try have hza : w.heap.size < w1.heap.size := by omega); (try have hzb : w.heap.size + 1 < w1.heap.size := by omega); (try have hzc : w.heap.size + 1 + 1 < w1.heap.size := by omega); (try have hzd : wa.heap.size < w1.heap.size := by omega); (try replace hR := (hb1.block w.heap.size (by first | exact lt_heap hR | (have := lt_heap hR; simp; omega))).trans (by first | with_reducible exact hR | with_reducible exact laid_old hR)); replace hB := below_on (w := w) ((by repeat (first | with_reducible exact hB | with_reducible exact Below.refl _ _ | with_reducible refine below_al ?_ _ | with_reducible refine below_st ?_ (by first | exact Nat.le_refl _ | exact Nat.le_add_right _ _ | (simp; omega)) _))) hb1; clear hb1))
 all_goals go_ret
 ·
  exact ⟨by rw [mtx_1 (bneT (by assumption))]; rfl, (by repeat (first | with_reducible exact hB | with_reducible exact Below.refl _ _ | with_reducible refine below_al ?_ _ | with_reducible refine below_st ?_ (by first | exact Nat.le_refl _ | exact Nat.le_add_right _ _ | (simp; omega)) _))⟩
 ·
  exact ⟨by rw [mtx_2 (bneF (by assumption))]; rfl, (by repeat (first | with_reducible exact hB | with_reducible exact Below.refl _ _ | with_reducible refine below_al ?_ _ | with_reducible refine below_st ?_ (by first | exact Nat.le_refl _ | exact Nat.le_add_right _ _ | (simp; omega)) _))⟩
set_option maxHeartbeats 1000000 in
theorem ctx_10 {w0 : World} {A : Option Addr} {n c : Nat} {L : List Cn} (s : ByteArray) (m a b : Int) (hS : Fits L)  (hn : L.length = n) (hN : n ≤ 100000) (hp : Pool w0 w0.heap.size A L) (w : World) (hb : Below w0.heap.size w0 w) :
  Calls Tryz.prog 167 #[.slice A n c, .agg #[.int .i64 10, .string s, .int .i64 m, .int .i64 a, .int .i64 b]] w fun e w' => e = .returned (.int .i64 (mtx L 10 b)) ∧ Below w.heap.size w w' := by
 have HP := Lib.hid (hp.up hb)
 have HN := Lib.hid hn
 clear hp hb hn
 have hB : Below w.heap.size w w := Below.refl _ _
 have hz := ntN_short hS b
 have hy := ntD_short hS b
 go_enter Tryz.func167, Tryz.ntmps167
 go_wp2_with (first | (go_at_call 151; refine (nt_any _ HN.out hN HP.out _ (by repeat (first | with_reducible exact hB | with_reducible exact Below.refl _ _ | with_reducible refine below_al ?_ _ | with_reducible refine below_st ?_ (by first | exact Nat.le_refl _ | exact Nat.le_add_right _ _ | (simp; omega)) _))).mono ?_; rintro e w1 ⟨rfl, hb1⟩; obtain ⟨hc1, hf1⟩ := bcell hb1; have hz1 := hb1.size; (try simp only [World.size_alloc, World.size_setCell] at hz1); (try have hza : w.heap.size < w1.heap.size := by omega); (try have hzb : w.heap.size + 1 < w1.heap.size := by omega); (try have hzc : w.heap.size + 1 + 1 < w1.heap.size := by omega); (try have hzd : wa.heap.size < w1.heap.size := by omega); (try replace hR := (hb1.block w.heap.size (by first | exact lt_heap hR | (have := lt_heap hR; simp; omega))).trans (by first | with_reducible exact hR | with_reducible exact laid_old hR)); replace hB := below_on (w := w) ((by repeat (first | with_reducible exact hB | with_reducible exact Below.refl _ _ | with_reducible refine below_al ?_ _ | with_reducible refine below_st ?_ (by first | exact Nat.le_refl _ | exact Nat.le_add_right _ _ | (simp; omega)) _))) hb1; clear hb1) | (go_at_call 185; refine (cmb_any 10 _ _ hz hy _).mono ?_; rintro e w1 ⟨rfl, hb1⟩; obtain ⟨hc1, hf1⟩ := bcell hb1; have hz1 := hb1.size; (try simp only [World.size_alloc, World.size_setCell] at hz1); (try have hza : w.heap.size < w1.heap.size := by omega); (try have hzb : w.heap.size + 1 < w1.heap.size := by omega); (try have hzc : w.heap.size + 1 + 1 < w1.heap.size := by omega); (try have hzd : wa.heap.size < w1.heap.size := by omega); (try replace hR := (hb1.block w.heap.size (by first | exact lt_heap hR | (have := lt_heap hR; simp; omega))).trans (by first | with_reducible exact hR | with_reducible exact laid_old hR)); replace hB := below_on (w := w) ((by repeat (first | with_reducible exact hB | with_reducible exact Below.refl _ _ | with_reducible refine below_al ?_ _ | with_reducible refine below_st ?_ (by first | exact Nat.le_refl _ | exact Nat.le_add_right _ _ | (simp; omega)) _))) hb1; clear hb1))
 all_goals go_ret
 ·
  exact ⟨by rw [mtx_1 (bneT (by assumption))]; rfl, (by repeat (first | with_reducible exact hB | with_reducible exact Below.refl _ _ | with_reducible refine below_al ?_ _ | with_reducible refine below_st ?_ (by first | exact Nat.le_refl _ | exact Nat.le_add_right _ _ | (simp; omega)) _))⟩
 ·
  exact ⟨by rw [mtx_2 (bneF (by assumption))]; rfl, (by repeat (first | with_reducible exact hB | with_reducible exact Below.refl _ _ | with_reducible refine below_al ?_ _ | with_reducible refine below_st ?_ (by first | exact Nat.le_refl _ | exact Nat.le_add_right _ _ | (simp; omega)) _))⟩
set_option maxHeartbeats 1000000 in
theorem ctx_11 {w0 : World} {A : Option Addr} {n c : Nat} {L : List Cn} (s : ByteArray) (m a b : Int) (hS : Fits L)  (hn : L.length = n) (hN : n ≤ 100000) (hp : Pool w0 w0.heap.size A L) (w : World) (hb : Below w0.heap.size w0 w) :
  Calls Tryz.prog 167 #[.slice A n c, .agg #[.int .i64 11, .string s, .int .i64 m, .int .i64 a, .int .i64 b]] w fun e w' => e = .returned (.int .i64 (mtx L 11 b)) ∧ Below w.heap.size w w' := by
 have HP := Lib.hid (hp.up hb)
 have HN := Lib.hid hn
 clear hp hb hn
 have hB : Below w.heap.size w w := Below.refl _ _
 have hz := ntN_short hS b
 have hy := ntD_short hS b
 go_enter Tryz.func167, Tryz.ntmps167
 go_wp2_with (first | (go_at_call 151; refine (nt_any _ HN.out hN HP.out _ (by repeat (first | with_reducible exact hB | with_reducible exact Below.refl _ _ | with_reducible refine below_al ?_ _ | with_reducible refine below_st ?_ (by first | exact Nat.le_refl _ | exact Nat.le_add_right _ _ | (simp; omega)) _))).mono ?_; rintro e w1 ⟨rfl, hb1⟩; obtain ⟨hc1, hf1⟩ := bcell hb1; have hz1 := hb1.size; (try simp only [World.size_alloc, World.size_setCell] at hz1); (try have hza : w.heap.size < w1.heap.size := by omega); (try have hzb : w.heap.size + 1 < w1.heap.size := by omega); (try have hzc : w.heap.size + 1 + 1 < w1.heap.size := by omega); (try have hzd : wa.heap.size < w1.heap.size := by omega); (try replace hR := (hb1.block w.heap.size (by first | exact lt_heap hR | (have := lt_heap hR; simp; omega))).trans (by first | with_reducible exact hR | with_reducible exact laid_old hR)); replace hB := below_on (w := w) ((by repeat (first | with_reducible exact hB | with_reducible exact Below.refl _ _ | with_reducible refine below_al ?_ _ | with_reducible refine below_st ?_ (by first | exact Nat.le_refl _ | exact Nat.le_add_right _ _ | (simp; omega)) _))) hb1; clear hb1) | (go_at_call 185; refine (cmb_any 11 _ _ hz hy _).mono ?_; rintro e w1 ⟨rfl, hb1⟩; obtain ⟨hc1, hf1⟩ := bcell hb1; have hz1 := hb1.size; (try simp only [World.size_alloc, World.size_setCell] at hz1); (try have hza : w.heap.size < w1.heap.size := by omega); (try have hzb : w.heap.size + 1 < w1.heap.size := by omega); (try have hzc : w.heap.size + 1 + 1 < w1.heap.size := by omega); (try have hzd : wa.heap.size < w1.heap.size := by omega); (try replace hR := (hb1.block w.heap.size (by first | exact lt_heap hR | (have := lt_heap hR; simp; omega))).trans (by first | with_reducible exact hR | with_reducible exact laid_old hR)); replace hB := below_on (w := w) ((by repeat (first | with_reducible exact hB | with_reducible exact Below.refl _ _ | with_reducible refine below_al ?_ _ | with_reducible refine below_st ?_ (by first | exact Nat.le_refl _ | exact Nat.le_add_right _ _ | (simp; omega)) _))) hb1; clear hb1))
 all_goals go_ret
 ·
  exact ⟨by rw [mtx_1 (bneT (by assumption))]; rfl, (by repeat (first | with_reducible exact hB | with_reducible exact Below.refl _ _ | with_reducible refine below_al ?_ _ | with_reducible refine below_st ?_ (by first | exact Nat.le_refl _ | exact Nat.le_add_right _ _ | (simp; omega)) _))⟩
 ·
  exact ⟨by rw [mtx_2 (bneF (by assumption))]; rfl, (by repeat (first | with_reducible exact hB | with_reducible exact Below.refl _ _ | with_reducible refine below_al ?_ _ | with_reducible refine below_st ?_ (by first | exact Nat.le_refl _ | exact Nat.le_add_right _ _ | (simp; omega)) _))⟩
set_option maxHeartbeats 1000000 in
theorem con_7 {w0 : World} {A : Option Addr} {n c : Nat} {L : List Cn} (s : ByteArray) (m a b : Int) (hS : Short L)  (hn : L.length = n) (hN : n ≤ 100000) (hp : Pool w0 w0.heap.size A L) (w : World) (hb : Below w0.heap.size w0 w) :
  Calls Tryz.prog 158 #[.slice A n c, .agg #[.int .i64 7, .string s, .int .i64 m, .int .i64 a, .int .i64 b]] w fun e w' => e = .returned (.int .i64 (pcE (tgC L a 1).s)) ∧ Below w.heap.size w w' := by
 have HP := Lib.hid (hp.up hb)
 have HN := Lib.hid hn
 clear hp hb hn
 have hB : Below w.heap.size w w := Below.refl _ _
 have hz := tg_short hS a 1
 go_enter Tryz.func158, Tryz.ntmps158
 go_wp2_with (first | (go_at_call 173; refine (rutf_any _ HN.out hN HP.out _ (by repeat (first | with_reducible exact hB | with_reducible exact Below.refl _ _ | with_reducible refine below_al ?_ _ | with_reducible refine below_st ?_ (by first | exact Nat.le_refl _ | exact Nat.le_add_right _ _ | (simp; omega)) _))).mono ?_; rintro e w1 ⟨rfl, hb1⟩; obtain ⟨hc1, hf1⟩ := bcell hb1; have hz1 := hb1.size; (try simp only [World.size_alloc, World.size_setCell] at hz1); (try have hza : w.heap.size < w1.heap.size := by omega); (try have hzb : w.heap.size + 1 < w1.heap.size := by omega); (try have hzc : w.heap.size + 1 + 1 < w1.heap.size := by omega); (try have hzd : wa.heap.size < w1.heap.size := by omega); (try replace hR := (hb1.block w.heap.size (by first | exact lt_heap hR | (have := lt_heap hR; simp; omega))).trans (by first | with_reducible exact hR | with_reducible exact laid_old hR)); replace hB := below_on (w := w) ((by repeat (first | with_reducible exact hB | with_reducible exact Below.refl _ _ | with_reducible refine below_al ?_ _ | with_reducible refine below_st ?_ (by first | exact Nat.le_refl _ | exact Nat.le_add_right _ _ | (simp; omega)) _))) hb1; clear hb1) | (go_at_call 174; refine (rpcc_any _ (by omega) _).mono ?_; rintro e w1 ⟨rfl, hb1⟩; obtain ⟨hc1, hf1⟩ := bcell hb1; have hz1 := hb1.size; (try simp only [World.size_alloc, World.size_setCell] at hz1); (try have hza : w.heap.size < w1.heap.size := by omega); (try have hzb : w.heap.size + 1 < w1.heap.size := by omega); (try have hzc : w.heap.size + 1 + 1 < w1.heap.size := by omega); (try have hzd : wa.heap.size < w1.heap.size := by omega); (try replace hR := (hb1.block w.heap.size (by first | exact lt_heap hR | (have := lt_heap hR; simp; omega))).trans (by first | with_reducible exact hR | with_reducible exact laid_old hR)); replace hB := below_on (w := w) ((by repeat (first | with_reducible exact hB | with_reducible exact Below.refl _ _ | with_reducible refine below_al ?_ _ | with_reducible refine below_st ?_ (by first | exact Nat.le_refl _ | exact Nat.le_add_right _ _ | (simp; omega)) _))) hb1; clear hb1) | (go_at_call 171; refine (rmt_any _ _).mono ?_; rintro e w1 ⟨rfl, hb1⟩; obtain ⟨hc1, hf1⟩ := bcell hb1; have hz1 := hb1.size; (try simp only [World.size_alloc, World.size_setCell] at hz1); (try have hza : w.heap.size < w1.heap.size := by omega); (try have hzb : w.heap.size + 1 < w1.heap.size := by omega); (try have hzc : w.heap.size + 1 + 1 < w1.heap.size := by omega); (try have hzd : wa.heap.size < w1.heap.size := by omega); (try replace hR := (hb1.block w.heap.size (by first | exact lt_heap hR | (have := lt_heap hR; simp; omega))).trans (by first | with_reducible exact hR | with_reducible exact laid_old hR)); replace hB := below_on (w := w) ((by repeat (first | with_reducible exact hB | with_reducible exact Below.refl _ _ | with_reducible refine below_al ?_ _ | with_reducible refine below_st ?_ (by first | exact Nat.le_refl _ | exact Nat.le_add_right _ _ | (simp; omega)) _))) hb1; clear hb1))
 all_goals go_ret
 ·
  exact ⟨by rw [pc_13 (bneT (by assumption))]; rfl, (by repeat (first | with_reducible exact hB | with_reducible exact Below.refl _ _ | with_reducible refine below_al ?_ _ | with_reducible refine below_st ?_ (by first | exact Nat.le_refl _ | exact Nat.le_add_right _ _ | (simp; omega)) _))⟩
 ·
  exact ⟨by rw [bneF (by assumption : (pcE (tgC L a 1).s != 0) = false)]; rfl, (by repeat (first | with_reducible exact hB | with_reducible exact Below.refl _ _ | with_reducible refine below_al ?_ _ | with_reducible refine below_st ?_ (by first | exact Nat.le_refl _ | exact Nat.le_add_right _ _ | (simp; omega)) _))⟩
set_option maxHeartbeats 1000000 in
theorem con_8 {w0 : World} {A : Option Addr} {n c : Nat} {L : List Cn} (s : ByteArray) (m a b : Int) (hS : Short L)  (hn : L.length = n) (hN : n ≤ 100000) (hp : Pool w0 w0.heap.size A L) (w : World) (hb : Below w0.heap.size w0 w) :
  Calls Tryz.prog 158 #[.slice A n c, .agg #[.int .i64 8, .string s, .int .i64 m, .int .i64 a, .int .i64 b]] w fun e w' => e = .returned (.int .i64 (0)) ∧ Below w.heap.size w w' := by
 have HP := Lib.hid (hp.up hb)
 have HN := Lib.hid hn
 clear hp hb hn
 have hB : Below w.heap.size w w := Below.refl _ _
 go_enter Tryz.func158, Tryz.ntmps158
 go_wp2_with (go_at_call 171; refine (rmt_any _ _).mono ?_; rintro e w1 ⟨rfl, hb1⟩; obtain ⟨hc1, hf1⟩ := bcell hb1; have hz1 := hb1.size; (try simp only [World.size_alloc, World.size_setCell] at hz1); (try have hza : w.heap.size < w1.heap.size := by omega); (try have hzb : w.heap.size + 1 < w1.heap.size := by omega); (try have hzc : w.heap.size + 1 + 1 < w1.heap.size := by omega); (try have hzd : wa.heap.size < w1.heap.size := by omega); (try replace hR := (hb1.block w.heap.size (by first | exact lt_heap hR | (have := lt_heap hR; simp; omega))).trans (by first | with_reducible exact hR | with_reducible exact laid_old hR)); replace hB := below_on (w := w) ((by repeat (first | with_reducible exact hB | with_reducible exact Below.refl _ _ | with_reducible refine below_al ?_ _ | with_reducible refine below_st ?_ (by first | exact Nat.le_refl _ | exact Nat.le_add_right _ _ | (simp; omega)) _))) hb1; clear hb1)
 go_ret
 exact ⟨rfl, (by repeat (first | with_reducible exact hB | with_reducible exact Below.refl _ _ | with_reducible refine below_al ?_ _ | with_reducible refine below_st ?_ (by first | exact Nat.le_refl _ | exact Nat.le_add_right _ _ | (simp; omega)) _))⟩
set_option maxHeartbeats 1000000 in
theorem con_12 {w0 : World} {A : Option Addr} {n c : Nat} {L : List Cn} (s : ByteArray) (m a b : Int) (hS : Short L)  (hn : L.length = n) (hN : n ≤ 100000) (hp : Pool w0 w0.heap.size A L) (w : World) (hb : Below w0.heap.size w0 w) :
  Calls Tryz.prog 158 #[.slice A n c, .agg #[.int .i64 12, .string s, .int .i64 m, .int .i64 a, .int .i64 b]] w fun e w' => e = .returned (.int .i64 (ntxE (tgC L a 1).s (tgC L b 1).s)) ∧ Below w.heap.size w w' := by
 have HP := Lib.hid (hp.up hb)
 have HN := Lib.hid hn
 clear hp hb hn
 have hB : Below w.heap.size w w := Below.refl _ _
 have hz := tg_short hS a 1
 have hy := tg_short hS b 1
 go_enter Tryz.func158, Tryz.ntmps158
 go_wp2_with (first | (go_at_call 173; refine (rutf_any _ HN.out hN HP.out _ (by repeat (first | with_reducible exact hB | with_reducible exact Below.refl _ _ | with_reducible refine below_al ?_ _ | with_reducible refine below_st ?_ (by first | exact Nat.le_refl _ | exact Nat.le_add_right _ _ | (simp; omega)) _))).mono ?_; rintro e w1 ⟨rfl, hb1⟩; obtain ⟨hc1, hf1⟩ := bcell hb1; have hz1 := hb1.size; (try simp only [World.size_alloc, World.size_setCell] at hz1); (try have hza : w.heap.size < w1.heap.size := by omega); (try have hzb : w.heap.size + 1 < w1.heap.size := by omega); (try have hzc : w.heap.size + 1 + 1 < w1.heap.size := by omega); (try have hzd : wa.heap.size < w1.heap.size := by omega); (try replace hR := (hb1.block w.heap.size (by first | exact lt_heap hR | (have := lt_heap hR; simp; omega))).trans (by first | with_reducible exact hR | with_reducible exact laid_old hR)); replace hB := below_on (w := w) ((by repeat (first | with_reducible exact hB | with_reducible exact Below.refl _ _ | with_reducible refine below_al ?_ _ | with_reducible refine below_st ?_ (by first | exact Nat.le_refl _ | exact Nat.le_add_right _ _ | (simp; omega)) _))) hb1; clear hb1) | (go_at_call 175; refine (rmem_any _ (by omega) _).mono ?_; rintro e w' ⟨rfl, rfl⟩) | (go_at_call 176; refine (dsc_any _ hy _).mono ?_; rintro e w1 ⟨rfl, hb1⟩; obtain ⟨hc1, hf1⟩ := bcell hb1; have hz1 := hb1.size; (try simp only [World.size_alloc, World.size_setCell] at hz1); (try have hza : w.heap.size < w1.heap.size := by omega); (try have hzb : w.heap.size + 1 < w1.heap.size := by omega); (try have hzc : w.heap.size + 1 + 1 < w1.heap.size := by omega); (try have hzd : wa.heap.size < w1.heap.size := by omega); (try replace hR := (hb1.block w.heap.size (by first | exact lt_heap hR | (have := lt_heap hR; simp; omega))).trans (by first | with_reducible exact hR | with_reducible exact laid_old hR)); replace hB := below_on (w := w) ((by repeat (first | with_reducible exact hB | with_reducible exact Below.refl _ _ | with_reducible refine below_al ?_ _ | with_reducible refine below_st ?_ (by first | exact Nat.le_refl _ | exact Nat.le_add_right _ _ | (simp; omega)) _))) hb1; clear hb1) | (go_at_call 171; refine (rmt_any _ _).mono ?_; rintro e w1 ⟨rfl, hb1⟩; obtain ⟨hc1, hf1⟩ := bcell hb1; have hz1 := hb1.size; (try simp only [World.size_alloc, World.size_setCell] at hz1); (try have hza : w.heap.size < w1.heap.size := by omega); (try have hzb : w.heap.size + 1 < w1.heap.size := by omega); (try have hzc : w.heap.size + 1 + 1 < w1.heap.size := by omega); (try have hzd : wa.heap.size < w1.heap.size := by omega); (try replace hR := (hb1.block w.heap.size (by first | exact lt_heap hR | (have := lt_heap hR; simp; omega))).trans (by first | with_reducible exact hR | with_reducible exact laid_old hR)); replace hB := below_on (w := w) ((by repeat (first | with_reducible exact hB | with_reducible exact Below.refl _ _ | with_reducible refine below_al ?_ _ | with_reducible refine below_st ?_ (by first | exact Nat.le_refl _ | exact Nat.le_add_right _ _ | (simp; omega)) _))) hb1; clear hb1))
 all_goals go_ret
 ·
  exact ⟨by rw [ntx_1 (notT (by assumption))]; rfl, (by repeat (first | with_reducible exact hB | with_reducible exact Below.refl _ _ | with_reducible refine below_al ?_ _ | with_reducible refine below_st ?_ (by first | exact Nat.le_refl _ | exact Nat.le_add_right _ _ | (simp; omega)) _))⟩
 ·
  exact ⟨by rw [ntx_3 (notF (by assumption)) (notT (by assumption))]; rfl, (by repeat (first | with_reducible exact hB | with_reducible exact Below.refl _ _ | with_reducible refine below_al ?_ _ | with_reducible refine below_st ?_ (by first | exact Nat.le_refl _ | exact Nat.le_add_right _ _ | (simp; omega)) _))⟩
 ·
  exact ⟨by rw [ntx_2 (notF (by assumption)) (notF (by assumption))]; rfl, (by repeat (first | with_reducible exact hB | with_reducible exact Below.refl _ _ | with_reducible refine below_al ?_ _ | with_reducible refine below_st ?_ (by first | exact Nat.le_refl _ | exact Nat.le_add_right _ _ | (simp; omega)) _))⟩
set_option maxHeartbeats 1000000 in
theorem con_9 {w0 : World} {A : Option Addr} {n c : Nat} {L : List Cn} (s : ByteArray) (m a b : Int) (hS : Short L)  (hn : L.length = n) (hN : n ≤ 100000) (hp : Pool w0 w0.heap.size A L) (w : World) (hb : Below w0.heap.size w0 w) :
  Calls Tryz.prog 158 #[.slice A n c, .agg #[.int .i64 9, .string s, .int .i64 m, .int .i64 a, .int .i64 b]] w fun e w' => e = .returned (.int .i64 (mtx L 9 b)) ∧ Below w.heap.size w w' := by
 have HP := Lib.hid (hp.up hb)
 have HN := Lib.hid hn
 clear hp hb hn
 have hB : Below w.heap.size w w := Below.refl _ _
 have hz := ntN_short hS b
 have hy := ntD_short hS b
 have hmt : mtB 9 = true := rfl
 go_enter Tryz.func158, Tryz.ntmps158
 go_wp2_with (first | (go_at_call 177; refine (rnt_any _ HN.out hN HP.out _ (by repeat (first | with_reducible exact hB | with_reducible exact Below.refl _ _ | with_reducible refine below_al ?_ _ | with_reducible refine below_st ?_ (by first | exact Nat.le_refl _ | exact Nat.le_add_right _ _ | (simp; omega)) _))).mono ?_; rintro e w1 ⟨rfl, hb1⟩; obtain ⟨hc1, hf1⟩ := bcell hb1; have hz1 := hb1.size; (try simp only [World.size_alloc, World.size_setCell] at hz1); (try have hza : w.heap.size < w1.heap.size := by omega); (try have hzb : w.heap.size + 1 < w1.heap.size := by omega); (try have hzc : w.heap.size + 1 + 1 < w1.heap.size := by omega); (try have hzd : wa.heap.size < w1.heap.size := by omega); (try replace hR := (hb1.block w.heap.size (by first | exact lt_heap hR | (have := lt_heap hR; simp; omega))).trans (by first | with_reducible exact hR | with_reducible exact laid_old hR)); replace hB := below_on (w := w) ((by repeat (first | with_reducible exact hB | with_reducible exact Below.refl _ _ | with_reducible refine below_al ?_ _ | with_reducible refine below_st ?_ (by first | exact Nat.le_refl _ | exact Nat.le_add_right _ _ | (simp; omega)) _))) hb1; clear hb1) | (go_at_call 178; refine (nmd_any 9 _ _ hz hy _).mono ?_; rintro e w1 ⟨rfl, hb1⟩; obtain ⟨hc1, hf1⟩ := bcell hb1; have hz1 := hb1.size; (try simp only [World.size_alloc, World.size_setCell] at hz1); (try have hza : w.heap.size < w1.heap.size := by omega); (try have hzb : w.heap.size + 1 < w1.heap.size := by omega); (try have hzc : w.heap.size + 1 + 1 < w1.heap.size := by omega); (try have hzd : wa.heap.size < w1.heap.size := by omega); (try replace hR := (hb1.block w.heap.size (by first | exact lt_heap hR | (have := lt_heap hR; simp; omega))).trans (by first | with_reducible exact hR | with_reducible exact laid_old hR)); replace hB := below_on (w := w) ((by repeat (first | with_reducible exact hB | with_reducible exact Below.refl _ _ | with_reducible refine below_al ?_ _ | with_reducible refine below_st ?_ (by first | exact Nat.le_refl _ | exact Nat.le_add_right _ _ | (simp; omega)) _))) hb1; clear hb1) | (go_at_call 171; refine (rmt_any _ _).mono ?_; rintro e w1 ⟨rfl, hb1⟩; obtain ⟨hc1, hf1⟩ := bcell hb1; have hz1 := hb1.size; (try simp only [World.size_alloc, World.size_setCell] at hz1); (try have hza : w.heap.size < w1.heap.size := by omega); (try have hzb : w.heap.size + 1 < w1.heap.size := by omega); (try have hzc : w.heap.size + 1 + 1 < w1.heap.size := by omega); (try have hzd : wa.heap.size < w1.heap.size := by omega); (try replace hR := (hb1.block w.heap.size (by first | exact lt_heap hR | (have := lt_heap hR; simp; omega))).trans (by first | with_reducible exact hR | with_reducible exact laid_old hR)); replace hB := below_on (w := w) ((by repeat (first | with_reducible exact hB | with_reducible exact Below.refl _ _ | with_reducible refine below_al ?_ _ | with_reducible refine below_st ?_ (by first | exact Nat.le_refl _ | exact Nat.le_add_right _ _ | (simp; omega)) _))) hb1; clear hb1))
 all_goals go_ret
 ·
  exact ⟨by rw [mtx_2 (eqT (by assumption))]; rfl, (by repeat (first | with_reducible exact hB | with_reducible exact Below.refl _ _ | with_reducible refine below_al ?_ _ | with_reducible refine below_st ?_ (by first | exact Nat.le_refl _ | exact Nat.le_add_right _ _ | (simp; omega)) _))⟩
 ·
  exact ⟨by rw [mtx_1 (eqF (by assumption))]; rfl, (by repeat (first | with_reducible exact hB | with_reducible exact Below.refl _ _ | with_reducible refine below_al ?_ _ | with_reducible refine below_st ?_ (by first | exact Nat.le_refl _ | exact Nat.le_add_right _ _ | (simp; omega)) _))⟩
set_option maxHeartbeats 1000000 in
theorem con_10 {w0 : World} {A : Option Addr} {n c : Nat} {L : List Cn} (s : ByteArray) (m a b : Int) (hS : Short L)  (hn : L.length = n) (hN : n ≤ 100000) (hp : Pool w0 w0.heap.size A L) (w : World) (hb : Below w0.heap.size w0 w) :
  Calls Tryz.prog 158 #[.slice A n c, .agg #[.int .i64 10, .string s, .int .i64 m, .int .i64 a, .int .i64 b]] w fun e w' => e = .returned (.int .i64 (mtx L 10 b)) ∧ Below w.heap.size w w' := by
 have HP := Lib.hid (hp.up hb)
 have HN := Lib.hid hn
 clear hp hb hn
 have hB : Below w.heap.size w w := Below.refl _ _
 have hz := ntN_short hS b
 have hy := ntD_short hS b
 have hmt : mtB 10 = true := rfl
 go_enter Tryz.func158, Tryz.ntmps158
 go_wp2_with (first | (go_at_call 177; refine (rnt_any _ HN.out hN HP.out _ (by repeat (first | with_reducible exact hB | with_reducible exact Below.refl _ _ | with_reducible refine below_al ?_ _ | with_reducible refine below_st ?_ (by first | exact Nat.le_refl _ | exact Nat.le_add_right _ _ | (simp; omega)) _))).mono ?_; rintro e w1 ⟨rfl, hb1⟩; obtain ⟨hc1, hf1⟩ := bcell hb1; have hz1 := hb1.size; (try simp only [World.size_alloc, World.size_setCell] at hz1); (try have hza : w.heap.size < w1.heap.size := by omega); (try have hzb : w.heap.size + 1 < w1.heap.size := by omega); (try have hzc : w.heap.size + 1 + 1 < w1.heap.size := by omega); (try have hzd : wa.heap.size < w1.heap.size := by omega); (try replace hR := (hb1.block w.heap.size (by first | exact lt_heap hR | (have := lt_heap hR; simp; omega))).trans (by first | with_reducible exact hR | with_reducible exact laid_old hR)); replace hB := below_on (w := w) ((by repeat (first | with_reducible exact hB | with_reducible exact Below.refl _ _ | with_reducible refine below_al ?_ _ | with_reducible refine below_st ?_ (by first | exact Nat.le_refl _ | exact Nat.le_add_right _ _ | (simp; omega)) _))) hb1; clear hb1) | (go_at_call 178; refine (nmd_any 10 _ _ hz hy _).mono ?_; rintro e w1 ⟨rfl, hb1⟩; obtain ⟨hc1, hf1⟩ := bcell hb1; have hz1 := hb1.size; (try simp only [World.size_alloc, World.size_setCell] at hz1); (try have hza : w.heap.size < w1.heap.size := by omega); (try have hzb : w.heap.size + 1 < w1.heap.size := by omega); (try have hzc : w.heap.size + 1 + 1 < w1.heap.size := by omega); (try have hzd : wa.heap.size < w1.heap.size := by omega); (try replace hR := (hb1.block w.heap.size (by first | exact lt_heap hR | (have := lt_heap hR; simp; omega))).trans (by first | with_reducible exact hR | with_reducible exact laid_old hR)); replace hB := below_on (w := w) ((by repeat (first | with_reducible exact hB | with_reducible exact Below.refl _ _ | with_reducible refine below_al ?_ _ | with_reducible refine below_st ?_ (by first | exact Nat.le_refl _ | exact Nat.le_add_right _ _ | (simp; omega)) _))) hb1; clear hb1) | (go_at_call 171; refine (rmt_any _ _).mono ?_; rintro e w1 ⟨rfl, hb1⟩; obtain ⟨hc1, hf1⟩ := bcell hb1; have hz1 := hb1.size; (try simp only [World.size_alloc, World.size_setCell] at hz1); (try have hza : w.heap.size < w1.heap.size := by omega); (try have hzb : w.heap.size + 1 < w1.heap.size := by omega); (try have hzc : w.heap.size + 1 + 1 < w1.heap.size := by omega); (try have hzd : wa.heap.size < w1.heap.size := by omega); (try replace hR := (hb1.block w.heap.size (by first | exact lt_heap hR | (have := lt_heap hR; simp; omega))).trans (by first | with_reducible exact hR | with_reducible exact laid_old hR)); replace hB := below_on (w := w) ((by repeat (first | with_reducible exact hB | with_reducible exact Below.refl _ _ | with_reducible refine below_al ?_ _ | with_reducible refine below_st ?_ (by first | exact Nat.le_refl _ | exact Nat.le_add_right _ _ | (simp; omega)) _))) hb1; clear hb1))
 all_goals go_ret
 ·
  exact ⟨by rw [mtx_2 (eqT (by assumption))]; rfl, (by repeat (first | with_reducible exact hB | with_reducible exact Below.refl _ _ | with_reducible refine below_al ?_ _ | with_reducible refine below_st ?_ (by first | exact Nat.le_refl _ | exact Nat.le_add_right _ _ | (simp; omega)) _))⟩
 ·
  exact ⟨by rw [mtx_1 (eqF (by assumption))]; rfl, (by repeat (first | with_reducible exact hB | with_reducible exact Below.refl _ _ | with_reducible refine below_al ?_ _ | with_reducible refine below_st ?_ (by first | exact Nat.le_refl _ | exact Nat.le_add_right _ _ | (simp; omega)) _))⟩
set_option maxHeartbeats 1000000 in
theorem con_11 {w0 : World} {A : Option Addr} {n c : Nat} {L : List Cn} (s : ByteArray) (m a b : Int) (hS : Short L)  (hn : L.length = n) (hN : n ≤ 100000) (hp : Pool w0 w0.heap.size A L) (w : World) (hb : Below w0.heap.size w0 w) :
  Calls Tryz.prog 158 #[.slice A n c, .agg #[.int .i64 11, .string s, .int .i64 m, .int .i64 a, .int .i64 b]] w fun e w' => e = .returned (.int .i64 (mtx L 11 b)) ∧ Below w.heap.size w w' := by
 have HP := Lib.hid (hp.up hb)
 have HN := Lib.hid hn
 clear hp hb hn
 have hB : Below w.heap.size w w := Below.refl _ _
 have hz := ntN_short hS b
 have hy := ntD_short hS b
 have hmt : mtB 11 = true := rfl
 go_enter Tryz.func158, Tryz.ntmps158
 go_wp2_with (first | (go_at_call 177; refine (rnt_any _ HN.out hN HP.out _ (by repeat (first | with_reducible exact hB | with_reducible exact Below.refl _ _ | with_reducible refine below_al ?_ _ | with_reducible refine below_st ?_ (by first | exact Nat.le_refl _ | exact Nat.le_add_right _ _ | (simp; omega)) _))).mono ?_; rintro e w1 ⟨rfl, hb1⟩; obtain ⟨hc1, hf1⟩ := bcell hb1; have hz1 := hb1.size; (try simp only [World.size_alloc, World.size_setCell] at hz1); (try have hza : w.heap.size < w1.heap.size := by omega); (try have hzb : w.heap.size + 1 < w1.heap.size := by omega); (try have hzc : w.heap.size + 1 + 1 < w1.heap.size := by omega); (try have hzd : wa.heap.size < w1.heap.size := by omega); (try replace hR := (hb1.block w.heap.size (by first | exact lt_heap hR | (have := lt_heap hR; simp; omega))).trans (by first | with_reducible exact hR | with_reducible exact laid_old hR)); replace hB := below_on (w := w) ((by repeat (first | with_reducible exact hB | with_reducible exact Below.refl _ _ | with_reducible refine below_al ?_ _ | with_reducible refine below_st ?_ (by first | exact Nat.le_refl _ | exact Nat.le_add_right _ _ | (simp; omega)) _))) hb1; clear hb1) | (go_at_call 178; refine (nmd_any 11 _ _ hz hy _).mono ?_; rintro e w1 ⟨rfl, hb1⟩; obtain ⟨hc1, hf1⟩ := bcell hb1; have hz1 := hb1.size; (try simp only [World.size_alloc, World.size_setCell] at hz1); (try have hza : w.heap.size < w1.heap.size := by omega); (try have hzb : w.heap.size + 1 < w1.heap.size := by omega); (try have hzc : w.heap.size + 1 + 1 < w1.heap.size := by omega); (try have hzd : wa.heap.size < w1.heap.size := by omega); (try replace hR := (hb1.block w.heap.size (by first | exact lt_heap hR | (have := lt_heap hR; simp; omega))).trans (by first | with_reducible exact hR | with_reducible exact laid_old hR)); replace hB := below_on (w := w) ((by repeat (first | with_reducible exact hB | with_reducible exact Below.refl _ _ | with_reducible refine below_al ?_ _ | with_reducible refine below_st ?_ (by first | exact Nat.le_refl _ | exact Nat.le_add_right _ _ | (simp; omega)) _))) hb1; clear hb1) | (go_at_call 171; refine (rmt_any _ _).mono ?_; rintro e w1 ⟨rfl, hb1⟩; obtain ⟨hc1, hf1⟩ := bcell hb1; have hz1 := hb1.size; (try simp only [World.size_alloc, World.size_setCell] at hz1); (try have hza : w.heap.size < w1.heap.size := by omega); (try have hzb : w.heap.size + 1 < w1.heap.size := by omega); (try have hzc : w.heap.size + 1 + 1 < w1.heap.size := by omega); (try have hzd : wa.heap.size < w1.heap.size := by omega); (try replace hR := (hb1.block w.heap.size (by first | exact lt_heap hR | (have := lt_heap hR; simp; omega))).trans (by first | with_reducible exact hR | with_reducible exact laid_old hR)); replace hB := below_on (w := w) ((by repeat (first | with_reducible exact hB | with_reducible exact Below.refl _ _ | with_reducible refine below_al ?_ _ | with_reducible refine below_st ?_ (by first | exact Nat.le_refl _ | exact Nat.le_add_right _ _ | (simp; omega)) _))) hb1; clear hb1))
 all_goals go_ret
 ·
  exact ⟨by rw [mtx_2 (eqT (by assumption))]; rfl, (by repeat (first | with_reducible exact hB | with_reducible exact Below.refl _ _ | with_reducible refine below_al ?_ _ | with_reducible refine below_st ?_ (by first | exact Nat.le_refl _ | exact Nat.le_add_right _ _ | (simp; omega)) _))⟩
 ·
  exact ⟨by rw [mtx_1 (eqF (by assumption))]; rfl, (by repeat (first | with_reducible exact hB | with_reducible exact Below.refl _ _ | with_reducible refine below_al ?_ _ | with_reducible refine below_st ?_ (by first | exact Nat.le_refl _ | exact Nat.le_add_right _ _ | (simp; omega)) _))⟩
end Go.Proofs.YtalejaklggnnpaaGreatDoor
/- PoolIx -/
/- Layer 5: checkIndexes, both, Known, formed, checkConst, in the package and in its reference, tag by tag. -/
namespace Go.Proofs.YtalejaklggnnpaaGreatDoor
open Go.ChangeShapes Go.WideShapes Go.ChangeAt Go.RowKit Go.PlainAid
set_option linter.unusedSimpArgs false
set_option linter.unusedVariables false
/-- what the indexes of a constant of tag t say, the texts not read -/
def bxE (L : List Cn) (t a b : Int) : Int :=
 if t = 7 ∨ t = 8 then tgE L a 1
 else if t = 12 then (if tgE L a 1 = 0 then tgE L b 1 else tgE L a 1)
 else (if tgE L a 7 = 0 then tgE L b 12 else tgE L a 7)
def ixE (L : List Cn) (t a b : Int) : Int := if bxE L t a b = 0 then txE L t a b else bxE L t a b
theorem ix_bad {L : List Cn} {t a b : Int} (h : ¬ bxE L t a b = 0) : ixE L t a b = bxE L t a b := by unfold ixE; rw [if_neg h]
theorem ix_ok {L : List Cn} {t a b : Int} (h : bxE L t a b = 0) : ixE L t a b = txE L t a b := by unfold ixE; rw [if_pos h]
theorem bx7 (L : List Cn) (a b : Int) : bxE L 7 a b = tgE L a 1 := by unfold bxE; rw [if_pos (by decide)]
theorem bx8 (L : List Cn) (a b : Int) : bxE L 8 a b = tgE L a 1 := by unfold bxE; rw [if_pos (by decide)]
theorem bx12_1 {L : List Cn} {a b : Int} (h : ¬ tgE L a 1 = 0) : bxE L 12 a b = tgE L a 1 := by unfold bxE; rw [if_neg (by decide), if_pos rfl, if_neg h]
theorem bx12_2 {L : List Cn} {a b : Int} (h : tgE L a 1 = 0) : bxE L 12 a b = tgE L b 1 := by unfold bxE; rw [if_neg (by decide), if_pos rfl, if_pos h]
theorem bxm_1 {L : List Cn} {t a b : Int} (ht : 9 ≤ t ∧ t ≤ 11) (h : ¬ tgE L a 7 = 0) : bxE L t a b = tgE L a 7 := by unfold bxE; rw [if_neg (by omega), if_neg (by omega), if_neg h]
theorem bxm_2 {L : List Cn} {t a b : Int} (ht : 9 ≤ t ∧ t ≤ 11) (h : tgE L a 7 = 0) : bxE L t a b = tgE L b 12 := by unfold bxE; rw [if_neg (by omega), if_neg (by omega), if_pos h]
theorem tx7 (L : List Cn) (a b : Int) : txE L 7 a b = pcE (tgC L a 1).s := by unfold txE; rw [if_pos rfl]
theorem tx8 (L : List Cn) (a b : Int) : txE L 8 a b = 0 := rfl
theorem tx12 (L : List Cn) (a b : Int) : txE L 12 a b = ntxE (tgC L a 1).s (tgC L b 1).s := by unfold txE; rw [if_neg (by decide), if_pos rfl]
theorem txm {L : List Cn} {t a b : Int} (ht : 9 ≤ t ∧ t ≤ 11) : txE L t a b = mtx L t b := by
 unfold txE
 rw [if_neg (by omega), if_neg (by omega), if_pos]
 rcases (by omega : t = 9 ∨ t = 10 ∨ t = 11) with rfl | rfl | rfl <;> rfl
set_option maxHeartbeats 1000000 in
theorem chx_7 {w0 : World} {A : Option Addr} {n c : Nat} {L : List Cn} (s : ByteArray) (m a b : Int) (hS : Fits L) (hn : L.length = n) (hN : n ≤ 100000) (hp : Pool w0 w0.heap.size A L) (w : World) (hb : Below w0.heap.size w0 w) :
  Calls Tryz.prog 142 #[.slice A n c, .agg #[.int .i64 7, .string s, .int .i64 m, .int .i64 a, .int .i64 b]] w fun e w' => e = .returned (.int .i64 (ixE L 7 a b)) ∧ Below w.heap.size w w' := by
 have HP := Lib.hid (hp.up hb)
 have HN := Lib.hid hn
 clear hp hb hn
 have hB : Below w.heap.size w w := Below.refl _ _
 go_enter Tryz.func142, Tryz.ntmps142
 go_wp2_with (first | (go_at_call 152; refine (tg_any _ _ HN.out hN HP.out _ (by repeat (first | with_reducible exact hB | with_reducible exact Below.refl _ _ | with_reducible refine below_al ?_ _ | with_reducible refine below_st ?_ (by first | exact Nat.le_refl _ | exact Nat.le_add_right _ _ | (simp; omega)) _))).mono ?_; rintro e w1 ⟨rfl, hb1⟩; obtain ⟨hc1, hf1⟩ := bcell hb1; have hz1 := hb1.size; (try simp only [World.size_alloc, World.size_setCell] at hz1); (try have hza : w.heap.size < w1.heap.size := by omega); (try have hzb : w.heap.size + 1 < w1.heap.size := by omega); (try have hzc : w.heap.size + 1 + 1 < w1.heap.size := by omega); (try have hzd : wa.heap.size < w1.heap.size := by omega); (try replace hR := (hb1.block w.heap.size (by first | exact lt_heap hR | (have := lt_heap hR; simp; omega))).trans (by first | with_reducible exact hR | with_reducible exact laid_old hR)); replace hB := below_on (w := w) ((by repeat (first | with_reducible exact hB | with_reducible exact Below.refl _ _ | with_reducible refine below_al ?_ _ | with_reducible refine below_st ?_ (by first | exact Nat.le_refl _ | exact Nat.le_add_right _ _ | (simp; omega)) _))) hb1; clear hb1) | (go_at_call 150; refine (mt_any _ _).mono ?_; rintro e w1 ⟨rfl, hb1⟩; obtain ⟨hc1, hf1⟩ := bcell hb1; have hz1 := hb1.size; (try simp only [World.size_alloc, World.size_setCell] at hz1); (try have hza : w.heap.size < w1.heap.size := by omega); (try have hzb : w.heap.size + 1 < w1.heap.size := by omega); (try have hzc : w.heap.size + 1 + 1 < w1.heap.size := by omega); (try have hzd : wa.heap.size < w1.heap.size := by omega); (try replace hR := (hb1.block w.heap.size (by first | exact lt_heap hR | (have := lt_heap hR; simp; omega))).trans (by first | with_reducible exact hR | with_reducible exact laid_old hR)); replace hB := below_on (w := w) ((by repeat (first | with_reducible exact hB | with_reducible exact Below.refl _ _ | with_reducible refine below_al ?_ _ | with_reducible refine below_st ?_ (by first | exact Nat.le_refl _ | exact Nat.le_add_right _ _ | (simp; omega)) _))) hb1; clear hb1) | (go_at_call 167; refine (ctx_7 _ _ _ _ hS (bneF (by with_reducible assumption)) HN.out hN HP.out _ (by repeat (first | with_reducible exact hB | with_reducible exact Below.refl _ _ | with_reducible refine below_al ?_ _ | with_reducible refine below_st ?_ (by first | exact Nat.le_refl _ | exact Nat.le_add_right _ _ | (simp; omega)) _))).mono ?_; rintro e w1 ⟨rfl, hb1⟩; obtain ⟨hc1, hf1⟩ := bcell hb1; have hz1 := hb1.size; (try simp only [World.size_alloc, World.size_setCell] at hz1); (try have hza : w.heap.size < w1.heap.size := by omega); (try have hzb : w.heap.size + 1 < w1.heap.size := by omega); (try have hzc : w.heap.size + 1 + 1 < w1.heap.size := by omega); (try have hzd : wa.heap.size < w1.heap.size := by omega); (try replace hR := (hb1.block w.heap.size (by first | exact lt_heap hR | (have := lt_heap hR; simp; omega))).trans (by first | with_reducible exact hR | with_reducible exact laid_old hR)); replace hB := below_on (w := w) ((by repeat (first | with_reducible exact hB | with_reducible exact Below.refl _ _ | with_reducible refine below_al ?_ _ | with_reducible refine below_st ?_ (by first | exact Nat.le_refl _ | exact Nat.le_add_right _ _ | (simp; omega)) _))) hb1; clear hb1))
 all_goals go_ret
 ·
  exact ⟨by rw [ix_bad (by rw [bx7]; exact (bneT (by with_reducible assumption))), bx7]; rfl, (by repeat (first | with_reducible exact hB | with_reducible exact Below.refl _ _ | with_reducible refine below_al ?_ _ | with_reducible refine below_st ?_ (by first | exact Nat.le_refl _ | exact Nat.le_add_right _ _ | (simp; omega)) _))⟩
 ·
  exact ⟨by rw [ix_ok (by rw [bx7]; exact (bneF (by with_reducible assumption))), tx7]; rfl, (by repeat (first | with_reducible exact hB | with_reducible exact Below.refl _ _ | with_reducible refine below_al ?_ _ | with_reducible refine below_st ?_ (by first | exact Nat.le_refl _ | exact Nat.le_add_right _ _ | (simp; omega)) _))⟩
set_option maxHeartbeats 1000000 in
theorem chx_8 {w0 : World} {A : Option Addr} {n c : Nat} {L : List Cn} (s : ByteArray) (m a b : Int) (hS : Fits L) (hn : L.length = n) (hN : n ≤ 100000) (hp : Pool w0 w0.heap.size A L) (w : World) (hb : Below w0.heap.size w0 w) :
  Calls Tryz.prog 142 #[.slice A n c, .agg #[.int .i64 8, .string s, .int .i64 m, .int .i64 a, .int .i64 b]] w fun e w' => e = .returned (.int .i64 (ixE L 8 a b)) ∧ Below w.heap.size w w' := by
 have HP := Lib.hid (hp.up hb)
 have HN := Lib.hid hn
 clear hp hb hn
 have hB : Below w.heap.size w w := Below.refl _ _
 go_enter Tryz.func142, Tryz.ntmps142
 go_wp2_with (first | (go_at_call 152; refine (tg_any _ _ HN.out hN HP.out _ (by repeat (first | with_reducible exact hB | with_reducible exact Below.refl _ _ | with_reducible refine below_al ?_ _ | with_reducible refine below_st ?_ (by first | exact Nat.le_refl _ | exact Nat.le_add_right _ _ | (simp; omega)) _))).mono ?_; rintro e w1 ⟨rfl, hb1⟩; obtain ⟨hc1, hf1⟩ := bcell hb1; have hz1 := hb1.size; (try simp only [World.size_alloc, World.size_setCell] at hz1); (try have hza : w.heap.size < w1.heap.size := by omega); (try have hzb : w.heap.size + 1 < w1.heap.size := by omega); (try have hzc : w.heap.size + 1 + 1 < w1.heap.size := by omega); (try have hzd : wa.heap.size < w1.heap.size := by omega); (try replace hR := (hb1.block w.heap.size (by first | exact lt_heap hR | (have := lt_heap hR; simp; omega))).trans (by first | with_reducible exact hR | with_reducible exact laid_old hR)); replace hB := below_on (w := w) ((by repeat (first | with_reducible exact hB | with_reducible exact Below.refl _ _ | with_reducible refine below_al ?_ _ | with_reducible refine below_st ?_ (by first | exact Nat.le_refl _ | exact Nat.le_add_right _ _ | (simp; omega)) _))) hb1; clear hb1) | (go_at_call 150; refine (mt_any _ _).mono ?_; rintro e w1 ⟨rfl, hb1⟩; obtain ⟨hc1, hf1⟩ := bcell hb1; have hz1 := hb1.size; (try simp only [World.size_alloc, World.size_setCell] at hz1); (try have hza : w.heap.size < w1.heap.size := by omega); (try have hzb : w.heap.size + 1 < w1.heap.size := by omega); (try have hzc : w.heap.size + 1 + 1 < w1.heap.size := by omega); (try have hzd : wa.heap.size < w1.heap.size := by omega); (try replace hR := (hb1.block w.heap.size (by first | exact lt_heap hR | (have := lt_heap hR; simp; omega))).trans (by first | with_reducible exact hR | with_reducible exact laid_old hR)); replace hB := below_on (w := w) ((by repeat (first | with_reducible exact hB | with_reducible exact Below.refl _ _ | with_reducible refine below_al ?_ _ | with_reducible refine below_st ?_ (by first | exact Nat.le_refl _ | exact Nat.le_add_right _ _ | (simp; omega)) _))) hb1; clear hb1) | (go_at_call 167; refine (ctx_8 _ _ _ _ hS HN.out hN HP.out _ (by repeat (first | with_reducible exact hB | with_reducible exact Below.refl _ _ | with_reducible refine below_al ?_ _ | with_reducible refine below_st ?_ (by first | exact Nat.le_refl _ | exact Nat.le_add_right _ _ | (simp; omega)) _))).mono ?_; rintro e w1 ⟨rfl, hb1⟩; obtain ⟨hc1, hf1⟩ := bcell hb1; have hz1 := hb1.size; (try simp only [World.size_alloc, World.size_setCell] at hz1); (try have hza : w.heap.size < w1.heap.size := by omega); (try have hzb : w.heap.size + 1 < w1.heap.size := by omega); (try have hzc : w.heap.size + 1 + 1 < w1.heap.size := by omega); (try have hzd : wa.heap.size < w1.heap.size := by omega); (try replace hR := (hb1.block w.heap.size (by first | exact lt_heap hR | (have := lt_heap hR; simp; omega))).trans (by first | with_reducible exact hR | with_reducible exact laid_old hR)); replace hB := below_on (w := w) ((by repeat (first | with_reducible exact hB | with_reducible exact Below.refl _ _ | with_reducible refine below_al ?_ _ | with_reducible refine below_st ?_ (by first | exact Nat.le_refl _ | exact Nat.le_add_right _ _ | (simp; omega)) _))) hb1; clear hb1))
 all_goals go_ret
 ·
  exact ⟨by rw [ix_bad (by rw [bx8]; exact (bneT (by with_reducible assumption))), bx8]; rfl, (by repeat (first | with_reducible exact hB | with_reducible exact Below.refl _ _ | with_reducible refine below_al ?_ _ | with_reducible refine below_st ?_ (by first | exact Nat.le_refl _ | exact Nat.le_add_right _ _ | (simp; omega)) _))⟩
 ·
  exact ⟨by rw [ix_ok (by rw [bx8]; exact (bneF (by with_reducible assumption))), tx8]; rfl, (by repeat (first | with_reducible exact hB | with_reducible exact Below.refl _ _ | with_reducible refine below_al ?_ _ | with_reducible refine below_st ?_ (by first | exact Nat.le_refl _ | exact Nat.le_add_right _ _ | (simp; omega)) _))⟩
set_option maxHeartbeats 1000000 in
theorem chx_12 {w0 : World} {A : Option Addr} {n c : Nat} {L : List Cn} (s : ByteArray) (m a b : Int) (hS : Fits L) (hn : L.length = n) (hN : n ≤ 100000) (hp : Pool w0 w0.heap.size A L) (w : World) (hb : Below w0.heap.size w0 w) :
  Calls Tryz.prog 142 #[.slice A n c, .agg #[.int .i64 12, .string s, .int .i64 m, .int .i64 a, .int .i64 b]] w fun e w' => e = .returned (.int .i64 (ixE L 12 a b)) ∧ Below w.heap.size w w' := by
 have HP := Lib.hid (hp.up hb)
 have HN := Lib.hid hn
 clear hp hb hn
 have hB : Below w.heap.size w w := Below.refl _ _
 go_enter Tryz.func142, Tryz.ntmps142
 go_wp2_with (first | (go_at_call 152; refine (tg_any _ _ HN.out hN HP.out _ (by repeat (first | with_reducible exact hB | with_reducible exact Below.refl _ _ | with_reducible refine below_al ?_ _ | with_reducible refine below_st ?_ (by first | exact Nat.le_refl _ | exact Nat.le_add_right _ _ | (simp; omega)) _))).mono ?_; rintro e w1 ⟨rfl, hb1⟩; obtain ⟨hc1, hf1⟩ := bcell hb1; have hz1 := hb1.size; (try simp only [World.size_alloc, World.size_setCell] at hz1); (try have hza : w.heap.size < w1.heap.size := by omega); (try have hzb : w.heap.size + 1 < w1.heap.size := by omega); (try have hzc : w.heap.size + 1 + 1 < w1.heap.size := by omega); (try have hzd : wa.heap.size < w1.heap.size := by omega); (try replace hR := (hb1.block w.heap.size (by first | exact lt_heap hR | (have := lt_heap hR; simp; omega))).trans (by first | with_reducible exact hR | with_reducible exact laid_old hR)); replace hB := below_on (w := w) ((by repeat (first | with_reducible exact hB | with_reducible exact Below.refl _ _ | with_reducible refine below_al ?_ _ | with_reducible refine below_st ?_ (by first | exact Nat.le_refl _ | exact Nat.le_add_right _ _ | (simp; omega)) _))) hb1; clear hb1) | (go_at_call 150; refine (mt_any _ _).mono ?_; rintro e w1 ⟨rfl, hb1⟩; obtain ⟨hc1, hf1⟩ := bcell hb1; have hz1 := hb1.size; (try simp only [World.size_alloc, World.size_setCell] at hz1); (try have hza : w.heap.size < w1.heap.size := by omega); (try have hzb : w.heap.size + 1 < w1.heap.size := by omega); (try have hzc : w.heap.size + 1 + 1 < w1.heap.size := by omega); (try have hzd : wa.heap.size < w1.heap.size := by omega); (try replace hR := (hb1.block w.heap.size (by first | exact lt_heap hR | (have := lt_heap hR; simp; omega))).trans (by first | with_reducible exact hR | with_reducible exact laid_old hR)); replace hB := below_on (w := w) ((by repeat (first | with_reducible exact hB | with_reducible exact Below.refl _ _ | with_reducible refine below_al ?_ _ | with_reducible refine below_st ?_ (by first | exact Nat.le_refl _ | exact Nat.le_add_right _ _ | (simp; omega)) _))) hb1; clear hb1) | (go_at_call 167; refine (ctx_12 _ _ _ _ hS (bneF (by with_reducible assumption)) (bneF (by with_reducible assumption)) HN.out hN HP.out _ (by repeat (first | with_reducible exact hB | with_reducible exact Below.refl _ _ | with_reducible refine below_al ?_ _ | with_reducible refine below_st ?_ (by first | exact Nat.le_refl _ | exact Nat.le_add_right _ _ | (simp; omega)) _))).mono ?_; rintro e w1 ⟨rfl, hb1⟩; obtain ⟨hc1, hf1⟩ := bcell hb1; have hz1 := hb1.size; (try simp only [World.size_alloc, World.size_setCell] at hz1); (try have hza : w.heap.size < w1.heap.size := by omega); (try have hzb : w.heap.size + 1 < w1.heap.size := by omega); (try have hzc : w.heap.size + 1 + 1 < w1.heap.size := by omega); (try have hzd : wa.heap.size < w1.heap.size := by omega); (try replace hR := (hb1.block w.heap.size (by first | exact lt_heap hR | (have := lt_heap hR; simp; omega))).trans (by first | with_reducible exact hR | with_reducible exact laid_old hR)); replace hB := below_on (w := w) ((by repeat (first | with_reducible exact hB | with_reducible exact Below.refl _ _ | with_reducible refine below_al ?_ _ | with_reducible refine below_st ?_ (by first | exact Nat.le_refl _ | exact Nat.le_add_right _ _ | (simp; omega)) _))) hb1; clear hb1))
 all_goals go_ret
 ·
  exact ⟨by rw [ix_bad (by rw [bx12_1 (bneT (by with_reducible assumption))]; exact (bneT (by with_reducible assumption))), bx12_1 (bneT (by with_reducible assumption))]; rfl, (by repeat (first | with_reducible exact hB | with_reducible exact Below.refl _ _ | with_reducible refine below_al ?_ _ | with_reducible refine below_st ?_ (by first | exact Nat.le_refl _ | exact Nat.le_add_right _ _ | (simp; omega)) _))⟩
 ·
  exact ⟨by rw [ix_bad (by rw [bx12_2 (bneF (by with_reducible assumption))]; exact (bneT (by with_reducible assumption))), bx12_2 (bneF (by with_reducible assumption))]; rfl, (by repeat (first | with_reducible exact hB | with_reducible exact Below.refl _ _ | with_reducible refine below_al ?_ _ | with_reducible refine below_st ?_ (by first | exact Nat.le_refl _ | exact Nat.le_add_right _ _ | (simp; omega)) _))⟩
 ·
  exact ⟨by rw [ix_ok (by rw [bx12_2 (bneF (by with_reducible assumption))]; exact (bneF (by with_reducible assumption))), tx12]; rfl, (by repeat (first | with_reducible exact hB | with_reducible exact Below.refl _ _ | with_reducible refine below_al ?_ _ | with_reducible refine below_st ?_ (by first | exact Nat.le_refl _ | exact Nat.le_add_right _ _ | (simp; omega)) _))⟩
set_option maxHeartbeats 1000000 in
theorem chx_9 {w0 : World} {A : Option Addr} {n c : Nat} {L : List Cn} (s : ByteArray) (m a b : Int) (hS : Fits L) (hn : L.length = n) (hN : n ≤ 100000) (hp : Pool w0 w0.heap.size A L) (w : World) (hb : Below w0.heap.size w0 w) :
  Calls Tryz.prog 142 #[.slice A n c, .agg #[.int .i64 9, .string s, .int .i64 m, .int .i64 a, .int .i64 b]] w fun e w' => e = .returned (.int .i64 (ixE L 9 a b)) ∧ Below w.heap.size w w' := by
 have HP := Lib.hid (hp.up hb)
 have HN := Lib.hid hn
 clear hp hb hn
 have hB : Below w.heap.size w w := Below.refl _ _
 go_enter Tryz.func142, Tryz.ntmps142
 go_wp2_with (first | (go_at_call 152; refine (tg_any _ _ HN.out hN HP.out _ (by repeat (first | with_reducible exact hB | with_reducible exact Below.refl _ _ | with_reducible refine below_al ?_ _ | with_reducible refine below_st ?_ (by first | exact Nat.le_refl _ | exact Nat.le_add_right _ _ | (simp; omega)) _))).mono ?_; rintro e w1 ⟨rfl, hb1⟩; obtain ⟨hc1, hf1⟩ := bcell hb1; have hz1 := hb1.size; (try simp only [World.size_alloc, World.size_setCell] at hz1); (try have hza : w.heap.size < w1.heap.size := by omega); (try have hzb : w.heap.size + 1 < w1.heap.size := by omega); (try have hzc : w.heap.size + 1 + 1 < w1.heap.size := by omega); (try have hzd : wa.heap.size < w1.heap.size := by omega); (try replace hR := (hb1.block w.heap.size (by first | exact lt_heap hR | (have := lt_heap hR; simp; omega))).trans (by first | with_reducible exact hR | with_reducible exact laid_old hR)); replace hB := below_on (w := w) ((by repeat (first | with_reducible exact hB | with_reducible exact Below.refl _ _ | with_reducible refine below_al ?_ _ | with_reducible refine below_st ?_ (by first | exact Nat.le_refl _ | exact Nat.le_add_right _ _ | (simp; omega)) _))) hb1; clear hb1) | (go_at_call 150; refine (mt_any _ _).mono ?_; rintro e w1 ⟨rfl, hb1⟩; obtain ⟨hc1, hf1⟩ := bcell hb1; have hz1 := hb1.size; (try simp only [World.size_alloc, World.size_setCell] at hz1); (try have hza : w.heap.size < w1.heap.size := by omega); (try have hzb : w.heap.size + 1 < w1.heap.size := by omega); (try have hzc : w.heap.size + 1 + 1 < w1.heap.size := by omega); (try have hzd : wa.heap.size < w1.heap.size := by omega); (try replace hR := (hb1.block w.heap.size (by first | exact lt_heap hR | (have := lt_heap hR; simp; omega))).trans (by first | with_reducible exact hR | with_reducible exact laid_old hR)); replace hB := below_on (w := w) ((by repeat (first | with_reducible exact hB | with_reducible exact Below.refl _ _ | with_reducible refine below_al ?_ _ | with_reducible refine below_st ?_ (by first | exact Nat.le_refl _ | exact Nat.le_add_right _ _ | (simp; omega)) _))) hb1; clear hb1) | (go_at_call 167; refine (ctx_9 _ _ _ _ hS HN.out hN HP.out _ (by repeat (first | with_reducible exact hB | with_reducible exact Below.refl _ _ | with_reducible refine below_al ?_ _ | with_reducible refine below_st ?_ (by first | exact Nat.le_refl _ | exact Nat.le_add_right _ _ | (simp; omega)) _))).mono ?_; rintro e w1 ⟨rfl, hb1⟩; obtain ⟨hc1, hf1⟩ := bcell hb1; have hz1 := hb1.size; (try simp only [World.size_alloc, World.size_setCell] at hz1); (try have hza : w.heap.size < w1.heap.size := by omega); (try have hzb : w.heap.size + 1 < w1.heap.size := by omega); (try have hzc : w.heap.size + 1 + 1 < w1.heap.size := by omega); (try have hzd : wa.heap.size < w1.heap.size := by omega); (try replace hR := (hb1.block w.heap.size (by first | exact lt_heap hR | (have := lt_heap hR; simp; omega))).trans (by first | with_reducible exact hR | with_reducible exact laid_old hR)); replace hB := below_on (w := w) ((by repeat (first | with_reducible exact hB | with_reducible exact Below.refl _ _ | with_reducible refine below_al ?_ _ | with_reducible refine below_st ?_ (by first | exact Nat.le_refl _ | exact Nat.le_add_right _ _ | (simp; omega)) _))) hb1; clear hb1))
 all_goals go_ret
 ·
  exact ⟨by rw [ix_bad (by rw [bxm_1 (by omega) (bneT (by with_reducible assumption))]; exact (bneT (by with_reducible assumption))), bxm_1 (by omega) (bneT (by with_reducible assumption))]; rfl, (by repeat (first | with_reducible exact hB | with_reducible exact Below.refl _ _ | with_reducible refine below_al ?_ _ | with_reducible refine below_st ?_ (by first | exact Nat.le_refl _ | exact Nat.le_add_right _ _ | (simp; omega)) _))⟩
 ·
  exact ⟨by rw [ix_bad (by rw [bxm_2 (by omega) (bneF (by with_reducible assumption))]; exact (bneT (by with_reducible assumption))), bxm_2 (by omega) (bneF (by with_reducible assumption))]; rfl, (by repeat (first | with_reducible exact hB | with_reducible exact Below.refl _ _ | with_reducible refine below_al ?_ _ | with_reducible refine below_st ?_ (by first | exact Nat.le_refl _ | exact Nat.le_add_right _ _ | (simp; omega)) _))⟩
 ·
  exact ⟨by rw [ix_ok (by rw [bxm_2 (by omega) (bneF (by with_reducible assumption))]; exact (bneF (by with_reducible assumption))), txm (by omega)]; rfl, (by repeat (first | with_reducible exact hB | with_reducible exact Below.refl _ _ | with_reducible refine below_al ?_ _ | with_reducible refine below_st ?_ (by first | exact Nat.le_refl _ | exact Nat.le_add_right _ _ | (simp; omega)) _))⟩
set_option maxHeartbeats 1000000 in
theorem chx_10 {w0 : World} {A : Option Addr} {n c : Nat} {L : List Cn} (s : ByteArray) (m a b : Int) (hS : Fits L) (hn : L.length = n) (hN : n ≤ 100000) (hp : Pool w0 w0.heap.size A L) (w : World) (hb : Below w0.heap.size w0 w) :
  Calls Tryz.prog 142 #[.slice A n c, .agg #[.int .i64 10, .string s, .int .i64 m, .int .i64 a, .int .i64 b]] w fun e w' => e = .returned (.int .i64 (ixE L 10 a b)) ∧ Below w.heap.size w w' := by
 have HP := Lib.hid (hp.up hb)
 have HN := Lib.hid hn
 clear hp hb hn
 have hB : Below w.heap.size w w := Below.refl _ _
 go_enter Tryz.func142, Tryz.ntmps142
 go_wp2_with (first | (go_at_call 152; refine (tg_any _ _ HN.out hN HP.out _ (by repeat (first | with_reducible exact hB | with_reducible exact Below.refl _ _ | with_reducible refine below_al ?_ _ | with_reducible refine below_st ?_ (by first | exact Nat.le_refl _ | exact Nat.le_add_right _ _ | (simp; omega)) _))).mono ?_; rintro e w1 ⟨rfl, hb1⟩; obtain ⟨hc1, hf1⟩ := bcell hb1; have hz1 := hb1.size; (try simp only [World.size_alloc, World.size_setCell] at hz1); (try have hza : w.heap.size < w1.heap.size := by omega); (try have hzb : w.heap.size + 1 < w1.heap.size := by omega); (try have hzc : w.heap.size + 1 + 1 < w1.heap.size := by omega); (try have hzd : wa.heap.size < w1.heap.size := by omega); (try replace hR := (hb1.block w.heap.size (by first | exact lt_heap hR | (have := lt_heap hR; simp; omega))).trans (by first | with_reducible exact hR | with_reducible exact laid_old hR)); replace hB := below_on (w := w) ((by repeat (first | with_reducible exact hB | with_reducible exact Below.refl _ _ | with_reducible refine below_al ?_ _ | with_reducible refine below_st ?_ (by first | exact Nat.le_refl _ | exact Nat.le_add_right _ _ | (simp; omega)) _))) hb1; clear hb1) | (go_at_call 150; refine (mt_any _ _).mono ?_; rintro e w1 ⟨rfl, hb1⟩; obtain ⟨hc1, hf1⟩ := bcell hb1; have hz1 := hb1.size; (try simp only [World.size_alloc, World.size_setCell] at hz1); (try have hza : w.heap.size < w1.heap.size := by omega); (try have hzb : w.heap.size + 1 < w1.heap.size := by omega); (try have hzc : w.heap.size + 1 + 1 < w1.heap.size := by omega); (try have hzd : wa.heap.size < w1.heap.size := by omega); (try replace hR := (hb1.block w.heap.size (by first | exact lt_heap hR | (have := lt_heap hR; simp; omega))).trans (by first | with_reducible exact hR | with_reducible exact laid_old hR)); replace hB := below_on (w := w) ((by repeat (first | with_reducible exact hB | with_reducible exact Below.refl _ _ | with_reducible refine below_al ?_ _ | with_reducible refine below_st ?_ (by first | exact Nat.le_refl _ | exact Nat.le_add_right _ _ | (simp; omega)) _))) hb1; clear hb1) | (go_at_call 167; refine (ctx_10 _ _ _ _ hS HN.out hN HP.out _ (by repeat (first | with_reducible exact hB | with_reducible exact Below.refl _ _ | with_reducible refine below_al ?_ _ | with_reducible refine below_st ?_ (by first | exact Nat.le_refl _ | exact Nat.le_add_right _ _ | (simp; omega)) _))).mono ?_; rintro e w1 ⟨rfl, hb1⟩; obtain ⟨hc1, hf1⟩ := bcell hb1; have hz1 := hb1.size; (try simp only [World.size_alloc, World.size_setCell] at hz1); (try have hza : w.heap.size < w1.heap.size := by omega); (try have hzb : w.heap.size + 1 < w1.heap.size := by omega); (try have hzc : w.heap.size + 1 + 1 < w1.heap.size := by omega); (try have hzd : wa.heap.size < w1.heap.size := by omega); (try replace hR := (hb1.block w.heap.size (by first | exact lt_heap hR | (have := lt_heap hR; simp; omega))).trans (by first | with_reducible exact hR | with_reducible exact laid_old hR)); replace hB := below_on (w := w) ((by repeat (first | with_reducible exact hB | with_reducible exact Below.refl _ _ | with_reducible refine below_al ?_ _ | with_reducible refine below_st ?_ (by first | exact Nat.le_refl _ | exact Nat.le_add_right _ _ | (simp; omega)) _))) hb1; clear hb1))
 all_goals go_ret
 ·
  exact ⟨by rw [ix_bad (by rw [bxm_1 (by omega) (bneT (by with_reducible assumption))]; exact (bneT (by with_reducible assumption))), bxm_1 (by omega) (bneT (by with_reducible assumption))]; rfl, (by repeat (first | with_reducible exact hB | with_reducible exact Below.refl _ _ | with_reducible refine below_al ?_ _ | with_reducible refine below_st ?_ (by first | exact Nat.le_refl _ | exact Nat.le_add_right _ _ | (simp; omega)) _))⟩
 ·
  exact ⟨by rw [ix_bad (by rw [bxm_2 (by omega) (bneF (by with_reducible assumption))]; exact (bneT (by with_reducible assumption))), bxm_2 (by omega) (bneF (by with_reducible assumption))]; rfl, (by repeat (first | with_reducible exact hB | with_reducible exact Below.refl _ _ | with_reducible refine below_al ?_ _ | with_reducible refine below_st ?_ (by first | exact Nat.le_refl _ | exact Nat.le_add_right _ _ | (simp; omega)) _))⟩
 ·
  exact ⟨by rw [ix_ok (by rw [bxm_2 (by omega) (bneF (by with_reducible assumption))]; exact (bneF (by with_reducible assumption))), txm (by omega)]; rfl, (by repeat (first | with_reducible exact hB | with_reducible exact Below.refl _ _ | with_reducible refine below_al ?_ _ | with_reducible refine below_st ?_ (by first | exact Nat.le_refl _ | exact Nat.le_add_right _ _ | (simp; omega)) _))⟩
set_option maxHeartbeats 1000000 in
theorem chx_11 {w0 : World} {A : Option Addr} {n c : Nat} {L : List Cn} (s : ByteArray) (m a b : Int) (hS : Fits L) (hn : L.length = n) (hN : n ≤ 100000) (hp : Pool w0 w0.heap.size A L) (w : World) (hb : Below w0.heap.size w0 w) :
  Calls Tryz.prog 142 #[.slice A n c, .agg #[.int .i64 11, .string s, .int .i64 m, .int .i64 a, .int .i64 b]] w fun e w' => e = .returned (.int .i64 (ixE L 11 a b)) ∧ Below w.heap.size w w' := by
 have HP := Lib.hid (hp.up hb)
 have HN := Lib.hid hn
 clear hp hb hn
 have hB : Below w.heap.size w w := Below.refl _ _
 go_enter Tryz.func142, Tryz.ntmps142
 go_wp2_with (first | (go_at_call 152; refine (tg_any _ _ HN.out hN HP.out _ (by repeat (first | with_reducible exact hB | with_reducible exact Below.refl _ _ | with_reducible refine below_al ?_ _ | with_reducible refine below_st ?_ (by first | exact Nat.le_refl _ | exact Nat.le_add_right _ _ | (simp; omega)) _))).mono ?_; rintro e w1 ⟨rfl, hb1⟩; obtain ⟨hc1, hf1⟩ := bcell hb1; have hz1 := hb1.size; (try simp only [World.size_alloc, World.size_setCell] at hz1); (try have hza : w.heap.size < w1.heap.size := by omega); (try have hzb : w.heap.size + 1 < w1.heap.size := by omega); (try have hzc : w.heap.size + 1 + 1 < w1.heap.size := by omega); (try have hzd : wa.heap.size < w1.heap.size := by omega); (try replace hR := (hb1.block w.heap.size (by first | exact lt_heap hR | (have := lt_heap hR; simp; omega))).trans (by first | with_reducible exact hR | with_reducible exact laid_old hR)); replace hB := below_on (w := w) ((by repeat (first | with_reducible exact hB | with_reducible exact Below.refl _ _ | with_reducible refine below_al ?_ _ | with_reducible refine below_st ?_ (by first | exact Nat.le_refl _ | exact Nat.le_add_right _ _ | (simp; omega)) _))) hb1; clear hb1) | (go_at_call 150; refine (mt_any _ _).mono ?_; rintro e w1 ⟨rfl, hb1⟩; obtain ⟨hc1, hf1⟩ := bcell hb1; have hz1 := hb1.size; (try simp only [World.size_alloc, World.size_setCell] at hz1); (try have hza : w.heap.size < w1.heap.size := by omega); (try have hzb : w.heap.size + 1 < w1.heap.size := by omega); (try have hzc : w.heap.size + 1 + 1 < w1.heap.size := by omega); (try have hzd : wa.heap.size < w1.heap.size := by omega); (try replace hR := (hb1.block w.heap.size (by first | exact lt_heap hR | (have := lt_heap hR; simp; omega))).trans (by first | with_reducible exact hR | with_reducible exact laid_old hR)); replace hB := below_on (w := w) ((by repeat (first | with_reducible exact hB | with_reducible exact Below.refl _ _ | with_reducible refine below_al ?_ _ | with_reducible refine below_st ?_ (by first | exact Nat.le_refl _ | exact Nat.le_add_right _ _ | (simp; omega)) _))) hb1; clear hb1) | (go_at_call 167; refine (ctx_11 _ _ _ _ hS HN.out hN HP.out _ (by repeat (first | with_reducible exact hB | with_reducible exact Below.refl _ _ | with_reducible refine below_al ?_ _ | with_reducible refine below_st ?_ (by first | exact Nat.le_refl _ | exact Nat.le_add_right _ _ | (simp; omega)) _))).mono ?_; rintro e w1 ⟨rfl, hb1⟩; obtain ⟨hc1, hf1⟩ := bcell hb1; have hz1 := hb1.size; (try simp only [World.size_alloc, World.size_setCell] at hz1); (try have hza : w.heap.size < w1.heap.size := by omega); (try have hzb : w.heap.size + 1 < w1.heap.size := by omega); (try have hzc : w.heap.size + 1 + 1 < w1.heap.size := by omega); (try have hzd : wa.heap.size < w1.heap.size := by omega); (try replace hR := (hb1.block w.heap.size (by first | exact lt_heap hR | (have := lt_heap hR; simp; omega))).trans (by first | with_reducible exact hR | with_reducible exact laid_old hR)); replace hB := below_on (w := w) ((by repeat (first | with_reducible exact hB | with_reducible exact Below.refl _ _ | with_reducible refine below_al ?_ _ | with_reducible refine below_st ?_ (by first | exact Nat.le_refl _ | exact Nat.le_add_right _ _ | (simp; omega)) _))) hb1; clear hb1))
 all_goals go_ret
 ·
  exact ⟨by rw [ix_bad (by rw [bxm_1 (by omega) (bneT (by with_reducible assumption))]; exact (bneT (by with_reducible assumption))), bxm_1 (by omega) (bneT (by with_reducible assumption))]; rfl, (by repeat (first | with_reducible exact hB | with_reducible exact Below.refl _ _ | with_reducible refine below_al ?_ _ | with_reducible refine below_st ?_ (by first | exact Nat.le_refl _ | exact Nat.le_add_right _ _ | (simp; omega)) _))⟩
 ·
  exact ⟨by rw [ix_bad (by rw [bxm_2 (by omega) (bneF (by with_reducible assumption))]; exact (bneT (by with_reducible assumption))), bxm_2 (by omega) (bneF (by with_reducible assumption))]; rfl, (by repeat (first | with_reducible exact hB | with_reducible exact Below.refl _ _ | with_reducible refine below_al ?_ _ | with_reducible refine below_st ?_ (by first | exact Nat.le_refl _ | exact Nat.le_add_right _ _ | (simp; omega)) _))⟩
 ·
  exact ⟨by rw [ix_ok (by rw [bxm_2 (by omega) (bneF (by with_reducible assumption))]; exact (bneF (by with_reducible assumption))), txm (by omega)]; rfl, (by repeat (first | with_reducible exact hB | with_reducible exact Below.refl _ _ | with_reducible refine below_al ?_ _ | with_reducible refine below_st ?_ (by first | exact Nat.le_refl _ | exact Nat.le_add_right _ _ | (simp; omega)) _))⟩
theorem rrf_any {w0 : World} {A : Option Addr} {n c : Nat} {L : List Cn} (i t : Int) (hn : L.length = n) (hN : n ≤ 100000) (hp : Pool w0 w0.heap.size A L) (w : World) (hb : Below w0.heap.size w0 w) :
  Calls Tryz.prog 172 #[.slice A n c, .int .i64 i, .int .i64 t] w fun e w' => e = .returned (.int .i64 (tgE L i t)) ∧ Below w.heap.size w w' := by
 have HP := Lib.hid (hp.up hb)
 have HN := Lib.hid hn
 clear hp hb hn
 have hB : Below w.heap.size w w := Below.refl _ _
 go_enter Tryz.func172, Tryz.ntmps172
 go_wp2_with (go_at_call 179; refine (rtg_any _ _ HN.out hN HP.out _ (by repeat (first | with_reducible exact hB | with_reducible exact Below.refl _ _ | with_reducible refine below_al ?_ _ | with_reducible refine below_st ?_ (by first | exact Nat.le_refl _ | exact Nat.le_add_right _ _ | (simp; omega)) _))).mono ?_; rintro e w1 ⟨rfl, hb1⟩; obtain ⟨hc1, hf1⟩ := bcell hb1; have hz1 := hb1.size; (try simp only [World.size_alloc, World.size_setCell] at hz1); (try have hza : w.heap.size < w1.heap.size := by omega); (try have hzb : w.heap.size + 1 < w1.heap.size := by omega); (try have hzc : w.heap.size + 1 + 1 < w1.heap.size := by omega); (try have hzd : wa.heap.size < w1.heap.size := by omega); (try replace hR := (hb1.block w.heap.size (by first | exact lt_heap hR | (have := lt_heap hR; simp; omega))).trans (by first | with_reducible exact hR | with_reducible exact laid_old hR)); replace hB := below_on (w := w) ((by repeat (first | with_reducible exact hB | with_reducible exact Below.refl _ _ | with_reducible refine below_al ?_ _ | with_reducible refine below_st ?_ (by first | exact Nat.le_refl _ | exact Nat.le_add_right _ _ | (simp; omega)) _))) hb1; clear hb1)
 all_goals go_ret
 exact ⟨rfl, (by repeat (first | with_reducible exact hB | with_reducible exact Below.refl _ _ | with_reducible refine below_al ?_ _ | with_reducible refine below_st ?_ (by first | exact Nat.le_refl _ | exact Nat.le_add_right _ _ | (simp; omega)) _))⟩
set_option maxHeartbeats 1000000 in
theorem bth_7 {w0 : World} {A : Option Addr} {n c : Nat} {L : List Cn} (s : ByteArray) (m a b : Int) (hn : L.length = n) (hN : n ≤ 100000) (hp : Pool w0 w0.heap.size A L) (w : World) (hb : Below w0.heap.size w0 w) :
  Calls Tryz.prog 157 #[.slice A n c, .agg #[.int .i64 7, .string s, .int .i64 m, .int .i64 a, .int .i64 b]] w fun e w' => e = .returned (.int .i64 (bxE L 7 a b)) ∧ Below w.heap.size w w' := by
 have HP := Lib.hid (hp.up hb)
 have HN := Lib.hid hn
 clear hp hb hn
 have hB : Below w.heap.size w w := Below.refl _ _
 go_enter Tryz.func157, Tryz.ntmps157
 go_wp2_with (first | (go_at_call 172; refine (rrf_any _ _ HN.out hN HP.out _ (by repeat (first | with_reducible exact hB | with_reducible exact Below.refl _ _ | with_reducible refine below_al ?_ _ | with_reducible refine below_st ?_ (by first | exact Nat.le_refl _ | exact Nat.le_add_right _ _ | (simp; omega)) _))).mono ?_; rintro e w1 ⟨rfl, hb1⟩; obtain ⟨hc1, hf1⟩ := bcell hb1; have hz1 := hb1.size; (try simp only [World.size_alloc, World.size_setCell] at hz1); (try have hza : w.heap.size < w1.heap.size := by omega); (try have hzb : w.heap.size + 1 < w1.heap.size := by omega); (try have hzc : w.heap.size + 1 + 1 < w1.heap.size := by omega); (try have hzd : wa.heap.size < w1.heap.size := by omega); (try replace hR := (hb1.block w.heap.size (by first | exact lt_heap hR | (have := lt_heap hR; simp; omega))).trans (by first | with_reducible exact hR | with_reducible exact laid_old hR)); replace hB := below_on (w := w) ((by repeat (first | with_reducible exact hB | with_reducible exact Below.refl _ _ | with_reducible refine below_al ?_ _ | with_reducible refine below_st ?_ (by first | exact Nat.le_refl _ | exact Nat.le_add_right _ _ | (simp; omega)) _))) hb1; clear hb1) | (go_at_call 171; refine (rmt_any _ _).mono ?_; rintro e w1 ⟨rfl, hb1⟩; obtain ⟨hc1, hf1⟩ := bcell hb1; have hz1 := hb1.size; (try simp only [World.size_alloc, World.size_setCell] at hz1); (try have hza : w.heap.size < w1.heap.size := by omega); (try have hzb : w.heap.size + 1 < w1.heap.size := by omega); (try have hzc : w.heap.size + 1 + 1 < w1.heap.size := by omega); (try have hzd : wa.heap.size < w1.heap.size := by omega); (try replace hR := (hb1.block w.heap.size (by first | exact lt_heap hR | (have := lt_heap hR; simp; omega))).trans (by first | with_reducible exact hR | with_reducible exact laid_old hR)); replace hB := below_on (w := w) ((by repeat (first | with_reducible exact hB | with_reducible exact Below.refl _ _ | with_reducible refine below_al ?_ _ | with_reducible refine below_st ?_ (by first | exact Nat.le_refl _ | exact Nat.le_add_right _ _ | (simp; omega)) _))) hb1; clear hb1))
 all_goals go_ret
 ·
  exact ⟨by rw [bx7]; rfl, (by repeat (first | with_reducible exact hB | with_reducible exact Below.refl _ _ | with_reducible refine below_al ?_ _ | with_reducible refine below_st ?_ (by first | exact Nat.le_refl _ | exact Nat.le_add_right _ _ | (simp; omega)) _))⟩
 ·
  exact ⟨by rw [bx7, bneF (by assumption : (tgE L a 1 != 0) = false)]; rfl, (by repeat (first | with_reducible exact hB | with_reducible exact Below.refl _ _ | with_reducible refine below_al ?_ _ | with_reducible refine below_st ?_ (by first | exact Nat.le_refl _ | exact Nat.le_add_right _ _ | (simp; omega)) _))⟩
set_option maxHeartbeats 1000000 in
theorem bth_8 {w0 : World} {A : Option Addr} {n c : Nat} {L : List Cn} (s : ByteArray) (m a b : Int) (hn : L.length = n) (hN : n ≤ 100000) (hp : Pool w0 w0.heap.size A L) (w : World) (hb : Below w0.heap.size w0 w) :
  Calls Tryz.prog 157 #[.slice A n c, .agg #[.int .i64 8, .string s, .int .i64 m, .int .i64 a, .int .i64 b]] w fun e w' => e = .returned (.int .i64 (bxE L 8 a b)) ∧ Below w.heap.size w w' := by
 have HP := Lib.hid (hp.up hb)
 have HN := Lib.hid hn
 clear hp hb hn
 have hB : Below w.heap.size w w := Below.refl _ _
 go_enter Tryz.func157, Tryz.ntmps157
 go_wp2_with (first | (go_at_call 172; refine (rrf_any _ _ HN.out hN HP.out _ (by repeat (first | with_reducible exact hB | with_reducible exact Below.refl _ _ | with_reducible refine below_al ?_ _ | with_reducible refine below_st ?_ (by first | exact Nat.le_refl _ | exact Nat.le_add_right _ _ | (simp; omega)) _))).mono ?_; rintro e w1 ⟨rfl, hb1⟩; obtain ⟨hc1, hf1⟩ := bcell hb1; have hz1 := hb1.size; (try simp only [World.size_alloc, World.size_setCell] at hz1); (try have hza : w.heap.size < w1.heap.size := by omega); (try have hzb : w.heap.size + 1 < w1.heap.size := by omega); (try have hzc : w.heap.size + 1 + 1 < w1.heap.size := by omega); (try have hzd : wa.heap.size < w1.heap.size := by omega); (try replace hR := (hb1.block w.heap.size (by first | exact lt_heap hR | (have := lt_heap hR; simp; omega))).trans (by first | with_reducible exact hR | with_reducible exact laid_old hR)); replace hB := below_on (w := w) ((by repeat (first | with_reducible exact hB | with_reducible exact Below.refl _ _ | with_reducible refine below_al ?_ _ | with_reducible refine below_st ?_ (by first | exact Nat.le_refl _ | exact Nat.le_add_right _ _ | (simp; omega)) _))) hb1; clear hb1) | (go_at_call 171; refine (rmt_any _ _).mono ?_; rintro e w1 ⟨rfl, hb1⟩; obtain ⟨hc1, hf1⟩ := bcell hb1; have hz1 := hb1.size; (try simp only [World.size_alloc, World.size_setCell] at hz1); (try have hza : w.heap.size < w1.heap.size := by omega); (try have hzb : w.heap.size + 1 < w1.heap.size := by omega); (try have hzc : w.heap.size + 1 + 1 < w1.heap.size := by omega); (try have hzd : wa.heap.size < w1.heap.size := by omega); (try replace hR := (hb1.block w.heap.size (by first | exact lt_heap hR | (have := lt_heap hR; simp; omega))).trans (by first | with_reducible exact hR | with_reducible exact laid_old hR)); replace hB := below_on (w := w) ((by repeat (first | with_reducible exact hB | with_reducible exact Below.refl _ _ | with_reducible refine below_al ?_ _ | with_reducible refine below_st ?_ (by first | exact Nat.le_refl _ | exact Nat.le_add_right _ _ | (simp; omega)) _))) hb1; clear hb1))
 all_goals go_ret
 ·
  exact ⟨by rw [bx8]; rfl, (by repeat (first | with_reducible exact hB | with_reducible exact Below.refl _ _ | with_reducible refine below_al ?_ _ | with_reducible refine below_st ?_ (by first | exact Nat.le_refl _ | exact Nat.le_add_right _ _ | (simp; omega)) _))⟩
 ·
  exact ⟨by rw [bx8, bneF (by assumption : (tgE L a 1 != 0) = false)]; rfl, (by repeat (first | with_reducible exact hB | with_reducible exact Below.refl _ _ | with_reducible refine below_al ?_ _ | with_reducible refine below_st ?_ (by first | exact Nat.le_refl _ | exact Nat.le_add_right _ _ | (simp; omega)) _))⟩
set_option maxHeartbeats 1000000 in
theorem bth_12 {w0 : World} {A : Option Addr} {n c : Nat} {L : List Cn} (s : ByteArray) (m a b : Int) (hn : L.length = n) (hN : n ≤ 100000) (hp : Pool w0 w0.heap.size A L) (w : World) (hb : Below w0.heap.size w0 w) :
  Calls Tryz.prog 157 #[.slice A n c, .agg #[.int .i64 12, .string s, .int .i64 m, .int .i64 a, .int .i64 b]] w fun e w' => e = .returned (.int .i64 (bxE L 12 a b)) ∧ Below w.heap.size w w' := by
 have HP := Lib.hid (hp.up hb)
 have HN := Lib.hid hn
 clear hp hb hn
 have hB : Below w.heap.size w w := Below.refl _ _
 go_enter Tryz.func157, Tryz.ntmps157
 go_wp2_with (first | (go_at_call 172; refine (rrf_any _ _ HN.out hN HP.out _ (by repeat (first | with_reducible exact hB | with_reducible exact Below.refl _ _ | with_reducible refine below_al ?_ _ | with_reducible refine below_st ?_ (by first | exact Nat.le_refl _ | exact Nat.le_add_right _ _ | (simp; omega)) _))).mono ?_; rintro e w1 ⟨rfl, hb1⟩; obtain ⟨hc1, hf1⟩ := bcell hb1; have hz1 := hb1.size; (try simp only [World.size_alloc, World.size_setCell] at hz1); (try have hza : w.heap.size < w1.heap.size := by omega); (try have hzb : w.heap.size + 1 < w1.heap.size := by omega); (try have hzc : w.heap.size + 1 + 1 < w1.heap.size := by omega); (try have hzd : wa.heap.size < w1.heap.size := by omega); (try replace hR := (hb1.block w.heap.size (by first | exact lt_heap hR | (have := lt_heap hR; simp; omega))).trans (by first | with_reducible exact hR | with_reducible exact laid_old hR)); replace hB := below_on (w := w) ((by repeat (first | with_reducible exact hB | with_reducible exact Below.refl _ _ | with_reducible refine below_al ?_ _ | with_reducible refine below_st ?_ (by first | exact Nat.le_refl _ | exact Nat.le_add_right _ _ | (simp; omega)) _))) hb1; clear hb1) | (go_at_call 171; refine (rmt_any _ _).mono ?_; rintro e w1 ⟨rfl, hb1⟩; obtain ⟨hc1, hf1⟩ := bcell hb1; have hz1 := hb1.size; (try simp only [World.size_alloc, World.size_setCell] at hz1); (try have hza : w.heap.size < w1.heap.size := by omega); (try have hzb : w.heap.size + 1 < w1.heap.size := by omega); (try have hzc : w.heap.size + 1 + 1 < w1.heap.size := by omega); (try have hzd : wa.heap.size < w1.heap.size := by omega); (try replace hR := (hb1.block w.heap.size (by first | exact lt_heap hR | (have := lt_heap hR; simp; omega))).trans (by first | with_reducible exact hR | with_reducible exact laid_old hR)); replace hB := below_on (w := w) ((by repeat (first | with_reducible exact hB | with_reducible exact Below.refl _ _ | with_reducible refine below_al ?_ _ | with_reducible refine below_st ?_ (by first | exact Nat.le_refl _ | exact Nat.le_add_right _ _ | (simp; omega)) _))) hb1; clear hb1))
 all_goals go_ret
 ·
  exact ⟨by rw [bx12_1 (bneT (by with_reducible assumption))]; rfl, (by repeat (first | with_reducible exact hB | with_reducible exact Below.refl _ _ | with_reducible refine below_al ?_ _ | with_reducible refine below_st ?_ (by first | exact Nat.le_refl _ | exact Nat.le_add_right _ _ | (simp; omega)) _))⟩
 ·
  exact ⟨by rw [bx12_2 (bneF (by with_reducible assumption))]; rfl, (by repeat (first | with_reducible exact hB | with_reducible exact Below.refl _ _ | with_reducible refine below_al ?_ _ | with_reducible refine below_st ?_ (by first | exact Nat.le_refl _ | exact Nat.le_add_right _ _ | (simp; omega)) _))⟩
set_option maxHeartbeats 1000000 in
theorem bth_9 {w0 : World} {A : Option Addr} {n c : Nat} {L : List Cn} (s : ByteArray) (m a b : Int) (hn : L.length = n) (hN : n ≤ 100000) (hp : Pool w0 w0.heap.size A L) (w : World) (hb : Below w0.heap.size w0 w) :
  Calls Tryz.prog 157 #[.slice A n c, .agg #[.int .i64 9, .string s, .int .i64 m, .int .i64 a, .int .i64 b]] w fun e w' => e = .returned (.int .i64 (bxE L 9 a b)) ∧ Below w.heap.size w w' := by
 have HP := Lib.hid (hp.up hb)
 have HN := Lib.hid hn
 clear hp hb hn
 have hB : Below w.heap.size w w := Below.refl _ _
 go_enter Tryz.func157, Tryz.ntmps157
 go_wp2_with (first | (go_at_call 172; refine (rrf_any _ _ HN.out hN HP.out _ (by repeat (first | with_reducible exact hB | with_reducible exact Below.refl _ _ | with_reducible refine below_al ?_ _ | with_reducible refine below_st ?_ (by first | exact Nat.le_refl _ | exact Nat.le_add_right _ _ | (simp; omega)) _))).mono ?_; rintro e w1 ⟨rfl, hb1⟩; obtain ⟨hc1, hf1⟩ := bcell hb1; have hz1 := hb1.size; (try simp only [World.size_alloc, World.size_setCell] at hz1); (try have hza : w.heap.size < w1.heap.size := by omega); (try have hzb : w.heap.size + 1 < w1.heap.size := by omega); (try have hzc : w.heap.size + 1 + 1 < w1.heap.size := by omega); (try have hzd : wa.heap.size < w1.heap.size := by omega); (try replace hR := (hb1.block w.heap.size (by first | exact lt_heap hR | (have := lt_heap hR; simp; omega))).trans (by first | with_reducible exact hR | with_reducible exact laid_old hR)); replace hB := below_on (w := w) ((by repeat (first | with_reducible exact hB | with_reducible exact Below.refl _ _ | with_reducible refine below_al ?_ _ | with_reducible refine below_st ?_ (by first | exact Nat.le_refl _ | exact Nat.le_add_right _ _ | (simp; omega)) _))) hb1; clear hb1) | (go_at_call 171; refine (rmt_any _ _).mono ?_; rintro e w1 ⟨rfl, hb1⟩; obtain ⟨hc1, hf1⟩ := bcell hb1; have hz1 := hb1.size; (try simp only [World.size_alloc, World.size_setCell] at hz1); (try have hza : w.heap.size < w1.heap.size := by omega); (try have hzb : w.heap.size + 1 < w1.heap.size := by omega); (try have hzc : w.heap.size + 1 + 1 < w1.heap.size := by omega); (try have hzd : wa.heap.size < w1.heap.size := by omega); (try replace hR := (hb1.block w.heap.size (by first | exact lt_heap hR | (have := lt_heap hR; simp; omega))).trans (by first | with_reducible exact hR | with_reducible exact laid_old hR)); replace hB := below_on (w := w) ((by repeat (first | with_reducible exact hB | with_reducible exact Below.refl _ _ | with_reducible refine below_al ?_ _ | with_reducible refine below_st ?_ (by first | exact Nat.le_refl _ | exact Nat.le_add_right _ _ | (simp; omega)) _))) hb1; clear hb1))
 all_goals go_ret
 ·
  exact ⟨by rw [bxm_1 (by omega) (bneT (by with_reducible assumption))]; rfl, (by repeat (first | with_reducible exact hB | with_reducible exact Below.refl _ _ | with_reducible refine below_al ?_ _ | with_reducible refine below_st ?_ (by first | exact Nat.le_refl _ | exact Nat.le_add_right _ _ | (simp; omega)) _))⟩
 ·
  exact ⟨by rw [bxm_2 (by omega) (bneF (by with_reducible assumption))]; rfl, (by repeat (first | with_reducible exact hB | with_reducible exact Below.refl _ _ | with_reducible refine below_al ?_ _ | with_reducible refine below_st ?_ (by first | exact Nat.le_refl _ | exact Nat.le_add_right _ _ | (simp; omega)) _))⟩
set_option maxHeartbeats 1000000 in
theorem bth_10 {w0 : World} {A : Option Addr} {n c : Nat} {L : List Cn} (s : ByteArray) (m a b : Int) (hn : L.length = n) (hN : n ≤ 100000) (hp : Pool w0 w0.heap.size A L) (w : World) (hb : Below w0.heap.size w0 w) :
  Calls Tryz.prog 157 #[.slice A n c, .agg #[.int .i64 10, .string s, .int .i64 m, .int .i64 a, .int .i64 b]] w fun e w' => e = .returned (.int .i64 (bxE L 10 a b)) ∧ Below w.heap.size w w' := by
 have HP := Lib.hid (hp.up hb)
 have HN := Lib.hid hn
 clear hp hb hn
 have hB : Below w.heap.size w w := Below.refl _ _
 go_enter Tryz.func157, Tryz.ntmps157
 go_wp2_with (first | (go_at_call 172; refine (rrf_any _ _ HN.out hN HP.out _ (by repeat (first | with_reducible exact hB | with_reducible exact Below.refl _ _ | with_reducible refine below_al ?_ _ | with_reducible refine below_st ?_ (by first | exact Nat.le_refl _ | exact Nat.le_add_right _ _ | (simp; omega)) _))).mono ?_; rintro e w1 ⟨rfl, hb1⟩; obtain ⟨hc1, hf1⟩ := bcell hb1; have hz1 := hb1.size; (try simp only [World.size_alloc, World.size_setCell] at hz1); (try have hza : w.heap.size < w1.heap.size := by omega); (try have hzb : w.heap.size + 1 < w1.heap.size := by omega); (try have hzc : w.heap.size + 1 + 1 < w1.heap.size := by omega); (try have hzd : wa.heap.size < w1.heap.size := by omega); (try replace hR := (hb1.block w.heap.size (by first | exact lt_heap hR | (have := lt_heap hR; simp; omega))).trans (by first | with_reducible exact hR | with_reducible exact laid_old hR)); replace hB := below_on (w := w) ((by repeat (first | with_reducible exact hB | with_reducible exact Below.refl _ _ | with_reducible refine below_al ?_ _ | with_reducible refine below_st ?_ (by first | exact Nat.le_refl _ | exact Nat.le_add_right _ _ | (simp; omega)) _))) hb1; clear hb1) | (go_at_call 171; refine (rmt_any _ _).mono ?_; rintro e w1 ⟨rfl, hb1⟩; obtain ⟨hc1, hf1⟩ := bcell hb1; have hz1 := hb1.size; (try simp only [World.size_alloc, World.size_setCell] at hz1); (try have hza : w.heap.size < w1.heap.size := by omega); (try have hzb : w.heap.size + 1 < w1.heap.size := by omega); (try have hzc : w.heap.size + 1 + 1 < w1.heap.size := by omega); (try have hzd : wa.heap.size < w1.heap.size := by omega); (try replace hR := (hb1.block w.heap.size (by first | exact lt_heap hR | (have := lt_heap hR; simp; omega))).trans (by first | with_reducible exact hR | with_reducible exact laid_old hR)); replace hB := below_on (w := w) ((by repeat (first | with_reducible exact hB | with_reducible exact Below.refl _ _ | with_reducible refine below_al ?_ _ | with_reducible refine below_st ?_ (by first | exact Nat.le_refl _ | exact Nat.le_add_right _ _ | (simp; omega)) _))) hb1; clear hb1))
 all_goals go_ret
 ·
  exact ⟨by rw [bxm_1 (by omega) (bneT (by with_reducible assumption))]; rfl, (by repeat (first | with_reducible exact hB | with_reducible exact Below.refl _ _ | with_reducible refine below_al ?_ _ | with_reducible refine below_st ?_ (by first | exact Nat.le_refl _ | exact Nat.le_add_right _ _ | (simp; omega)) _))⟩
 ·
  exact ⟨by rw [bxm_2 (by omega) (bneF (by with_reducible assumption))]; rfl, (by repeat (first | with_reducible exact hB | with_reducible exact Below.refl _ _ | with_reducible refine below_al ?_ _ | with_reducible refine below_st ?_ (by first | exact Nat.le_refl _ | exact Nat.le_add_right _ _ | (simp; omega)) _))⟩
set_option maxHeartbeats 1000000 in
theorem bth_11 {w0 : World} {A : Option Addr} {n c : Nat} {L : List Cn} (s : ByteArray) (m a b : Int) (hn : L.length = n) (hN : n ≤ 100000) (hp : Pool w0 w0.heap.size A L) (w : World) (hb : Below w0.heap.size w0 w) :
  Calls Tryz.prog 157 #[.slice A n c, .agg #[.int .i64 11, .string s, .int .i64 m, .int .i64 a, .int .i64 b]] w fun e w' => e = .returned (.int .i64 (bxE L 11 a b)) ∧ Below w.heap.size w w' := by
 have HP := Lib.hid (hp.up hb)
 have HN := Lib.hid hn
 clear hp hb hn
 have hB : Below w.heap.size w w := Below.refl _ _
 go_enter Tryz.func157, Tryz.ntmps157
 go_wp2_with (first | (go_at_call 172; refine (rrf_any _ _ HN.out hN HP.out _ (by repeat (first | with_reducible exact hB | with_reducible exact Below.refl _ _ | with_reducible refine below_al ?_ _ | with_reducible refine below_st ?_ (by first | exact Nat.le_refl _ | exact Nat.le_add_right _ _ | (simp; omega)) _))).mono ?_; rintro e w1 ⟨rfl, hb1⟩; obtain ⟨hc1, hf1⟩ := bcell hb1; have hz1 := hb1.size; (try simp only [World.size_alloc, World.size_setCell] at hz1); (try have hza : w.heap.size < w1.heap.size := by omega); (try have hzb : w.heap.size + 1 < w1.heap.size := by omega); (try have hzc : w.heap.size + 1 + 1 < w1.heap.size := by omega); (try have hzd : wa.heap.size < w1.heap.size := by omega); (try replace hR := (hb1.block w.heap.size (by first | exact lt_heap hR | (have := lt_heap hR; simp; omega))).trans (by first | with_reducible exact hR | with_reducible exact laid_old hR)); replace hB := below_on (w := w) ((by repeat (first | with_reducible exact hB | with_reducible exact Below.refl _ _ | with_reducible refine below_al ?_ _ | with_reducible refine below_st ?_ (by first | exact Nat.le_refl _ | exact Nat.le_add_right _ _ | (simp; omega)) _))) hb1; clear hb1) | (go_at_call 171; refine (rmt_any _ _).mono ?_; rintro e w1 ⟨rfl, hb1⟩; obtain ⟨hc1, hf1⟩ := bcell hb1; have hz1 := hb1.size; (try simp only [World.size_alloc, World.size_setCell] at hz1); (try have hza : w.heap.size < w1.heap.size := by omega); (try have hzb : w.heap.size + 1 < w1.heap.size := by omega); (try have hzc : w.heap.size + 1 + 1 < w1.heap.size := by omega); (try have hzd : wa.heap.size < w1.heap.size := by omega); (try replace hR := (hb1.block w.heap.size (by first | exact lt_heap hR | (have := lt_heap hR; simp; omega))).trans (by first | with_reducible exact hR | with_reducible exact laid_old hR)); replace hB := below_on (w := w) ((by repeat (first | with_reducible exact hB | with_reducible exact Below.refl _ _ | with_reducible refine below_al ?_ _ | with_reducible refine below_st ?_ (by first | exact Nat.le_refl _ | exact Nat.le_add_right _ _ | (simp; omega)) _))) hb1; clear hb1))
 all_goals go_ret
 ·
  exact ⟨by rw [bxm_1 (by omega) (bneT (by with_reducible assumption))]; rfl, (by repeat (first | with_reducible exact hB | with_reducible exact Below.refl _ _ | with_reducible refine below_al ?_ _ | with_reducible refine below_st ?_ (by first | exact Nat.le_refl _ | exact Nat.le_add_right _ _ | (simp; omega)) _))⟩
 ·
  exact ⟨by rw [bxm_2 (by omega) (bneF (by with_reducible assumption))]; rfl, (by repeat (first | with_reducible exact hB | with_reducible exact Below.refl _ _ | with_reducible refine below_al ?_ _ | with_reducible refine below_st ?_ (by first | exact Nat.le_refl _ | exact Nat.le_add_right _ _ | (simp; omega)) _))⟩
def knB (t : Int) : Bool := t == 1 || t == 3 || t == 5 || t == 7 || t == 8 || t == 12 || mtB t
theorem known_any (t : Int) (w : World) : Calls Tryz.prog 155 #[.int .i64 t] w fun e w' => e = .returned (.bool (knB t)) ∧ Below w.heap.size w w' := by
 have hB : Below w.heap.size w w := Below.refl _ _
 go_enter Tryz.func155, Tryz.ntmps155
 go_wp2_with (go_at_call 171; refine (rmt_any _ _).mono ?_; rintro e w1 ⟨rfl, hb1⟩; obtain ⟨hc1, hf1⟩ := bcell hb1; have hz1 := hb1.size; (try simp only [World.size_alloc, World.size_setCell] at hz1); (try have hza : w.heap.size < w1.heap.size := by omega); (try have hzb : w.heap.size + 1 < w1.heap.size := by omega); (try have hzc : w.heap.size + 1 + 1 < w1.heap.size := by omega); (try have hzd : wa.heap.size < w1.heap.size := by omega); (try replace hR := (hb1.block w.heap.size (by first | exact lt_heap hR | (have := lt_heap hR; simp; omega))).trans (by first | with_reducible exact hR | with_reducible exact laid_old hR)); replace hB := below_on (w := w) ((by repeat (first | with_reducible exact hB | with_reducible exact Below.refl _ _ | with_reducible refine below_al ?_ _ | with_reducible refine below_st ?_ (by first | exact Nat.le_refl _ | exact Nat.le_add_right _ _ | (simp; omega)) _))) hb1; clear hb1)
 all_goals go_ret
 all_goals exact ⟨ret_bool (by simp_all [knB]), (by repeat (first | with_reducible exact hB | with_reducible exact Below.refl _ _ | with_reducible refine below_al ?_ _ | with_reducible refine below_st ?_ (by first | exact Nat.le_refl _ | exact Nat.le_add_right _ _ | (simp; omega)) _))⟩
def fmB (t : Int) (s : ByteArray) (m a b : Int) : Bool :=
 (t == 1 || s.toList == []) && ((t == 3 || t == 5 || m == 0) && ((t == 7 || t == 8 || t == 12 || mtB t || a == 0) && (t == 12 || mtB t || b == 0)))
theorem formed_any (t : Int) (s : ByteArray) (m a b : Int) (w : World) : Calls Tryz.prog 156 #[.agg #[.int .i64 t, .string s, .int .i64 m, .int .i64 a, .int .i64 b]] w fun e w' => e = .returned (.bool (fmB t s m a b)) ∧ Below w.heap.size w w' := by
 have hB : Below w.heap.size w w := Below.refl _ _
 go_enter Tryz.func156, Tryz.ntmps156
 go_wp2_with (go_at_call 171; refine (rmt_any _ _).mono ?_; rintro e w1 ⟨rfl, hb1⟩; obtain ⟨hc1, hf1⟩ := bcell hb1; have hz1 := hb1.size; (try simp only [World.size_alloc, World.size_setCell] at hz1); (try have hza : w.heap.size < w1.heap.size := by omega); (try have hzb : w.heap.size + 1 < w1.heap.size := by omega); (try have hzc : w.heap.size + 1 + 1 < w1.heap.size := by omega); (try have hzd : wa.heap.size < w1.heap.size := by omega); (try replace hR := (hb1.block w.heap.size (by first | exact lt_heap hR | (have := lt_heap hR; simp; omega))).trans (by first | with_reducible exact hR | with_reducible exact laid_old hR)); replace hB := below_on (w := w) ((by repeat (first | with_reducible exact hB | with_reducible exact Below.refl _ _ | with_reducible refine below_al ?_ _ | with_reducible refine below_st ?_ (by first | exact Nat.le_refl _ | exact Nat.le_add_right _ _ | (simp; omega)) _))) hb1; clear hb1)
 all_goals go_ret
 all_goals exact ⟨ret_bool (by simp_all [fmB]), (by repeat (first | with_reducible exact hB | with_reducible exact Below.refl _ _ | with_reducible refine below_al ?_ _ | with_reducible refine below_st ?_ (by first | exact Nat.le_refl _ | exact Nat.le_add_right _ _ | (simp; omega)) _))⟩
end Go.Proofs.YtalejaklggnnpaaGreatDoor
/- PoolCk -/
/- Layer 5: checkConst, in the package and in its reference. -/
namespace Go.Proofs.YtalejaklggnnpaaGreatDoor
open Go.ChangeShapes Go.WideShapes Go.ChangeAt Go.RowKit Go.PlainAid
set_option linter.unusedSimpArgs false
set_option linter.unusedVariables false
def ckE (L : List Cn) (t : Int) (s : ByteArray) (m a b : Int) : Int :=
 if knB t = true then
  if fmB t s m a b = true then
   if t = 1 then (if 1024 < s.size then 8 else 0)
   else if t = 3 then (if -2147483648 ≤ m ∧ m ≤ 2147483647 then 0 else 8)
   else if t = 5 then 0
   else ixE L t a b
  else 4
 else 11
theorem ck_un {L : List Cn} {t m a b : Int} {s : ByteArray} (h : knB t = false) : ckE L t s m a b = 11 := by unfold ckE; rw [h]; rfl
theorem ck_mal {L : List Cn} {t m a b : Int} {s : ByteArray} (hk : knB t = true) (h : fmB t s m a b = false) : ckE L t s m a b = 4 := by unfold ckE; rw [hk, h]; rfl
theorem ck1_8 {L : List Cn} {m a b : Int} {s : ByteArray} (h : fmB 1 s m a b = true) (h1 : 1024 < s.size) : ckE L 1 s m a b = 8 := by unfold ckE; rw [h, show knB 1 = true from rfl, if_pos rfl, if_pos rfl, if_pos rfl, if_pos h1]
theorem ck1_0 {L : List Cn} {m a b : Int} {s : ByteArray} (h : fmB 1 s m a b = true) (h1 : ¬ 1024 < s.size) : ckE L 1 s m a b = 0 := by unfold ckE; rw [h, show knB 1 = true from rfl, if_pos rfl, if_pos rfl, if_pos rfl, if_neg h1]
theorem ck3_0 {L : List Cn} {m a b : Int} {s : ByteArray} (h : fmB 3 s m a b = true) (h1 : -2147483648 ≤ m ∧ m ≤ 2147483647) : ckE L 3 s m a b = 0 := by unfold ckE; rw [h, show knB 3 = true from rfl, if_pos rfl, if_pos rfl, if_neg (by decide), if_pos rfl, if_pos h1]
theorem ck3_8 {L : List Cn} {m a b : Int} {s : ByteArray} (h : fmB 3 s m a b = true) (h1 : ¬ (-2147483648 ≤ m ∧ m ≤ 2147483647)) : ckE L 3 s m a b = 8 := by unfold ckE; rw [h, show knB 3 = true from rfl, if_pos rfl, if_pos rfl, if_neg (by decide), if_pos rfl, if_neg h1]
theorem ck1 {L : List Cn} {m a b : Int} {s : ByteArray} (h : fmB 1 s m a b = true) : ckE L 1 s m a b = tli (decide ((1024 : Int) < s.size)) := by
 by_cases h1 : 1024 < s.size
 ·
  rw [ck1_8 h h1, decide_eq_true (by omega)]; rfl
 ·
  rw [ck1_0 h h1, decide_eq_false (by omega)]; rfl
theorem wr_in {m : Int} (h1 : -2147483648 ≤ m ∧ m ≤ 2147483647) : (m != wrap64 (wrap32 m)) = false := by
 have : wrap64 (wrap32 m) = m := by unfold wrap64 wrap32; omega
 rw [this]; simp
theorem wr_out {m : Int} (h1 : ¬ (-2147483648 ≤ m ∧ m ≤ 2147483647)) : (m != wrap64 (wrap32 m)) = true := by
 have : ¬ m = wrap64 (wrap32 m) := by unfold wrap64 wrap32; omega
 simpa using this
theorem ck3 {L : List Cn} {m a b : Int} {s : ByteArray} (h : fmB 3 s m a b = true) : ckE L 3 s m a b = tli (m != wrap64 (wrap32 m)) := by
 by_cases h1 : -2147483648 ≤ m ∧ m ≤ 2147483647
 ·
  rw [ck3_0 h h1, wr_in h1]; rfl
 ·
  rw [ck3_8 h h1, wr_out h1]; rfl
theorem ck5_0 {L : List Cn} {m a b : Int} {s : ByteArray} (h : fmB 5 s m a b = true) : ckE L 5 s m a b = 0 := by unfold ckE; rw [h, show knB 5 = true from rfl, if_pos rfl, if_pos rfl, if_neg (by decide), if_neg (by decide), if_pos rfl]
theorem ck_ix {L : List Cn} {t m a b : Int} {s : ByteArray} (ht : 7 ≤ t) (hk : knB t = true) (h : fmB t s m a b = true) : ckE L t s m a b = ixE L t a b := by unfold ckE; rw [h, hk, if_pos rfl, if_pos rfl, if_neg (by omega), if_neg (by omega), if_neg (by omega)]
theorem s_nil {s : ByteArray} : (s = ⟨#[]⟩) ↔ s.toList = [] := by
 constructor
 ·
  rintro rfl; simp [ByteArray.toList_eq]
 ·
  intro h; exact toList_iff.1 (h.trans (by simp [ByteArray.toList_eq]))
theorem kn_cases {t : Int} (h : knB t = true) : t = 1 ∨ t = 3 ∨ t = 5 ∨ t = 7 ∨ t = 8 ∨ t = 12 ∨ t = 9 ∨ t = 10 ∨ t = 11 := by
 simp [knB, mtB] at h; omega
set_option maxRecDepth 100000 in
set_option maxHeartbeats 1000000 in
theorem ckc_1 {w0 : World} {A : Option Addr} {n c : Nat} {L : List Cn} (s : ByteArray) (m a b : Int) (hS : Fits L) (hn : L.length = n) (hN : n ≤ 100000) (hp : Pool w0 w0.heap.size A L) (w : World) (hb : Below w0.heap.size w0 w) :
  Calls Tryz.prog 100 #[.slice A n c, .agg #[.int .i64 1, .string s, .int .i64 m, .int .i64 a, .int .i64 b]] w fun e w' => e = .returned (.int .i64 (ckE L 1 s m a b)) ∧ Below w.heap.size w w' := by
 have HP := Lib.hid (hp.up hb)
 have HN := Lib.hid hn
 clear hp hb hn
 have hB : Below w.heap.size w w := Below.refl _ _
 have e0 : cnQ ⟨0, ⟨#[]⟩, m, a, b⟩ cnZ = fmB 1 s m a b := by cases hs : s.toList <;> simp [cnQ, fmB, cnZ, s_nil, mtB, hs]
 have e1 : ∀ w, (binOp .neq 155 (.agg #[.int .i64 0, .string ⟨#[]⟩, .int .i64 m, .int .i64 a, .int .i64 b]) (.agg #[.int .i64 0, .string ⟨#[]⟩, .int .i64 0, .int .i64 0, .int .i64 0])).run Tryz.prog w = .ok (.bool (!fmB 1 s m a b)) w := fun w => by rw [← e0]; exact cn_neq ⟨0, ⟨#[]⟩, m, a, b⟩ cnZ w
 clear e0
 cases hf : fmB 1 s m a b
 all_goals
  rw [hf] at e1
  go_enter Tryz.func100, Tryz.ntmps100
  go_wp2_with (first | (go_at_call 141; refine (tli_any _ _).mono ?_; rintro e w1 ⟨rfl, hb1⟩; obtain ⟨hc1, hf1⟩ := bcell hb1; have hz1 := hb1.size; (try simp only [World.size_alloc, World.size_setCell] at hz1); (try have hza : w.heap.size < w1.heap.size := by omega); (try have hzb : w.heap.size + 1 < w1.heap.size := by omega); (try have hzc : w.heap.size + 1 + 1 < w1.heap.size := by omega); (try have hzd : wa.heap.size < w1.heap.size := by omega); (try replace hR := (hb1.block w.heap.size (by first | exact lt_heap hR | (have := lt_heap hR; simp; omega))).trans (by first | with_reducible exact hR | with_reducible exact laid_old hR)); replace hB := below_on (w := w) ((by repeat (first | with_reducible exact hB | with_reducible exact Below.refl _ _ | with_reducible refine below_al ?_ _ | with_reducible refine below_st ?_ (by first | exact Nat.le_refl _ | exact Nat.le_add_right _ _ | (simp; omega)) _))) hb1; clear hb1))
  all_goals go_ret
 ·
  exact ⟨by rw [ck_mal rfl hf]; rfl, (by repeat (first | with_reducible exact hB | with_reducible exact Below.refl _ _ | with_reducible refine below_al ?_ _ | with_reducible refine below_st ?_ (by first | exact Nat.le_refl _ | exact Nat.le_add_right _ _ | (simp; omega)) _))⟩
 ·
  exact ⟨by rw [ck1 hf]; rfl, (by repeat (first | with_reducible exact hB | with_reducible exact Below.refl _ _ | with_reducible refine below_al ?_ _ | with_reducible refine below_st ?_ (by first | exact Nat.le_refl _ | exact Nat.le_add_right _ _ | (simp; omega)) _))⟩
set_option maxRecDepth 100000 in
set_option maxHeartbeats 1000000 in
theorem ckc_3 {w0 : World} {A : Option Addr} {n c : Nat} {L : List Cn} (s : ByteArray) (m a b : Int) (hS : Fits L) (hn : L.length = n) (hN : n ≤ 100000) (hp : Pool w0 w0.heap.size A L) (w : World) (hb : Below w0.heap.size w0 w) :
  Calls Tryz.prog 100 #[.slice A n c, .agg #[.int .i64 3, .string s, .int .i64 m, .int .i64 a, .int .i64 b]] w fun e w' => e = .returned (.int .i64 (ckE L 3 s m a b)) ∧ Below w.heap.size w w' := by
 have HP := Lib.hid (hp.up hb)
 have HN := Lib.hid hn
 clear hp hb hn
 have hB : Below w.heap.size w w := Below.refl _ _
 have e0 : cnQ ⟨0, s, 0, a, b⟩ cnZ = fmB 3 s m a b := by cases hs : s.toList <;> simp [cnQ, fmB, cnZ, s_nil, mtB, hs]
 have e1 : ∀ w, (binOp .neq 155 (.agg #[.int .i64 0, .string s, .int .i64 0, .int .i64 a, .int .i64 b]) (.agg #[.int .i64 0, .string ⟨#[]⟩, .int .i64 0, .int .i64 0, .int .i64 0])).run Tryz.prog w = .ok (.bool (!fmB 3 s m a b)) w := fun w => by rw [← e0]; exact cn_neq ⟨0, s, 0, a, b⟩ cnZ w
 clear e0
 cases hf : fmB 3 s m a b
 all_goals
  rw [hf] at e1
  go_enter Tryz.func100, Tryz.ntmps100
  go_wp2_with (first | (go_at_call 141; refine (tli_any _ _).mono ?_; rintro e w1 ⟨rfl, hb1⟩; obtain ⟨hc1, hf1⟩ := bcell hb1; have hz1 := hb1.size; (try simp only [World.size_alloc, World.size_setCell] at hz1); (try have hza : w.heap.size < w1.heap.size := by omega); (try have hzb : w.heap.size + 1 < w1.heap.size := by omega); (try have hzc : w.heap.size + 1 + 1 < w1.heap.size := by omega); (try have hzd : wa.heap.size < w1.heap.size := by omega); (try replace hR := (hb1.block w.heap.size (by first | exact lt_heap hR | (have := lt_heap hR; simp; omega))).trans (by first | with_reducible exact hR | with_reducible exact laid_old hR)); replace hB := below_on (w := w) ((by repeat (first | with_reducible exact hB | with_reducible exact Below.refl _ _ | with_reducible refine below_al ?_ _ | with_reducible refine below_st ?_ (by first | exact Nat.le_refl _ | exact Nat.le_add_right _ _ | (simp; omega)) _))) hb1; clear hb1))
  all_goals go_ret
 ·
  exact ⟨by rw [ck_mal rfl hf]; rfl, (by repeat (first | with_reducible exact hB | with_reducible exact Below.refl _ _ | with_reducible refine below_al ?_ _ | with_reducible refine below_st ?_ (by first | exact Nat.le_refl _ | exact Nat.le_add_right _ _ | (simp; omega)) _))⟩
 ·
  exact ⟨by rw [ck3 hf]; rfl, (by repeat (first | with_reducible exact hB | with_reducible exact Below.refl _ _ | with_reducible refine below_al ?_ _ | with_reducible refine below_st ?_ (by first | exact Nat.le_refl _ | exact Nat.le_add_right _ _ | (simp; omega)) _))⟩
set_option maxRecDepth 100000 in
set_option maxHeartbeats 1000000 in
theorem ckc_5 {w0 : World} {A : Option Addr} {n c : Nat} {L : List Cn} (s : ByteArray) (m a b : Int) (hS : Fits L) (hn : L.length = n) (hN : n ≤ 100000) (hp : Pool w0 w0.heap.size A L) (w : World) (hb : Below w0.heap.size w0 w) :
  Calls Tryz.prog 100 #[.slice A n c, .agg #[.int .i64 5, .string s, .int .i64 m, .int .i64 a, .int .i64 b]] w fun e w' => e = .returned (.int .i64 (ckE L 5 s m a b)) ∧ Below w.heap.size w w' := by
 have HP := Lib.hid (hp.up hb)
 have HN := Lib.hid hn
 clear hp hb hn
 have hB : Below w.heap.size w w := Below.refl _ _
 have e0 : cnQ ⟨0, s, 0, a, b⟩ cnZ = fmB 5 s m a b := by cases hs : s.toList <;> simp [cnQ, fmB, cnZ, s_nil, mtB, hs]
 have e1 : ∀ w, (binOp .neq 155 (.agg #[.int .i64 0, .string s, .int .i64 0, .int .i64 a, .int .i64 b]) (.agg #[.int .i64 0, .string ⟨#[]⟩, .int .i64 0, .int .i64 0, .int .i64 0])).run Tryz.prog w = .ok (.bool (!fmB 5 s m a b)) w := fun w => by rw [← e0]; exact cn_neq ⟨0, s, 0, a, b⟩ cnZ w
 clear e0
 cases hf : fmB 5 s m a b
 all_goals
  rw [hf] at e1
  go_enter Tryz.func100, Tryz.ntmps100
  go_wp2_with (first | (go_at_call 141; refine (tli_any _ _).mono ?_; rintro e w1 ⟨rfl, hb1⟩; obtain ⟨hc1, hf1⟩ := bcell hb1; have hz1 := hb1.size; (try simp only [World.size_alloc, World.size_setCell] at hz1); (try have hza : w.heap.size < w1.heap.size := by omega); (try have hzb : w.heap.size + 1 < w1.heap.size := by omega); (try have hzc : w.heap.size + 1 + 1 < w1.heap.size := by omega); (try have hzd : wa.heap.size < w1.heap.size := by omega); (try replace hR := (hb1.block w.heap.size (by first | exact lt_heap hR | (have := lt_heap hR; simp; omega))).trans (by first | with_reducible exact hR | with_reducible exact laid_old hR)); replace hB := below_on (w := w) ((by repeat (first | with_reducible exact hB | with_reducible exact Below.refl _ _ | with_reducible refine below_al ?_ _ | with_reducible refine below_st ?_ (by first | exact Nat.le_refl _ | exact Nat.le_add_right _ _ | (simp; omega)) _))) hb1; clear hb1))
  all_goals go_ret
 ·
  exact ⟨by rw [ck_mal rfl hf]; rfl, (by repeat (first | with_reducible exact hB | with_reducible exact Below.refl _ _ | with_reducible refine below_al ?_ _ | with_reducible refine below_st ?_ (by first | exact Nat.le_refl _ | exact Nat.le_add_right _ _ | (simp; omega)) _))⟩
 ·
  exact ⟨by rw [ck5_0 hf]; rfl, (by repeat (first | with_reducible exact hB | with_reducible exact Below.refl _ _ | with_reducible refine below_al ?_ _ | with_reducible refine below_st ?_ (by first | exact Nat.le_refl _ | exact Nat.le_add_right _ _ | (simp; omega)) _))⟩
set_option maxRecDepth 100000 in
set_option maxHeartbeats 1000000 in
theorem ckc_7 {w0 : World} {A : Option Addr} {n c : Nat} {L : List Cn} (s : ByteArray) (m a b : Int) (hS : Fits L) (hn : L.length = n) (hN : n ≤ 100000) (hp : Pool w0 w0.heap.size A L) (w : World) (hb : Below w0.heap.size w0 w) :
  Calls Tryz.prog 100 #[.slice A n c, .agg #[.int .i64 7, .string s, .int .i64 m, .int .i64 a, .int .i64 b]] w fun e w' => e = .returned (.int .i64 (ckE L 7 s m a b)) ∧ Below w.heap.size w w' := by
 have HP := Lib.hid (hp.up hb)
 have HN := Lib.hid hn
 clear hp hb hn
 have hB : Below w.heap.size w w := Below.refl _ _
 have e0 : cnQ ⟨0, s, m, 0, b⟩ cnZ = fmB 7 s m a b := by cases hs : s.toList <;> simp [cnQ, fmB, cnZ, s_nil, mtB, hs]
 have e1 : ∀ w, (binOp .neq 155 (.agg #[.int .i64 0, .string s, .int .i64 m, .int .i64 0, .int .i64 b]) (.agg #[.int .i64 0, .string ⟨#[]⟩, .int .i64 0, .int .i64 0, .int .i64 0])).run Tryz.prog w = .ok (.bool (!fmB 7 s m a b)) w := fun w => by rw [← e0]; exact cn_neq ⟨0, s, m, 0, b⟩ cnZ w
 clear e0
 cases hf : fmB 7 s m a b
 all_goals
  rw [hf] at e1
  go_enter Tryz.func100, Tryz.ntmps100
  go_wp2_with (first | (go_at_call 141; refine (tli_any _ _).mono ?_; rintro e w1 ⟨rfl, hb1⟩; obtain ⟨hc1, hf1⟩ := bcell hb1; have hz1 := hb1.size; (try simp only [World.size_alloc, World.size_setCell] at hz1); (try have hza : w.heap.size < w1.heap.size := by omega); (try have hzb : w.heap.size + 1 < w1.heap.size := by omega); (try have hzc : w.heap.size + 1 + 1 < w1.heap.size := by omega); (try have hzd : wa.heap.size < w1.heap.size := by omega); (try replace hR := (hb1.block w.heap.size (by first | exact lt_heap hR | (have := lt_heap hR; simp; omega))).trans (by first | with_reducible exact hR | with_reducible exact laid_old hR)); replace hB := below_on (w := w) ((by repeat (first | with_reducible exact hB | with_reducible exact Below.refl _ _ | with_reducible refine below_al ?_ _ | with_reducible refine below_st ?_ (by first | exact Nat.le_refl _ | exact Nat.le_add_right _ _ | (simp; omega)) _))) hb1; clear hb1) | (go_at_call 142; refine (chx_7 _ _ _ _ hS HN.out hN HP.out _ (by repeat (first | with_reducible exact hB | with_reducible exact Below.refl _ _ | with_reducible refine below_al ?_ _ | with_reducible refine below_st ?_ (by first | exact Nat.le_refl _ | exact Nat.le_add_right _ _ | (simp; omega)) _))).mono ?_; rintro e w1 ⟨rfl, hb1⟩; obtain ⟨hc1, hf1⟩ := bcell hb1; have hz1 := hb1.size; (try simp only [World.size_alloc, World.size_setCell] at hz1); (try have hza : w.heap.size < w1.heap.size := by omega); (try have hzb : w.heap.size + 1 < w1.heap.size := by omega); (try have hzc : w.heap.size + 1 + 1 < w1.heap.size := by omega); (try have hzd : wa.heap.size < w1.heap.size := by omega); (try replace hR := (hb1.block w.heap.size (by first | exact lt_heap hR | (have := lt_heap hR; simp; omega))).trans (by first | with_reducible exact hR | with_reducible exact laid_old hR)); replace hB := below_on (w := w) ((by repeat (first | with_reducible exact hB | with_reducible exact Below.refl _ _ | with_reducible refine below_al ?_ _ | with_reducible refine below_st ?_ (by first | exact Nat.le_refl _ | exact Nat.le_add_right _ _ | (simp; omega)) _))) hb1; clear hb1))
  all_goals go_ret
 ·
  exact ⟨by rw [ck_mal rfl hf]; rfl, (by repeat (first | with_reducible exact hB | with_reducible exact Below.refl _ _ | with_reducible refine below_al ?_ _ | with_reducible refine below_st ?_ (by first | exact Nat.le_refl _ | exact Nat.le_add_right _ _ | (simp; omega)) _))⟩
 ·
  exact ⟨by rw [ck_ix (by omega) rfl hf]; rfl, (by repeat (first | with_reducible exact hB | with_reducible exact Below.refl _ _ | with_reducible refine below_al ?_ _ | with_reducible refine below_st ?_ (by first | exact Nat.le_refl _ | exact Nat.le_add_right _ _ | (simp; omega)) _))⟩
set_option maxRecDepth 100000 in
set_option maxHeartbeats 1000000 in
theorem ckc_8 {w0 : World} {A : Option Addr} {n c : Nat} {L : List Cn} (s : ByteArray) (m a b : Int) (hS : Fits L) (hn : L.length = n) (hN : n ≤ 100000) (hp : Pool w0 w0.heap.size A L) (w : World) (hb : Below w0.heap.size w0 w) :
  Calls Tryz.prog 100 #[.slice A n c, .agg #[.int .i64 8, .string s, .int .i64 m, .int .i64 a, .int .i64 b]] w fun e w' => e = .returned (.int .i64 (ckE L 8 s m a b)) ∧ Below w.heap.size w w' := by
 have HP := Lib.hid (hp.up hb)
 have HN := Lib.hid hn
 clear hp hb hn
 have hB : Below w.heap.size w w := Below.refl _ _
 have e0 : cnQ ⟨0, s, m, 0, b⟩ cnZ = fmB 8 s m a b := by cases hs : s.toList <;> simp [cnQ, fmB, cnZ, s_nil, mtB, hs]
 have e1 : ∀ w, (binOp .neq 155 (.agg #[.int .i64 0, .string s, .int .i64 m, .int .i64 0, .int .i64 b]) (.agg #[.int .i64 0, .string ⟨#[]⟩, .int .i64 0, .int .i64 0, .int .i64 0])).run Tryz.prog w = .ok (.bool (!fmB 8 s m a b)) w := fun w => by rw [← e0]; exact cn_neq ⟨0, s, m, 0, b⟩ cnZ w
 clear e0
 cases hf : fmB 8 s m a b
 all_goals
  rw [hf] at e1
  go_enter Tryz.func100, Tryz.ntmps100
  go_wp2_with (first | (go_at_call 141; refine (tli_any _ _).mono ?_; rintro e w1 ⟨rfl, hb1⟩; obtain ⟨hc1, hf1⟩ := bcell hb1; have hz1 := hb1.size; (try simp only [World.size_alloc, World.size_setCell] at hz1); (try have hza : w.heap.size < w1.heap.size := by omega); (try have hzb : w.heap.size + 1 < w1.heap.size := by omega); (try have hzc : w.heap.size + 1 + 1 < w1.heap.size := by omega); (try have hzd : wa.heap.size < w1.heap.size := by omega); (try replace hR := (hb1.block w.heap.size (by first | exact lt_heap hR | (have := lt_heap hR; simp; omega))).trans (by first | with_reducible exact hR | with_reducible exact laid_old hR)); replace hB := below_on (w := w) ((by repeat (first | with_reducible exact hB | with_reducible exact Below.refl _ _ | with_reducible refine below_al ?_ _ | with_reducible refine below_st ?_ (by first | exact Nat.le_refl _ | exact Nat.le_add_right _ _ | (simp; omega)) _))) hb1; clear hb1) | (go_at_call 142; refine (chx_8 _ _ _ _ hS HN.out hN HP.out _ (by repeat (first | with_reducible exact hB | with_reducible exact Below.refl _ _ | with_reducible refine below_al ?_ _ | with_reducible refine below_st ?_ (by first | exact Nat.le_refl _ | exact Nat.le_add_right _ _ | (simp; omega)) _))).mono ?_; rintro e w1 ⟨rfl, hb1⟩; obtain ⟨hc1, hf1⟩ := bcell hb1; have hz1 := hb1.size; (try simp only [World.size_alloc, World.size_setCell] at hz1); (try have hza : w.heap.size < w1.heap.size := by omega); (try have hzb : w.heap.size + 1 < w1.heap.size := by omega); (try have hzc : w.heap.size + 1 + 1 < w1.heap.size := by omega); (try have hzd : wa.heap.size < w1.heap.size := by omega); (try replace hR := (hb1.block w.heap.size (by first | exact lt_heap hR | (have := lt_heap hR; simp; omega))).trans (by first | with_reducible exact hR | with_reducible exact laid_old hR)); replace hB := below_on (w := w) ((by repeat (first | with_reducible exact hB | with_reducible exact Below.refl _ _ | with_reducible refine below_al ?_ _ | with_reducible refine below_st ?_ (by first | exact Nat.le_refl _ | exact Nat.le_add_right _ _ | (simp; omega)) _))) hb1; clear hb1))
  all_goals go_ret
 ·
  exact ⟨by rw [ck_mal rfl hf]; rfl, (by repeat (first | with_reducible exact hB | with_reducible exact Below.refl _ _ | with_reducible refine below_al ?_ _ | with_reducible refine below_st ?_ (by first | exact Nat.le_refl _ | exact Nat.le_add_right _ _ | (simp; omega)) _))⟩
 ·
  exact ⟨by rw [ck_ix (by omega) rfl hf]; rfl, (by repeat (first | with_reducible exact hB | with_reducible exact Below.refl _ _ | with_reducible refine below_al ?_ _ | with_reducible refine below_st ?_ (by first | exact Nat.le_refl _ | exact Nat.le_add_right _ _ | (simp; omega)) _))⟩
set_option maxRecDepth 100000 in
set_option maxHeartbeats 1000000 in
theorem ckc_12 {w0 : World} {A : Option Addr} {n c : Nat} {L : List Cn} (s : ByteArray) (m a b : Int) (hS : Fits L) (hn : L.length = n) (hN : n ≤ 100000) (hp : Pool w0 w0.heap.size A L) (w : World) (hb : Below w0.heap.size w0 w) :
  Calls Tryz.prog 100 #[.slice A n c, .agg #[.int .i64 12, .string s, .int .i64 m, .int .i64 a, .int .i64 b]] w fun e w' => e = .returned (.int .i64 (ckE L 12 s m a b)) ∧ Below w.heap.size w w' := by
 have HP := Lib.hid (hp.up hb)
 have HN := Lib.hid hn
 clear hp hb hn
 have hB : Below w.heap.size w w := Below.refl _ _
 have e0 : cnQ ⟨0, s, m, 0, 0⟩ cnZ = fmB 12 s m a b := by cases hs : s.toList <;> simp [cnQ, fmB, cnZ, s_nil, mtB, hs]
 have e1 : ∀ w, (binOp .neq 155 (.agg #[.int .i64 0, .string s, .int .i64 m, .int .i64 0, .int .i64 0]) (.agg #[.int .i64 0, .string ⟨#[]⟩, .int .i64 0, .int .i64 0, .int .i64 0])).run Tryz.prog w = .ok (.bool (!fmB 12 s m a b)) w := fun w => by rw [← e0]; exact cn_neq ⟨0, s, m, 0, 0⟩ cnZ w
 clear e0
 cases hf : fmB 12 s m a b
 all_goals
  rw [hf] at e1
  go_enter Tryz.func100, Tryz.ntmps100
  go_wp2_with (first | (go_at_call 141; refine (tli_any _ _).mono ?_; rintro e w1 ⟨rfl, hb1⟩; obtain ⟨hc1, hf1⟩ := bcell hb1; have hz1 := hb1.size; (try simp only [World.size_alloc, World.size_setCell] at hz1); (try have hza : w.heap.size < w1.heap.size := by omega); (try have hzb : w.heap.size + 1 < w1.heap.size := by omega); (try have hzc : w.heap.size + 1 + 1 < w1.heap.size := by omega); (try have hzd : wa.heap.size < w1.heap.size := by omega); (try replace hR := (hb1.block w.heap.size (by first | exact lt_heap hR | (have := lt_heap hR; simp; omega))).trans (by first | with_reducible exact hR | with_reducible exact laid_old hR)); replace hB := below_on (w := w) ((by repeat (first | with_reducible exact hB | with_reducible exact Below.refl _ _ | with_reducible refine below_al ?_ _ | with_reducible refine below_st ?_ (by first | exact Nat.le_refl _ | exact Nat.le_add_right _ _ | (simp; omega)) _))) hb1; clear hb1) | (go_at_call 142; refine (chx_12 _ _ _ _ hS HN.out hN HP.out _ (by repeat (first | with_reducible exact hB | with_reducible exact Below.refl _ _ | with_reducible refine below_al ?_ _ | with_reducible refine below_st ?_ (by first | exact Nat.le_refl _ | exact Nat.le_add_right _ _ | (simp; omega)) _))).mono ?_; rintro e w1 ⟨rfl, hb1⟩; obtain ⟨hc1, hf1⟩ := bcell hb1; have hz1 := hb1.size; (try simp only [World.size_alloc, World.size_setCell] at hz1); (try have hza : w.heap.size < w1.heap.size := by omega); (try have hzb : w.heap.size + 1 < w1.heap.size := by omega); (try have hzc : w.heap.size + 1 + 1 < w1.heap.size := by omega); (try have hzd : wa.heap.size < w1.heap.size := by omega); (try replace hR := (hb1.block w.heap.size (by first | exact lt_heap hR | (have := lt_heap hR; simp; omega))).trans (by first | with_reducible exact hR | with_reducible exact laid_old hR)); replace hB := below_on (w := w) ((by repeat (first | with_reducible exact hB | with_reducible exact Below.refl _ _ | with_reducible refine below_al ?_ _ | with_reducible refine below_st ?_ (by first | exact Nat.le_refl _ | exact Nat.le_add_right _ _ | (simp; omega)) _))) hb1; clear hb1))
  all_goals go_ret
 ·
  exact ⟨by rw [ck_mal rfl hf]; rfl, (by repeat (first | with_reducible exact hB | with_reducible exact Below.refl _ _ | with_reducible refine below_al ?_ _ | with_reducible refine below_st ?_ (by first | exact Nat.le_refl _ | exact Nat.le_add_right _ _ | (simp; omega)) _))⟩
 ·
  exact ⟨by rw [ck_ix (by omega) rfl hf]; rfl, (by repeat (first | with_reducible exact hB | with_reducible exact Below.refl _ _ | with_reducible refine below_al ?_ _ | with_reducible refine below_st ?_ (by first | exact Nat.le_refl _ | exact Nat.le_add_right _ _ | (simp; omega)) _))⟩
set_option maxRecDepth 100000 in
set_option maxHeartbeats 1000000 in
theorem ckc_9 {w0 : World} {A : Option Addr} {n c : Nat} {L : List Cn} (s : ByteArray) (m a b : Int) (hS : Fits L) (hn : L.length = n) (hN : n ≤ 100000) (hp : Pool w0 w0.heap.size A L) (w : World) (hb : Below w0.heap.size w0 w) :
  Calls Tryz.prog 100 #[.slice A n c, .agg #[.int .i64 9, .string s, .int .i64 m, .int .i64 a, .int .i64 b]] w fun e w' => e = .returned (.int .i64 (ckE L 9 s m a b)) ∧ Below w.heap.size w w' := by
 have HP := Lib.hid (hp.up hb)
 have HN := Lib.hid hn
 clear hp hb hn
 have hB : Below w.heap.size w w := Below.refl _ _
 have e0 : cnQ ⟨0, s, m, 0, 0⟩ cnZ = fmB 9 s m a b := by cases hs : s.toList <;> simp [cnQ, fmB, cnZ, s_nil, mtB, hs]
 have e1 : ∀ w, (binOp .neq 155 (.agg #[.int .i64 0, .string s, .int .i64 m, .int .i64 0, .int .i64 0]) (.agg #[.int .i64 0, .string ⟨#[]⟩, .int .i64 0, .int .i64 0, .int .i64 0])).run Tryz.prog w = .ok (.bool (!fmB 9 s m a b)) w := fun w => by rw [← e0]; exact cn_neq ⟨0, s, m, 0, 0⟩ cnZ w
 clear e0
 cases hf : fmB 9 s m a b
 all_goals
  rw [hf] at e1
  go_enter Tryz.func100, Tryz.ntmps100
  go_wp2_with (first | (go_at_call 141; refine (tli_any _ _).mono ?_; rintro e w1 ⟨rfl, hb1⟩; obtain ⟨hc1, hf1⟩ := bcell hb1; have hz1 := hb1.size; (try simp only [World.size_alloc, World.size_setCell] at hz1); (try have hza : w.heap.size < w1.heap.size := by omega); (try have hzb : w.heap.size + 1 < w1.heap.size := by omega); (try have hzc : w.heap.size + 1 + 1 < w1.heap.size := by omega); (try have hzd : wa.heap.size < w1.heap.size := by omega); (try replace hR := (hb1.block w.heap.size (by first | exact lt_heap hR | (have := lt_heap hR; simp; omega))).trans (by first | with_reducible exact hR | with_reducible exact laid_old hR)); replace hB := below_on (w := w) ((by repeat (first | with_reducible exact hB | with_reducible exact Below.refl _ _ | with_reducible refine below_al ?_ _ | with_reducible refine below_st ?_ (by first | exact Nat.le_refl _ | exact Nat.le_add_right _ _ | (simp; omega)) _))) hb1; clear hb1) | (go_at_call 142; refine (chx_9 _ _ _ _ hS HN.out hN HP.out _ (by repeat (first | with_reducible exact hB | with_reducible exact Below.refl _ _ | with_reducible refine below_al ?_ _ | with_reducible refine below_st ?_ (by first | exact Nat.le_refl _ | exact Nat.le_add_right _ _ | (simp; omega)) _))).mono ?_; rintro e w1 ⟨rfl, hb1⟩; obtain ⟨hc1, hf1⟩ := bcell hb1; have hz1 := hb1.size; (try simp only [World.size_alloc, World.size_setCell] at hz1); (try have hza : w.heap.size < w1.heap.size := by omega); (try have hzb : w.heap.size + 1 < w1.heap.size := by omega); (try have hzc : w.heap.size + 1 + 1 < w1.heap.size := by omega); (try have hzd : wa.heap.size < w1.heap.size := by omega); (try replace hR := (hb1.block w.heap.size (by first | exact lt_heap hR | (have := lt_heap hR; simp; omega))).trans (by first | with_reducible exact hR | with_reducible exact laid_old hR)); replace hB := below_on (w := w) ((by repeat (first | with_reducible exact hB | with_reducible exact Below.refl _ _ | with_reducible refine below_al ?_ _ | with_reducible refine below_st ?_ (by first | exact Nat.le_refl _ | exact Nat.le_add_right _ _ | (simp; omega)) _))) hb1; clear hb1))
  all_goals go_ret
 ·
  exact ⟨by rw [ck_mal rfl hf]; rfl, (by repeat (first | with_reducible exact hB | with_reducible exact Below.refl _ _ | with_reducible refine below_al ?_ _ | with_reducible refine below_st ?_ (by first | exact Nat.le_refl _ | exact Nat.le_add_right _ _ | (simp; omega)) _))⟩
 ·
  exact ⟨by rw [ck_ix (by omega) rfl hf]; rfl, (by repeat (first | with_reducible exact hB | with_reducible exact Below.refl _ _ | with_reducible refine below_al ?_ _ | with_reducible refine below_st ?_ (by first | exact Nat.le_refl _ | exact Nat.le_add_right _ _ | (simp; omega)) _))⟩
set_option maxRecDepth 100000 in
set_option maxHeartbeats 1000000 in
theorem ckc_10 {w0 : World} {A : Option Addr} {n c : Nat} {L : List Cn} (s : ByteArray) (m a b : Int) (hS : Fits L) (hn : L.length = n) (hN : n ≤ 100000) (hp : Pool w0 w0.heap.size A L) (w : World) (hb : Below w0.heap.size w0 w) :
  Calls Tryz.prog 100 #[.slice A n c, .agg #[.int .i64 10, .string s, .int .i64 m, .int .i64 a, .int .i64 b]] w fun e w' => e = .returned (.int .i64 (ckE L 10 s m a b)) ∧ Below w.heap.size w w' := by
 have HP := Lib.hid (hp.up hb)
 have HN := Lib.hid hn
 clear hp hb hn
 have hB : Below w.heap.size w w := Below.refl _ _
 have e0 : cnQ ⟨0, s, m, 0, 0⟩ cnZ = fmB 10 s m a b := by cases hs : s.toList <;> simp [cnQ, fmB, cnZ, s_nil, mtB, hs]
 have e1 : ∀ w, (binOp .neq 155 (.agg #[.int .i64 0, .string s, .int .i64 m, .int .i64 0, .int .i64 0]) (.agg #[.int .i64 0, .string ⟨#[]⟩, .int .i64 0, .int .i64 0, .int .i64 0])).run Tryz.prog w = .ok (.bool (!fmB 10 s m a b)) w := fun w => by rw [← e0]; exact cn_neq ⟨0, s, m, 0, 0⟩ cnZ w
 clear e0
 cases hf : fmB 10 s m a b
 all_goals
  rw [hf] at e1
  go_enter Tryz.func100, Tryz.ntmps100
  go_wp2_with (first | (go_at_call 141; refine (tli_any _ _).mono ?_; rintro e w1 ⟨rfl, hb1⟩; obtain ⟨hc1, hf1⟩ := bcell hb1; have hz1 := hb1.size; (try simp only [World.size_alloc, World.size_setCell] at hz1); (try have hza : w.heap.size < w1.heap.size := by omega); (try have hzb : w.heap.size + 1 < w1.heap.size := by omega); (try have hzc : w.heap.size + 1 + 1 < w1.heap.size := by omega); (try have hzd : wa.heap.size < w1.heap.size := by omega); (try replace hR := (hb1.block w.heap.size (by first | exact lt_heap hR | (have := lt_heap hR; simp; omega))).trans (by first | with_reducible exact hR | with_reducible exact laid_old hR)); replace hB := below_on (w := w) ((by repeat (first | with_reducible exact hB | with_reducible exact Below.refl _ _ | with_reducible refine below_al ?_ _ | with_reducible refine below_st ?_ (by first | exact Nat.le_refl _ | exact Nat.le_add_right _ _ | (simp; omega)) _))) hb1; clear hb1) | (go_at_call 142; refine (chx_10 _ _ _ _ hS HN.out hN HP.out _ (by repeat (first | with_reducible exact hB | with_reducible exact Below.refl _ _ | with_reducible refine below_al ?_ _ | with_reducible refine below_st ?_ (by first | exact Nat.le_refl _ | exact Nat.le_add_right _ _ | (simp; omega)) _))).mono ?_; rintro e w1 ⟨rfl, hb1⟩; obtain ⟨hc1, hf1⟩ := bcell hb1; have hz1 := hb1.size; (try simp only [World.size_alloc, World.size_setCell] at hz1); (try have hza : w.heap.size < w1.heap.size := by omega); (try have hzb : w.heap.size + 1 < w1.heap.size := by omega); (try have hzc : w.heap.size + 1 + 1 < w1.heap.size := by omega); (try have hzd : wa.heap.size < w1.heap.size := by omega); (try replace hR := (hb1.block w.heap.size (by first | exact lt_heap hR | (have := lt_heap hR; simp; omega))).trans (by first | with_reducible exact hR | with_reducible exact laid_old hR)); replace hB := below_on (w := w) ((by repeat (first | with_reducible exact hB | with_reducible exact Below.refl _ _ | with_reducible refine below_al ?_ _ | with_reducible refine below_st ?_ (by first | exact Nat.le_refl _ | exact Nat.le_add_right _ _ | (simp; omega)) _))) hb1; clear hb1))
  all_goals go_ret
 ·
  exact ⟨by rw [ck_mal rfl hf]; rfl, (by repeat (first | with_reducible exact hB | with_reducible exact Below.refl _ _ | with_reducible refine below_al ?_ _ | with_reducible refine below_st ?_ (by first | exact Nat.le_refl _ | exact Nat.le_add_right _ _ | (simp; omega)) _))⟩
 ·
  exact ⟨by rw [ck_ix (by omega) rfl hf]; rfl, (by repeat (first | with_reducible exact hB | with_reducible exact Below.refl _ _ | with_reducible refine below_al ?_ _ | with_reducible refine below_st ?_ (by first | exact Nat.le_refl _ | exact Nat.le_add_right _ _ | (simp; omega)) _))⟩
set_option maxRecDepth 100000 in
set_option maxHeartbeats 1000000 in
theorem ckc_11 {w0 : World} {A : Option Addr} {n c : Nat} {L : List Cn} (s : ByteArray) (m a b : Int) (hS : Fits L) (hn : L.length = n) (hN : n ≤ 100000) (hp : Pool w0 w0.heap.size A L) (w : World) (hb : Below w0.heap.size w0 w) :
  Calls Tryz.prog 100 #[.slice A n c, .agg #[.int .i64 11, .string s, .int .i64 m, .int .i64 a, .int .i64 b]] w fun e w' => e = .returned (.int .i64 (ckE L 11 s m a b)) ∧ Below w.heap.size w w' := by
 have HP := Lib.hid (hp.up hb)
 have HN := Lib.hid hn
 clear hp hb hn
 have hB : Below w.heap.size w w := Below.refl _ _
 have e0 : cnQ ⟨0, s, m, 0, 0⟩ cnZ = fmB 11 s m a b := by cases hs : s.toList <;> simp [cnQ, fmB, cnZ, s_nil, mtB, hs]
 have e1 : ∀ w, (binOp .neq 155 (.agg #[.int .i64 0, .string s, .int .i64 m, .int .i64 0, .int .i64 0]) (.agg #[.int .i64 0, .string ⟨#[]⟩, .int .i64 0, .int .i64 0, .int .i64 0])).run Tryz.prog w = .ok (.bool (!fmB 11 s m a b)) w := fun w => by rw [← e0]; exact cn_neq ⟨0, s, m, 0, 0⟩ cnZ w
 clear e0
 cases hf : fmB 11 s m a b
 all_goals
  rw [hf] at e1
  go_enter Tryz.func100, Tryz.ntmps100
  go_wp2_with (first | (go_at_call 141; refine (tli_any _ _).mono ?_; rintro e w1 ⟨rfl, hb1⟩; obtain ⟨hc1, hf1⟩ := bcell hb1; have hz1 := hb1.size; (try simp only [World.size_alloc, World.size_setCell] at hz1); (try have hza : w.heap.size < w1.heap.size := by omega); (try have hzb : w.heap.size + 1 < w1.heap.size := by omega); (try have hzc : w.heap.size + 1 + 1 < w1.heap.size := by omega); (try have hzd : wa.heap.size < w1.heap.size := by omega); (try replace hR := (hb1.block w.heap.size (by first | exact lt_heap hR | (have := lt_heap hR; simp; omega))).trans (by first | with_reducible exact hR | with_reducible exact laid_old hR)); replace hB := below_on (w := w) ((by repeat (first | with_reducible exact hB | with_reducible exact Below.refl _ _ | with_reducible refine below_al ?_ _ | with_reducible refine below_st ?_ (by first | exact Nat.le_refl _ | exact Nat.le_add_right _ _ | (simp; omega)) _))) hb1; clear hb1) | (go_at_call 142; refine (chx_11 _ _ _ _ hS HN.out hN HP.out _ (by repeat (first | with_reducible exact hB | with_reducible exact Below.refl _ _ | with_reducible refine below_al ?_ _ | with_reducible refine below_st ?_ (by first | exact Nat.le_refl _ | exact Nat.le_add_right _ _ | (simp; omega)) _))).mono ?_; rintro e w1 ⟨rfl, hb1⟩; obtain ⟨hc1, hf1⟩ := bcell hb1; have hz1 := hb1.size; (try simp only [World.size_alloc, World.size_setCell] at hz1); (try have hza : w.heap.size < w1.heap.size := by omega); (try have hzb : w.heap.size + 1 < w1.heap.size := by omega); (try have hzc : w.heap.size + 1 + 1 < w1.heap.size := by omega); (try have hzd : wa.heap.size < w1.heap.size := by omega); (try replace hR := (hb1.block w.heap.size (by first | exact lt_heap hR | (have := lt_heap hR; simp; omega))).trans (by first | with_reducible exact hR | with_reducible exact laid_old hR)); replace hB := below_on (w := w) ((by repeat (first | with_reducible exact hB | with_reducible exact Below.refl _ _ | with_reducible refine below_al ?_ _ | with_reducible refine below_st ?_ (by first | exact Nat.le_refl _ | exact Nat.le_add_right _ _ | (simp; omega)) _))) hb1; clear hb1))
  all_goals go_ret
 ·
  exact ⟨by rw [ck_mal rfl hf]; rfl, (by repeat (first | with_reducible exact hB | with_reducible exact Below.refl _ _ | with_reducible refine below_al ?_ _ | with_reducible refine below_st ?_ (by first | exact Nat.le_refl _ | exact Nat.le_add_right _ _ | (simp; omega)) _))⟩
 ·
  exact ⟨by rw [ck_ix (by omega) rfl hf]; rfl, (by repeat (first | with_reducible exact hB | with_reducible exact Below.refl _ _ | with_reducible refine below_al ?_ _ | with_reducible refine below_st ?_ (by first | exact Nat.le_refl _ | exact Nat.le_add_right _ _ | (simp; omega)) _))⟩
set_option maxRecDepth 100000 in
set_option maxHeartbeats 1000000 in
theorem ckc_u {w0 : World} {A : Option Addr} {n c : Nat} {L : List Cn} (t : Int) (hk : knB t = false) (s : ByteArray) (m a b : Int) (hS : Fits L) (hn : L.length = n) (hN : n ≤ 100000) (hp : Pool w0 w0.heap.size A L) (w : World) (hb : Below w0.heap.size w0 w) :
  Calls Tryz.prog 100 #[.slice A n c, .agg #[.int .i64 t, .string s, .int .i64 m, .int .i64 a, .int .i64 b]] w fun e w' => e = .returned (.int .i64 (ckE L t s m a b)) ∧ Below w.heap.size w w' := by
 have HP := Lib.hid (hp.up hb)
 have HN := Lib.hid hn
 clear hp hb hn
 have hB : Below w.heap.size w w := Below.refl _ _
 have hne : ¬ t = 1 ∧ ¬ t = 3 ∧ ¬ t = 5 ∧ ¬ t = 7 ∧ ¬ t = 8 ∧ ¬ t = 12 ∧ ¬ t = 9 ∧ ¬ t = 10 ∧ ¬ t = 11 := by
  refine ⟨?_, ?_, ?_, ?_, ?_, ?_, ?_, ?_, ?_⟩ <;> (rintro rfl; revert hk; decide)
 obtain ⟨h1, h3, h5, h7, h8, h12, h9, h10, h11⟩ := hne
 have g1 := beqF h1
 have g3 := beqF h3
 have g5 := beqF h5
 have g7 := beqF h7
 have g8 := beqF h8
 have g12 := beqF h12
 have g9 := beqF h9
 have g10 := beqF h10
 have g11 := beqF h11
 clear h1 h3 h5 h7 h8 h12 h9 h10 h11
 go_enter Tryz.func100, Tryz.ntmps100
 go_wp2
 go_ret
 exact ⟨by rw [ck_un hk]; rfl, (by repeat (first | with_reducible exact hB | with_reducible exact Below.refl _ _ | with_reducible refine below_al ?_ _ | with_reducible refine below_st ?_ (by first | exact Nat.le_refl _ | exact Nat.le_add_right _ _ | (simp; omega)) _))⟩
set_option maxRecDepth 100000 in
set_option maxHeartbeats 1000000 in
theorem cck_any {w0 : World} {A : Option Addr} {n c : Nat} {L : List Cn} (t : Int) (s : ByteArray) (m a b : Int) (hS : Fits L) (hn : L.length = n) (hN : n ≤ 100000) (hp : Pool w0 w0.heap.size A L) (w : World) (hb : Below w0.heap.size w0 w) :
  Calls Tryz.prog 100 #[.slice A n c, .agg #[.int .i64 t, .string s, .int .i64 m, .int .i64 a, .int .i64 b]] w fun e w' => e = .returned (.int .i64 (ckE L t s m a b)) ∧ Below w.heap.size w w' := by
 cases hk : knB t with
 | false => exact ckc_u t hk s m a b hS hn hN hp w hb
 | true =>
  rcases kn_cases hk with rfl | rfl | rfl | rfl | rfl | rfl | rfl | rfl | rfl
  ·
   exact ckc_1 s m a b hS hn hN hp w hb
  ·
   exact ckc_3 s m a b hS hn hN hp w hb
  ·
   exact ckc_5 s m a b hS hn hN hp w hb
  ·
   exact ckc_7 s m a b hS hn hN hp w hb
  ·
   exact ckc_8 s m a b hS hn hN hp w hb
  ·
   exact ckc_12 s m a b hS hn hN hp w hb
  ·
   exact ckc_9 s m a b hS hn hN hp w hb
  ·
   exact ckc_10 s m a b hS hn hN hp w hb
  ·
   exact ckc_11 s m a b hS hn hN hp w hb
set_option maxRecDepth 100000 in
set_option maxHeartbeats 1000000 in
theorem rck_1 {w0 : World} {A : Option Addr} {n c : Nat} {L : List Cn} (s : ByteArray) (m a b : Int) (hS : Short L) (hn : L.length = n) (hN : n ≤ 100000) (hp : Pool w0 w0.heap.size A L) (w : World) (hb : Below w0.heap.size w0 w) :
  Calls Tryz.prog 116 #[.slice A n c, .agg #[.int .i64 1, .string s, .int .i64 m, .int .i64 a, .int .i64 b]] w fun e w' => e = .returned (.int .i64 (ckE L 1 s m a b)) ∧ Below w.heap.size w w' := by
 have HP := Lib.hid (hp.up hb)
 have HN := Lib.hid hn
 clear hp hb hn
 have hB : Below w.heap.size w w := Below.refl _ _
 have hk : knB 1 = true := rfl
 go_enter Tryz.func116, Tryz.ntmps116
 go_wp2_with (first | (go_at_call 155; refine (known_any _ _).mono ?_; rintro e w1 ⟨rfl, hb1⟩; obtain ⟨hc1, hf1⟩ := bcell hb1; have hz1 := hb1.size; (try simp only [World.size_alloc, World.size_setCell] at hz1); (try have hza : w.heap.size < w1.heap.size := by omega); (try have hzb : w.heap.size + 1 < w1.heap.size := by omega); (try have hzc : w.heap.size + 1 + 1 < w1.heap.size := by omega); (try have hzd : wa.heap.size < w1.heap.size := by omega); (try replace hR := (hb1.block w.heap.size (by first | exact lt_heap hR | (have := lt_heap hR; simp; omega))).trans (by first | with_reducible exact hR | with_reducible exact laid_old hR)); replace hB := below_on (w := w) ((by repeat (first | with_reducible exact hB | with_reducible exact Below.refl _ _ | with_reducible refine below_al ?_ _ | with_reducible refine below_st ?_ (by first | exact Nat.le_refl _ | exact Nat.le_add_right _ _ | (simp; omega)) _))) hb1; clear hb1) | (go_at_call 156; refine (formed_any 1 s m a b _).mono ?_; rintro e w1 ⟨rfl, hb1⟩; obtain ⟨hc1, hf1⟩ := bcell hb1; have hz1 := hb1.size; (try simp only [World.size_alloc, World.size_setCell] at hz1); (try have hza : w.heap.size < w1.heap.size := by omega); (try have hzb : w.heap.size + 1 < w1.heap.size := by omega); (try have hzc : w.heap.size + 1 + 1 < w1.heap.size := by omega); (try have hzd : wa.heap.size < w1.heap.size := by omega); (try replace hR := (hb1.block w.heap.size (by first | exact lt_heap hR | (have := lt_heap hR; simp; omega))).trans (by first | with_reducible exact hR | with_reducible exact laid_old hR)); replace hB := below_on (w := w) ((by repeat (first | with_reducible exact hB | with_reducible exact Below.refl _ _ | with_reducible refine below_al ?_ _ | with_reducible refine below_st ?_ (by first | exact Nat.le_refl _ | exact Nat.le_add_right _ _ | (simp; omega)) _))) hb1; clear hb1))
 all_goals go_ret
 ·
  exact ⟨by rw [ck_mal rfl (notT (by assumption))]; rfl, (by repeat (first | with_reducible exact hB | with_reducible exact Below.refl _ _ | with_reducible refine below_al ?_ _ | with_reducible refine below_st ?_ (by first | exact Nat.le_refl _ | exact Nat.le_add_right _ _ | (simp; omega)) _))⟩
 ·
  exact ⟨by rw [ck1_0 (notF (by assumption)) (by omega)]; rfl, (by repeat (first | with_reducible exact hB | with_reducible exact Below.refl _ _ | with_reducible refine below_al ?_ _ | with_reducible refine below_st ?_ (by first | exact Nat.le_refl _ | exact Nat.le_add_right _ _ | (simp; omega)) _))⟩
 ·
  exact ⟨by rw [ck1_8 (notF (by assumption)) (by omega)]; rfl, (by repeat (first | with_reducible exact hB | with_reducible exact Below.refl _ _ | with_reducible refine below_al ?_ _ | with_reducible refine below_st ?_ (by first | exact Nat.le_refl _ | exact Nat.le_add_right _ _ | (simp; omega)) _))⟩
set_option maxRecDepth 100000 in
set_option maxHeartbeats 1000000 in
theorem rck_3 {w0 : World} {A : Option Addr} {n c : Nat} {L : List Cn} (s : ByteArray) (m a b : Int) (hS : Short L) (hn : L.length = n) (hN : n ≤ 100000) (hp : Pool w0 w0.heap.size A L) (w : World) (hb : Below w0.heap.size w0 w) :
  Calls Tryz.prog 116 #[.slice A n c, .agg #[.int .i64 3, .string s, .int .i64 m, .int .i64 a, .int .i64 b]] w fun e w' => e = .returned (.int .i64 (ckE L 3 s m a b)) ∧ Below w.heap.size w w' := by
 have HP := Lib.hid (hp.up hb)
 have HN := Lib.hid hn
 clear hp hb hn
 have hB : Below w.heap.size w w := Below.refl _ _
 have hk : knB 3 = true := rfl
 go_enter Tryz.func116, Tryz.ntmps116
 go_wp2_with (first | (go_at_call 155; refine (known_any _ _).mono ?_; rintro e w1 ⟨rfl, hb1⟩; obtain ⟨hc1, hf1⟩ := bcell hb1; have hz1 := hb1.size; (try simp only [World.size_alloc, World.size_setCell] at hz1); (try have hza : w.heap.size < w1.heap.size := by omega); (try have hzb : w.heap.size + 1 < w1.heap.size := by omega); (try have hzc : w.heap.size + 1 + 1 < w1.heap.size := by omega); (try have hzd : wa.heap.size < w1.heap.size := by omega); (try replace hR := (hb1.block w.heap.size (by first | exact lt_heap hR | (have := lt_heap hR; simp; omega))).trans (by first | with_reducible exact hR | with_reducible exact laid_old hR)); replace hB := below_on (w := w) ((by repeat (first | with_reducible exact hB | with_reducible exact Below.refl _ _ | with_reducible refine below_al ?_ _ | with_reducible refine below_st ?_ (by first | exact Nat.le_refl _ | exact Nat.le_add_right _ _ | (simp; omega)) _))) hb1; clear hb1) | (go_at_call 156; refine (formed_any 3 s m a b _).mono ?_; rintro e w1 ⟨rfl, hb1⟩; obtain ⟨hc1, hf1⟩ := bcell hb1; have hz1 := hb1.size; (try simp only [World.size_alloc, World.size_setCell] at hz1); (try have hza : w.heap.size < w1.heap.size := by omega); (try have hzb : w.heap.size + 1 < w1.heap.size := by omega); (try have hzc : w.heap.size + 1 + 1 < w1.heap.size := by omega); (try have hzd : wa.heap.size < w1.heap.size := by omega); (try replace hR := (hb1.block w.heap.size (by first | exact lt_heap hR | (have := lt_heap hR; simp; omega))).trans (by first | with_reducible exact hR | with_reducible exact laid_old hR)); replace hB := below_on (w := w) ((by repeat (first | with_reducible exact hB | with_reducible exact Below.refl _ _ | with_reducible refine below_al ?_ _ | with_reducible refine below_st ?_ (by first | exact Nat.le_refl _ | exact Nat.le_add_right _ _ | (simp; omega)) _))) hb1; clear hb1))
 all_goals go_ret
 ·
  exact ⟨by rw [ck_mal rfl (notT (by assumption))]; rfl, (by repeat (first | with_reducible exact hB | with_reducible exact Below.refl _ _ | with_reducible refine below_al ?_ _ | with_reducible refine below_st ?_ (by first | exact Nat.le_refl _ | exact Nat.le_add_right _ _ | (simp; omega)) _))⟩
 ·
  exact ⟨by rw [ck3_8 (notF (by assumption)) (by omega)]; rfl, (by repeat (first | with_reducible exact hB | with_reducible exact Below.refl _ _ | with_reducible refine below_al ?_ _ | with_reducible refine below_st ?_ (by first | exact Nat.le_refl _ | exact Nat.le_add_right _ _ | (simp; omega)) _))⟩
 ·
  exact ⟨by rw [ck3_0 (notF (by assumption)) (by omega)]; rfl, (by repeat (first | with_reducible exact hB | with_reducible exact Below.refl _ _ | with_reducible refine below_al ?_ _ | with_reducible refine below_st ?_ (by first | exact Nat.le_refl _ | exact Nat.le_add_right _ _ | (simp; omega)) _))⟩
 ·
  exact ⟨by rw [ck3_8 (notF (by assumption)) (by omega)]; rfl, (by repeat (first | with_reducible exact hB | with_reducible exact Below.refl _ _ | with_reducible refine below_al ?_ _ | with_reducible refine below_st ?_ (by first | exact Nat.le_refl _ | exact Nat.le_add_right _ _ | (simp; omega)) _))⟩
set_option maxRecDepth 100000 in
set_option maxHeartbeats 1000000 in
theorem rck_5 {w0 : World} {A : Option Addr} {n c : Nat} {L : List Cn} (s : ByteArray) (m a b : Int) (hS : Short L) (hn : L.length = n) (hN : n ≤ 100000) (hp : Pool w0 w0.heap.size A L) (w : World) (hb : Below w0.heap.size w0 w) :
  Calls Tryz.prog 116 #[.slice A n c, .agg #[.int .i64 5, .string s, .int .i64 m, .int .i64 a, .int .i64 b]] w fun e w' => e = .returned (.int .i64 (ckE L 5 s m a b)) ∧ Below w.heap.size w w' := by
 have HP := Lib.hid (hp.up hb)
 have HN := Lib.hid hn
 clear hp hb hn
 have hB : Below w.heap.size w w := Below.refl _ _
 have hk : knB 5 = true := rfl
 go_enter Tryz.func116, Tryz.ntmps116
 go_wp2_with (first | (go_at_call 155; refine (known_any _ _).mono ?_; rintro e w1 ⟨rfl, hb1⟩; obtain ⟨hc1, hf1⟩ := bcell hb1; have hz1 := hb1.size; (try simp only [World.size_alloc, World.size_setCell] at hz1); (try have hza : w.heap.size < w1.heap.size := by omega); (try have hzb : w.heap.size + 1 < w1.heap.size := by omega); (try have hzc : w.heap.size + 1 + 1 < w1.heap.size := by omega); (try have hzd : wa.heap.size < w1.heap.size := by omega); (try replace hR := (hb1.block w.heap.size (by first | exact lt_heap hR | (have := lt_heap hR; simp; omega))).trans (by first | with_reducible exact hR | with_reducible exact laid_old hR)); replace hB := below_on (w := w) ((by repeat (first | with_reducible exact hB | with_reducible exact Below.refl _ _ | with_reducible refine below_al ?_ _ | with_reducible refine below_st ?_ (by first | exact Nat.le_refl _ | exact Nat.le_add_right _ _ | (simp; omega)) _))) hb1; clear hb1) | (go_at_call 156; refine (formed_any 5 s m a b _).mono ?_; rintro e w1 ⟨rfl, hb1⟩; obtain ⟨hc1, hf1⟩ := bcell hb1; have hz1 := hb1.size; (try simp only [World.size_alloc, World.size_setCell] at hz1); (try have hza : w.heap.size < w1.heap.size := by omega); (try have hzb : w.heap.size + 1 < w1.heap.size := by omega); (try have hzc : w.heap.size + 1 + 1 < w1.heap.size := by omega); (try have hzd : wa.heap.size < w1.heap.size := by omega); (try replace hR := (hb1.block w.heap.size (by first | exact lt_heap hR | (have := lt_heap hR; simp; omega))).trans (by first | with_reducible exact hR | with_reducible exact laid_old hR)); replace hB := below_on (w := w) ((by repeat (first | with_reducible exact hB | with_reducible exact Below.refl _ _ | with_reducible refine below_al ?_ _ | with_reducible refine below_st ?_ (by first | exact Nat.le_refl _ | exact Nat.le_add_right _ _ | (simp; omega)) _))) hb1; clear hb1))
 all_goals go_ret
 ·
  exact ⟨by rw [ck_mal rfl (notT (by assumption))]; rfl, (by repeat (first | with_reducible exact hB | with_reducible exact Below.refl _ _ | with_reducible refine below_al ?_ _ | with_reducible refine below_st ?_ (by first | exact Nat.le_refl _ | exact Nat.le_add_right _ _ | (simp; omega)) _))⟩
 ·
  exact ⟨by rw [ck5_0 (notF (by assumption))]; rfl, (by repeat (first | with_reducible exact hB | with_reducible exact Below.refl _ _ | with_reducible refine below_al ?_ _ | with_reducible refine below_st ?_ (by first | exact Nat.le_refl _ | exact Nat.le_add_right _ _ | (simp; omega)) _))⟩
set_option maxRecDepth 100000 in
set_option maxHeartbeats 1000000 in
theorem rck_7 {w0 : World} {A : Option Addr} {n c : Nat} {L : List Cn} (s : ByteArray) (m a b : Int) (hS : Short L) (hn : L.length = n) (hN : n ≤ 100000) (hp : Pool w0 w0.heap.size A L) (w : World) (hb : Below w0.heap.size w0 w) :
  Calls Tryz.prog 116 #[.slice A n c, .agg #[.int .i64 7, .string s, .int .i64 m, .int .i64 a, .int .i64 b]] w fun e w' => e = .returned (.int .i64 (ckE L 7 s m a b)) ∧ Below w.heap.size w w' := by
 have HP := Lib.hid (hp.up hb)
 have HN := Lib.hid hn
 clear hp hb hn
 have hB : Below w.heap.size w w := Below.refl _ _
 have hk : knB 7 = true := rfl
 go_enter Tryz.func116, Tryz.ntmps116
 go_wp2_with (first | (go_at_call 155; refine (known_any _ _).mono ?_; rintro e w1 ⟨rfl, hb1⟩; obtain ⟨hc1, hf1⟩ := bcell hb1; have hz1 := hb1.size; (try simp only [World.size_alloc, World.size_setCell] at hz1); (try have hza : w.heap.size < w1.heap.size := by omega); (try have hzb : w.heap.size + 1 < w1.heap.size := by omega); (try have hzc : w.heap.size + 1 + 1 < w1.heap.size := by omega); (try have hzd : wa.heap.size < w1.heap.size := by omega); (try replace hR := (hb1.block w.heap.size (by first | exact lt_heap hR | (have := lt_heap hR; simp; omega))).trans (by first | with_reducible exact hR | with_reducible exact laid_old hR)); replace hB := below_on (w := w) ((by repeat (first | with_reducible exact hB | with_reducible exact Below.refl _ _ | with_reducible refine below_al ?_ _ | with_reducible refine below_st ?_ (by first | exact Nat.le_refl _ | exact Nat.le_add_right _ _ | (simp; omega)) _))) hb1; clear hb1) | (go_at_call 156; refine (formed_any 7 s m a b _).mono ?_; rintro e w1 ⟨rfl, hb1⟩; obtain ⟨hc1, hf1⟩ := bcell hb1; have hz1 := hb1.size; (try simp only [World.size_alloc, World.size_setCell] at hz1); (try have hza : w.heap.size < w1.heap.size := by omega); (try have hzb : w.heap.size + 1 < w1.heap.size := by omega); (try have hzc : w.heap.size + 1 + 1 < w1.heap.size := by omega); (try have hzd : wa.heap.size < w1.heap.size := by omega); (try replace hR := (hb1.block w.heap.size (by first | exact lt_heap hR | (have := lt_heap hR; simp; omega))).trans (by first | with_reducible exact hR | with_reducible exact laid_old hR)); replace hB := below_on (w := w) ((by repeat (first | with_reducible exact hB | with_reducible exact Below.refl _ _ | with_reducible refine below_al ?_ _ | with_reducible refine below_st ?_ (by first | exact Nat.le_refl _ | exact Nat.le_add_right _ _ | (simp; omega)) _))) hb1; clear hb1) | (go_at_call 157; refine (bth_7 _ _ _ _ HN.out hN HP.out _ (by repeat (first | with_reducible exact hB | with_reducible exact Below.refl _ _ | with_reducible refine below_al ?_ _ | with_reducible refine below_st ?_ (by first | exact Nat.le_refl _ | exact Nat.le_add_right _ _ | (simp; omega)) _))).mono ?_; rintro e w1 ⟨rfl, hb1⟩; obtain ⟨hc1, hf1⟩ := bcell hb1; have hz1 := hb1.size; (try simp only [World.size_alloc, World.size_setCell] at hz1); (try have hza : w.heap.size < w1.heap.size := by omega); (try have hzb : w.heap.size + 1 < w1.heap.size := by omega); (try have hzc : w.heap.size + 1 + 1 < w1.heap.size := by omega); (try have hzd : wa.heap.size < w1.heap.size := by omega); (try replace hR := (hb1.block w.heap.size (by first | exact lt_heap hR | (have := lt_heap hR; simp; omega))).trans (by first | with_reducible exact hR | with_reducible exact laid_old hR)); replace hB := below_on (w := w) ((by repeat (first | with_reducible exact hB | with_reducible exact Below.refl _ _ | with_reducible refine below_al ?_ _ | with_reducible refine below_st ?_ (by first | exact Nat.le_refl _ | exact Nat.le_add_right _ _ | (simp; omega)) _))) hb1; clear hb1) | (go_at_call 158; refine (con_7 _ _ _ _ hS HN.out hN HP.out _ (by repeat (first | with_reducible exact hB | with_reducible exact Below.refl _ _ | with_reducible refine below_al ?_ _ | with_reducible refine below_st ?_ (by first | exact Nat.le_refl _ | exact Nat.le_add_right _ _ | (simp; omega)) _))).mono ?_; rintro e w1 ⟨rfl, hb1⟩; obtain ⟨hc1, hf1⟩ := bcell hb1; have hz1 := hb1.size; (try simp only [World.size_alloc, World.size_setCell] at hz1); (try have hza : w.heap.size < w1.heap.size := by omega); (try have hzb : w.heap.size + 1 < w1.heap.size := by omega); (try have hzc : w.heap.size + 1 + 1 < w1.heap.size := by omega); (try have hzd : wa.heap.size < w1.heap.size := by omega); (try replace hR := (hb1.block w.heap.size (by first | exact lt_heap hR | (have := lt_heap hR; simp; omega))).trans (by first | with_reducible exact hR | with_reducible exact laid_old hR)); replace hB := below_on (w := w) ((by repeat (first | with_reducible exact hB | with_reducible exact Below.refl _ _ | with_reducible refine below_al ?_ _ | with_reducible refine below_st ?_ (by first | exact Nat.le_refl _ | exact Nat.le_add_right _ _ | (simp; omega)) _))) hb1; clear hb1))
 all_goals go_ret
 ·
  exact ⟨by rw [ck_mal rfl (notT (by assumption))]; rfl, (by repeat (first | with_reducible exact hB | with_reducible exact Below.refl _ _ | with_reducible refine below_al ?_ _ | with_reducible refine below_st ?_ (by first | exact Nat.le_refl _ | exact Nat.le_add_right _ _ | (simp; omega)) _))⟩
 ·
  exact ⟨by rw [ck_ix (by omega) rfl (notF (by assumption)), ix_bad (bneT (by with_reducible assumption))]; rfl, (by repeat (first | with_reducible exact hB | with_reducible exact Below.refl _ _ | with_reducible refine below_al ?_ _ | with_reducible refine below_st ?_ (by first | exact Nat.le_refl _ | exact Nat.le_add_right _ _ | (simp; omega)) _))⟩
 ·
  exact ⟨by rw [ck_ix (by omega) rfl (notF (by assumption)), ix_ok (bneF (by with_reducible assumption)), tx7]; rfl, (by repeat (first | with_reducible exact hB | with_reducible exact Below.refl _ _ | with_reducible refine below_al ?_ _ | with_reducible refine below_st ?_ (by first | exact Nat.le_refl _ | exact Nat.le_add_right _ _ | (simp; omega)) _))⟩
set_option maxRecDepth 100000 in
set_option maxHeartbeats 1000000 in
theorem rck_8 {w0 : World} {A : Option Addr} {n c : Nat} {L : List Cn} (s : ByteArray) (m a b : Int) (hS : Short L) (hn : L.length = n) (hN : n ≤ 100000) (hp : Pool w0 w0.heap.size A L) (w : World) (hb : Below w0.heap.size w0 w) :
  Calls Tryz.prog 116 #[.slice A n c, .agg #[.int .i64 8, .string s, .int .i64 m, .int .i64 a, .int .i64 b]] w fun e w' => e = .returned (.int .i64 (ckE L 8 s m a b)) ∧ Below w.heap.size w w' := by
 have HP := Lib.hid (hp.up hb)
 have HN := Lib.hid hn
 clear hp hb hn
 have hB : Below w.heap.size w w := Below.refl _ _
 have hk : knB 8 = true := rfl
 go_enter Tryz.func116, Tryz.ntmps116
 go_wp2_with (first | (go_at_call 155; refine (known_any _ _).mono ?_; rintro e w1 ⟨rfl, hb1⟩; obtain ⟨hc1, hf1⟩ := bcell hb1; have hz1 := hb1.size; (try simp only [World.size_alloc, World.size_setCell] at hz1); (try have hza : w.heap.size < w1.heap.size := by omega); (try have hzb : w.heap.size + 1 < w1.heap.size := by omega); (try have hzc : w.heap.size + 1 + 1 < w1.heap.size := by omega); (try have hzd : wa.heap.size < w1.heap.size := by omega); (try replace hR := (hb1.block w.heap.size (by first | exact lt_heap hR | (have := lt_heap hR; simp; omega))).trans (by first | with_reducible exact hR | with_reducible exact laid_old hR)); replace hB := below_on (w := w) ((by repeat (first | with_reducible exact hB | with_reducible exact Below.refl _ _ | with_reducible refine below_al ?_ _ | with_reducible refine below_st ?_ (by first | exact Nat.le_refl _ | exact Nat.le_add_right _ _ | (simp; omega)) _))) hb1; clear hb1) | (go_at_call 156; refine (formed_any 8 s m a b _).mono ?_; rintro e w1 ⟨rfl, hb1⟩; obtain ⟨hc1, hf1⟩ := bcell hb1; have hz1 := hb1.size; (try simp only [World.size_alloc, World.size_setCell] at hz1); (try have hza : w.heap.size < w1.heap.size := by omega); (try have hzb : w.heap.size + 1 < w1.heap.size := by omega); (try have hzc : w.heap.size + 1 + 1 < w1.heap.size := by omega); (try have hzd : wa.heap.size < w1.heap.size := by omega); (try replace hR := (hb1.block w.heap.size (by first | exact lt_heap hR | (have := lt_heap hR; simp; omega))).trans (by first | with_reducible exact hR | with_reducible exact laid_old hR)); replace hB := below_on (w := w) ((by repeat (first | with_reducible exact hB | with_reducible exact Below.refl _ _ | with_reducible refine below_al ?_ _ | with_reducible refine below_st ?_ (by first | exact Nat.le_refl _ | exact Nat.le_add_right _ _ | (simp; omega)) _))) hb1; clear hb1) | (go_at_call 157; refine (bth_8 _ _ _ _ HN.out hN HP.out _ (by repeat (first | with_reducible exact hB | with_reducible exact Below.refl _ _ | with_reducible refine below_al ?_ _ | with_reducible refine below_st ?_ (by first | exact Nat.le_refl _ | exact Nat.le_add_right _ _ | (simp; omega)) _))).mono ?_; rintro e w1 ⟨rfl, hb1⟩; obtain ⟨hc1, hf1⟩ := bcell hb1; have hz1 := hb1.size; (try simp only [World.size_alloc, World.size_setCell] at hz1); (try have hza : w.heap.size < w1.heap.size := by omega); (try have hzb : w.heap.size + 1 < w1.heap.size := by omega); (try have hzc : w.heap.size + 1 + 1 < w1.heap.size := by omega); (try have hzd : wa.heap.size < w1.heap.size := by omega); (try replace hR := (hb1.block w.heap.size (by first | exact lt_heap hR | (have := lt_heap hR; simp; omega))).trans (by first | with_reducible exact hR | with_reducible exact laid_old hR)); replace hB := below_on (w := w) ((by repeat (first | with_reducible exact hB | with_reducible exact Below.refl _ _ | with_reducible refine below_al ?_ _ | with_reducible refine below_st ?_ (by first | exact Nat.le_refl _ | exact Nat.le_add_right _ _ | (simp; omega)) _))) hb1; clear hb1) | (go_at_call 158; refine (con_8 _ _ _ _ hS HN.out hN HP.out _ (by repeat (first | with_reducible exact hB | with_reducible exact Below.refl _ _ | with_reducible refine below_al ?_ _ | with_reducible refine below_st ?_ (by first | exact Nat.le_refl _ | exact Nat.le_add_right _ _ | (simp; omega)) _))).mono ?_; rintro e w1 ⟨rfl, hb1⟩; obtain ⟨hc1, hf1⟩ := bcell hb1; have hz1 := hb1.size; (try simp only [World.size_alloc, World.size_setCell] at hz1); (try have hza : w.heap.size < w1.heap.size := by omega); (try have hzb : w.heap.size + 1 < w1.heap.size := by omega); (try have hzc : w.heap.size + 1 + 1 < w1.heap.size := by omega); (try have hzd : wa.heap.size < w1.heap.size := by omega); (try replace hR := (hb1.block w.heap.size (by first | exact lt_heap hR | (have := lt_heap hR; simp; omega))).trans (by first | with_reducible exact hR | with_reducible exact laid_old hR)); replace hB := below_on (w := w) ((by repeat (first | with_reducible exact hB | with_reducible exact Below.refl _ _ | with_reducible refine below_al ?_ _ | with_reducible refine below_st ?_ (by first | exact Nat.le_refl _ | exact Nat.le_add_right _ _ | (simp; omega)) _))) hb1; clear hb1))
 all_goals go_ret
 ·
  exact ⟨by rw [ck_mal rfl (notT (by assumption))]; rfl, (by repeat (first | with_reducible exact hB | with_reducible exact Below.refl _ _ | with_reducible refine below_al ?_ _ | with_reducible refine below_st ?_ (by first | exact Nat.le_refl _ | exact Nat.le_add_right _ _ | (simp; omega)) _))⟩
 ·
  exact ⟨by rw [ck_ix (by omega) rfl (notF (by assumption)), ix_bad (bneT (by with_reducible assumption))]; rfl, (by repeat (first | with_reducible exact hB | with_reducible exact Below.refl _ _ | with_reducible refine below_al ?_ _ | with_reducible refine below_st ?_ (by first | exact Nat.le_refl _ | exact Nat.le_add_right _ _ | (simp; omega)) _))⟩
 ·
  exact ⟨by rw [ck_ix (by omega) rfl (notF (by assumption)), ix_ok (bneF (by with_reducible assumption)), tx8]; rfl, (by repeat (first | with_reducible exact hB | with_reducible exact Below.refl _ _ | with_reducible refine below_al ?_ _ | with_reducible refine below_st ?_ (by first | exact Nat.le_refl _ | exact Nat.le_add_right _ _ | (simp; omega)) _))⟩
set_option maxRecDepth 100000 in
set_option maxHeartbeats 1000000 in
theorem rck_12 {w0 : World} {A : Option Addr} {n c : Nat} {L : List Cn} (s : ByteArray) (m a b : Int) (hS : Short L) (hn : L.length = n) (hN : n ≤ 100000) (hp : Pool w0 w0.heap.size A L) (w : World) (hb : Below w0.heap.size w0 w) :
  Calls Tryz.prog 116 #[.slice A n c, .agg #[.int .i64 12, .string s, .int .i64 m, .int .i64 a, .int .i64 b]] w fun e w' => e = .returned (.int .i64 (ckE L 12 s m a b)) ∧ Below w.heap.size w w' := by
 have HP := Lib.hid (hp.up hb)
 have HN := Lib.hid hn
 clear hp hb hn
 have hB : Below w.heap.size w w := Below.refl _ _
 have hk : knB 12 = true := rfl
 go_enter Tryz.func116, Tryz.ntmps116
 go_wp2_with (first | (go_at_call 155; refine (known_any _ _).mono ?_; rintro e w1 ⟨rfl, hb1⟩; obtain ⟨hc1, hf1⟩ := bcell hb1; have hz1 := hb1.size; (try simp only [World.size_alloc, World.size_setCell] at hz1); (try have hza : w.heap.size < w1.heap.size := by omega); (try have hzb : w.heap.size + 1 < w1.heap.size := by omega); (try have hzc : w.heap.size + 1 + 1 < w1.heap.size := by omega); (try have hzd : wa.heap.size < w1.heap.size := by omega); (try replace hR := (hb1.block w.heap.size (by first | exact lt_heap hR | (have := lt_heap hR; simp; omega))).trans (by first | with_reducible exact hR | with_reducible exact laid_old hR)); replace hB := below_on (w := w) ((by repeat (first | with_reducible exact hB | with_reducible exact Below.refl _ _ | with_reducible refine below_al ?_ _ | with_reducible refine below_st ?_ (by first | exact Nat.le_refl _ | exact Nat.le_add_right _ _ | (simp; omega)) _))) hb1; clear hb1) | (go_at_call 156; refine (formed_any 12 s m a b _).mono ?_; rintro e w1 ⟨rfl, hb1⟩; obtain ⟨hc1, hf1⟩ := bcell hb1; have hz1 := hb1.size; (try simp only [World.size_alloc, World.size_setCell] at hz1); (try have hza : w.heap.size < w1.heap.size := by omega); (try have hzb : w.heap.size + 1 < w1.heap.size := by omega); (try have hzc : w.heap.size + 1 + 1 < w1.heap.size := by omega); (try have hzd : wa.heap.size < w1.heap.size := by omega); (try replace hR := (hb1.block w.heap.size (by first | exact lt_heap hR | (have := lt_heap hR; simp; omega))).trans (by first | with_reducible exact hR | with_reducible exact laid_old hR)); replace hB := below_on (w := w) ((by repeat (first | with_reducible exact hB | with_reducible exact Below.refl _ _ | with_reducible refine below_al ?_ _ | with_reducible refine below_st ?_ (by first | exact Nat.le_refl _ | exact Nat.le_add_right _ _ | (simp; omega)) _))) hb1; clear hb1) | (go_at_call 157; refine (bth_12 _ _ _ _ HN.out hN HP.out _ (by repeat (first | with_reducible exact hB | with_reducible exact Below.refl _ _ | with_reducible refine below_al ?_ _ | with_reducible refine below_st ?_ (by first | exact Nat.le_refl _ | exact Nat.le_add_right _ _ | (simp; omega)) _))).mono ?_; rintro e w1 ⟨rfl, hb1⟩; obtain ⟨hc1, hf1⟩ := bcell hb1; have hz1 := hb1.size; (try simp only [World.size_alloc, World.size_setCell] at hz1); (try have hza : w.heap.size < w1.heap.size := by omega); (try have hzb : w.heap.size + 1 < w1.heap.size := by omega); (try have hzc : w.heap.size + 1 + 1 < w1.heap.size := by omega); (try have hzd : wa.heap.size < w1.heap.size := by omega); (try replace hR := (hb1.block w.heap.size (by first | exact lt_heap hR | (have := lt_heap hR; simp; omega))).trans (by first | with_reducible exact hR | with_reducible exact laid_old hR)); replace hB := below_on (w := w) ((by repeat (first | with_reducible exact hB | with_reducible exact Below.refl _ _ | with_reducible refine below_al ?_ _ | with_reducible refine below_st ?_ (by first | exact Nat.le_refl _ | exact Nat.le_add_right _ _ | (simp; omega)) _))) hb1; clear hb1) | (go_at_call 158; refine (con_12 _ _ _ _ hS HN.out hN HP.out _ (by repeat (first | with_reducible exact hB | with_reducible exact Below.refl _ _ | with_reducible refine below_al ?_ _ | with_reducible refine below_st ?_ (by first | exact Nat.le_refl _ | exact Nat.le_add_right _ _ | (simp; omega)) _))).mono ?_; rintro e w1 ⟨rfl, hb1⟩; obtain ⟨hc1, hf1⟩ := bcell hb1; have hz1 := hb1.size; (try simp only [World.size_alloc, World.size_setCell] at hz1); (try have hza : w.heap.size < w1.heap.size := by omega); (try have hzb : w.heap.size + 1 < w1.heap.size := by omega); (try have hzc : w.heap.size + 1 + 1 < w1.heap.size := by omega); (try have hzd : wa.heap.size < w1.heap.size := by omega); (try replace hR := (hb1.block w.heap.size (by first | exact lt_heap hR | (have := lt_heap hR; simp; omega))).trans (by first | with_reducible exact hR | with_reducible exact laid_old hR)); replace hB := below_on (w := w) ((by repeat (first | with_reducible exact hB | with_reducible exact Below.refl _ _ | with_reducible refine below_al ?_ _ | with_reducible refine below_st ?_ (by first | exact Nat.le_refl _ | exact Nat.le_add_right _ _ | (simp; omega)) _))) hb1; clear hb1))
 all_goals go_ret
 ·
  exact ⟨by rw [ck_mal rfl (notT (by assumption))]; rfl, (by repeat (first | with_reducible exact hB | with_reducible exact Below.refl _ _ | with_reducible refine below_al ?_ _ | with_reducible refine below_st ?_ (by first | exact Nat.le_refl _ | exact Nat.le_add_right _ _ | (simp; omega)) _))⟩
 ·
  exact ⟨by rw [ck_ix (by omega) rfl (notF (by assumption)), ix_bad (bneT (by with_reducible assumption))]; rfl, (by repeat (first | with_reducible exact hB | with_reducible exact Below.refl _ _ | with_reducible refine below_al ?_ _ | with_reducible refine below_st ?_ (by first | exact Nat.le_refl _ | exact Nat.le_add_right _ _ | (simp; omega)) _))⟩
 ·
  exact ⟨by rw [ck_ix (by omega) rfl (notF (by assumption)), ix_ok (bneF (by with_reducible assumption)), tx12]; rfl, (by repeat (first | with_reducible exact hB | with_reducible exact Below.refl _ _ | with_reducible refine below_al ?_ _ | with_reducible refine below_st ?_ (by first | exact Nat.le_refl _ | exact Nat.le_add_right _ _ | (simp; omega)) _))⟩
set_option maxRecDepth 100000 in
set_option maxHeartbeats 1000000 in
theorem rck_9 {w0 : World} {A : Option Addr} {n c : Nat} {L : List Cn} (s : ByteArray) (m a b : Int) (hS : Short L) (hn : L.length = n) (hN : n ≤ 100000) (hp : Pool w0 w0.heap.size A L) (w : World) (hb : Below w0.heap.size w0 w) :
  Calls Tryz.prog 116 #[.slice A n c, .agg #[.int .i64 9, .string s, .int .i64 m, .int .i64 a, .int .i64 b]] w fun e w' => e = .returned (.int .i64 (ckE L 9 s m a b)) ∧ Below w.heap.size w w' := by
 have HP := Lib.hid (hp.up hb)
 have HN := Lib.hid hn
 clear hp hb hn
 have hB : Below w.heap.size w w := Below.refl _ _
 have hk : knB 9 = true := rfl
 go_enter Tryz.func116, Tryz.ntmps116
 go_wp2_with (first | (go_at_call 155; refine (known_any _ _).mono ?_; rintro e w1 ⟨rfl, hb1⟩; obtain ⟨hc1, hf1⟩ := bcell hb1; have hz1 := hb1.size; (try simp only [World.size_alloc, World.size_setCell] at hz1); (try have hza : w.heap.size < w1.heap.size := by omega); (try have hzb : w.heap.size + 1 < w1.heap.size := by omega); (try have hzc : w.heap.size + 1 + 1 < w1.heap.size := by omega); (try have hzd : wa.heap.size < w1.heap.size := by omega); (try replace hR := (hb1.block w.heap.size (by first | exact lt_heap hR | (have := lt_heap hR; simp; omega))).trans (by first | with_reducible exact hR | with_reducible exact laid_old hR)); replace hB := below_on (w := w) ((by repeat (first | with_reducible exact hB | with_reducible exact Below.refl _ _ | with_reducible refine below_al ?_ _ | with_reducible refine below_st ?_ (by first | exact Nat.le_refl _ | exact Nat.le_add_right _ _ | (simp; omega)) _))) hb1; clear hb1) | (go_at_call 156; refine (formed_any 9 s m a b _).mono ?_; rintro e w1 ⟨rfl, hb1⟩; obtain ⟨hc1, hf1⟩ := bcell hb1; have hz1 := hb1.size; (try simp only [World.size_alloc, World.size_setCell] at hz1); (try have hza : w.heap.size < w1.heap.size := by omega); (try have hzb : w.heap.size + 1 < w1.heap.size := by omega); (try have hzc : w.heap.size + 1 + 1 < w1.heap.size := by omega); (try have hzd : wa.heap.size < w1.heap.size := by omega); (try replace hR := (hb1.block w.heap.size (by first | exact lt_heap hR | (have := lt_heap hR; simp; omega))).trans (by first | with_reducible exact hR | with_reducible exact laid_old hR)); replace hB := below_on (w := w) ((by repeat (first | with_reducible exact hB | with_reducible exact Below.refl _ _ | with_reducible refine below_al ?_ _ | with_reducible refine below_st ?_ (by first | exact Nat.le_refl _ | exact Nat.le_add_right _ _ | (simp; omega)) _))) hb1; clear hb1) | (go_at_call 157; refine (bth_9 _ _ _ _ HN.out hN HP.out _ (by repeat (first | with_reducible exact hB | with_reducible exact Below.refl _ _ | with_reducible refine below_al ?_ _ | with_reducible refine below_st ?_ (by first | exact Nat.le_refl _ | exact Nat.le_add_right _ _ | (simp; omega)) _))).mono ?_; rintro e w1 ⟨rfl, hb1⟩; obtain ⟨hc1, hf1⟩ := bcell hb1; have hz1 := hb1.size; (try simp only [World.size_alloc, World.size_setCell] at hz1); (try have hza : w.heap.size < w1.heap.size := by omega); (try have hzb : w.heap.size + 1 < w1.heap.size := by omega); (try have hzc : w.heap.size + 1 + 1 < w1.heap.size := by omega); (try have hzd : wa.heap.size < w1.heap.size := by omega); (try replace hR := (hb1.block w.heap.size (by first | exact lt_heap hR | (have := lt_heap hR; simp; omega))).trans (by first | with_reducible exact hR | with_reducible exact laid_old hR)); replace hB := below_on (w := w) ((by repeat (first | with_reducible exact hB | with_reducible exact Below.refl _ _ | with_reducible refine below_al ?_ _ | with_reducible refine below_st ?_ (by first | exact Nat.le_refl _ | exact Nat.le_add_right _ _ | (simp; omega)) _))) hb1; clear hb1) | (go_at_call 158; refine (con_9 _ _ _ _ hS HN.out hN HP.out _ (by repeat (first | with_reducible exact hB | with_reducible exact Below.refl _ _ | with_reducible refine below_al ?_ _ | with_reducible refine below_st ?_ (by first | exact Nat.le_refl _ | exact Nat.le_add_right _ _ | (simp; omega)) _))).mono ?_; rintro e w1 ⟨rfl, hb1⟩; obtain ⟨hc1, hf1⟩ := bcell hb1; have hz1 := hb1.size; (try simp only [World.size_alloc, World.size_setCell] at hz1); (try have hza : w.heap.size < w1.heap.size := by omega); (try have hzb : w.heap.size + 1 < w1.heap.size := by omega); (try have hzc : w.heap.size + 1 + 1 < w1.heap.size := by omega); (try have hzd : wa.heap.size < w1.heap.size := by omega); (try replace hR := (hb1.block w.heap.size (by first | exact lt_heap hR | (have := lt_heap hR; simp; omega))).trans (by first | with_reducible exact hR | with_reducible exact laid_old hR)); replace hB := below_on (w := w) ((by repeat (first | with_reducible exact hB | with_reducible exact Below.refl _ _ | with_reducible refine below_al ?_ _ | with_reducible refine below_st ?_ (by first | exact Nat.le_refl _ | exact Nat.le_add_right _ _ | (simp; omega)) _))) hb1; clear hb1))
 all_goals go_ret
 ·
  exact ⟨by rw [ck_mal rfl (notT (by assumption))]; rfl, (by repeat (first | with_reducible exact hB | with_reducible exact Below.refl _ _ | with_reducible refine below_al ?_ _ | with_reducible refine below_st ?_ (by first | exact Nat.le_refl _ | exact Nat.le_add_right _ _ | (simp; omega)) _))⟩
 ·
  exact ⟨by rw [ck_ix (by omega) rfl (notF (by assumption)), ix_bad (bneT (by with_reducible assumption))]; rfl, (by repeat (first | with_reducible exact hB | with_reducible exact Below.refl _ _ | with_reducible refine below_al ?_ _ | with_reducible refine below_st ?_ (by first | exact Nat.le_refl _ | exact Nat.le_add_right _ _ | (simp; omega)) _))⟩
 ·
  exact ⟨by rw [ck_ix (by omega) rfl (notF (by assumption)), ix_ok (bneF (by with_reducible assumption)), txm (by omega)]; rfl, (by repeat (first | with_reducible exact hB | with_reducible exact Below.refl _ _ | with_reducible refine below_al ?_ _ | with_reducible refine below_st ?_ (by first | exact Nat.le_refl _ | exact Nat.le_add_right _ _ | (simp; omega)) _))⟩
set_option maxRecDepth 100000 in
set_option maxHeartbeats 1000000 in
theorem rck_10 {w0 : World} {A : Option Addr} {n c : Nat} {L : List Cn} (s : ByteArray) (m a b : Int) (hS : Short L) (hn : L.length = n) (hN : n ≤ 100000) (hp : Pool w0 w0.heap.size A L) (w : World) (hb : Below w0.heap.size w0 w) :
  Calls Tryz.prog 116 #[.slice A n c, .agg #[.int .i64 10, .string s, .int .i64 m, .int .i64 a, .int .i64 b]] w fun e w' => e = .returned (.int .i64 (ckE L 10 s m a b)) ∧ Below w.heap.size w w' := by
 have HP := Lib.hid (hp.up hb)
 have HN := Lib.hid hn
 clear hp hb hn
 have hB : Below w.heap.size w w := Below.refl _ _
 have hk : knB 10 = true := rfl
 go_enter Tryz.func116, Tryz.ntmps116
 go_wp2_with (first | (go_at_call 155; refine (known_any _ _).mono ?_; rintro e w1 ⟨rfl, hb1⟩; obtain ⟨hc1, hf1⟩ := bcell hb1; have hz1 := hb1.size; (try simp only [World.size_alloc, World.size_setCell] at hz1); (try have hza : w.heap.size < w1.heap.size := by omega); (try have hzb : w.heap.size + 1 < w1.heap.size := by omega); (try have hzc : w.heap.size + 1 + 1 < w1.heap.size := by omega); (try have hzd : wa.heap.size < w1.heap.size := by omega); (try replace hR := (hb1.block w.heap.size (by first | exact lt_heap hR | (have := lt_heap hR; simp; omega))).trans (by first | with_reducible exact hR | with_reducible exact laid_old hR)); replace hB := below_on (w := w) ((by repeat (first | with_reducible exact hB | with_reducible exact Below.refl _ _ | with_reducible refine below_al ?_ _ | with_reducible refine below_st ?_ (by first | exact Nat.le_refl _ | exact Nat.le_add_right _ _ | (simp; omega)) _))) hb1; clear hb1) | (go_at_call 156; refine (formed_any 10 s m a b _).mono ?_; rintro e w1 ⟨rfl, hb1⟩; obtain ⟨hc1, hf1⟩ := bcell hb1; have hz1 := hb1.size; (try simp only [World.size_alloc, World.size_setCell] at hz1); (try have hza : w.heap.size < w1.heap.size := by omega); (try have hzb : w.heap.size + 1 < w1.heap.size := by omega); (try have hzc : w.heap.size + 1 + 1 < w1.heap.size := by omega); (try have hzd : wa.heap.size < w1.heap.size := by omega); (try replace hR := (hb1.block w.heap.size (by first | exact lt_heap hR | (have := lt_heap hR; simp; omega))).trans (by first | with_reducible exact hR | with_reducible exact laid_old hR)); replace hB := below_on (w := w) ((by repeat (first | with_reducible exact hB | with_reducible exact Below.refl _ _ | with_reducible refine below_al ?_ _ | with_reducible refine below_st ?_ (by first | exact Nat.le_refl _ | exact Nat.le_add_right _ _ | (simp; omega)) _))) hb1; clear hb1) | (go_at_call 157; refine (bth_10 _ _ _ _ HN.out hN HP.out _ (by repeat (first | with_reducible exact hB | with_reducible exact Below.refl _ _ | with_reducible refine below_al ?_ _ | with_reducible refine below_st ?_ (by first | exact Nat.le_refl _ | exact Nat.le_add_right _ _ | (simp; omega)) _))).mono ?_; rintro e w1 ⟨rfl, hb1⟩; obtain ⟨hc1, hf1⟩ := bcell hb1; have hz1 := hb1.size; (try simp only [World.size_alloc, World.size_setCell] at hz1); (try have hza : w.heap.size < w1.heap.size := by omega); (try have hzb : w.heap.size + 1 < w1.heap.size := by omega); (try have hzc : w.heap.size + 1 + 1 < w1.heap.size := by omega); (try have hzd : wa.heap.size < w1.heap.size := by omega); (try replace hR := (hb1.block w.heap.size (by first | exact lt_heap hR | (have := lt_heap hR; simp; omega))).trans (by first | with_reducible exact hR | with_reducible exact laid_old hR)); replace hB := below_on (w := w) ((by repeat (first | with_reducible exact hB | with_reducible exact Below.refl _ _ | with_reducible refine below_al ?_ _ | with_reducible refine below_st ?_ (by first | exact Nat.le_refl _ | exact Nat.le_add_right _ _ | (simp; omega)) _))) hb1; clear hb1) | (go_at_call 158; refine (con_10 _ _ _ _ hS HN.out hN HP.out _ (by repeat (first | with_reducible exact hB | with_reducible exact Below.refl _ _ | with_reducible refine below_al ?_ _ | with_reducible refine below_st ?_ (by first | exact Nat.le_refl _ | exact Nat.le_add_right _ _ | (simp; omega)) _))).mono ?_; rintro e w1 ⟨rfl, hb1⟩; obtain ⟨hc1, hf1⟩ := bcell hb1; have hz1 := hb1.size; (try simp only [World.size_alloc, World.size_setCell] at hz1); (try have hza : w.heap.size < w1.heap.size := by omega); (try have hzb : w.heap.size + 1 < w1.heap.size := by omega); (try have hzc : w.heap.size + 1 + 1 < w1.heap.size := by omega); (try have hzd : wa.heap.size < w1.heap.size := by omega); (try replace hR := (hb1.block w.heap.size (by first | exact lt_heap hR | (have := lt_heap hR; simp; omega))).trans (by first | with_reducible exact hR | with_reducible exact laid_old hR)); replace hB := below_on (w := w) ((by repeat (first | with_reducible exact hB | with_reducible exact Below.refl _ _ | with_reducible refine below_al ?_ _ | with_reducible refine below_st ?_ (by first | exact Nat.le_refl _ | exact Nat.le_add_right _ _ | (simp; omega)) _))) hb1; clear hb1))
 all_goals go_ret
 ·
  exact ⟨by rw [ck_mal rfl (notT (by assumption))]; rfl, (by repeat (first | with_reducible exact hB | with_reducible exact Below.refl _ _ | with_reducible refine below_al ?_ _ | with_reducible refine below_st ?_ (by first | exact Nat.le_refl _ | exact Nat.le_add_right _ _ | (simp; omega)) _))⟩
 ·
  exact ⟨by rw [ck_ix (by omega) rfl (notF (by assumption)), ix_bad (bneT (by with_reducible assumption))]; rfl, (by repeat (first | with_reducible exact hB | with_reducible exact Below.refl _ _ | with_reducible refine below_al ?_ _ | with_reducible refine below_st ?_ (by first | exact Nat.le_refl _ | exact Nat.le_add_right _ _ | (simp; omega)) _))⟩
 ·
  exact ⟨by rw [ck_ix (by omega) rfl (notF (by assumption)), ix_ok (bneF (by with_reducible assumption)), txm (by omega)]; rfl, (by repeat (first | with_reducible exact hB | with_reducible exact Below.refl _ _ | with_reducible refine below_al ?_ _ | with_reducible refine below_st ?_ (by first | exact Nat.le_refl _ | exact Nat.le_add_right _ _ | (simp; omega)) _))⟩
set_option maxRecDepth 100000 in
set_option maxHeartbeats 1000000 in
theorem rck_11 {w0 : World} {A : Option Addr} {n c : Nat} {L : List Cn} (s : ByteArray) (m a b : Int) (hS : Short L) (hn : L.length = n) (hN : n ≤ 100000) (hp : Pool w0 w0.heap.size A L) (w : World) (hb : Below w0.heap.size w0 w) :
  Calls Tryz.prog 116 #[.slice A n c, .agg #[.int .i64 11, .string s, .int .i64 m, .int .i64 a, .int .i64 b]] w fun e w' => e = .returned (.int .i64 (ckE L 11 s m a b)) ∧ Below w.heap.size w w' := by
 have HP := Lib.hid (hp.up hb)
 have HN := Lib.hid hn
 clear hp hb hn
 have hB : Below w.heap.size w w := Below.refl _ _
 have hk : knB 11 = true := rfl
 go_enter Tryz.func116, Tryz.ntmps116
 go_wp2_with (first | (go_at_call 155; refine (known_any _ _).mono ?_; rintro e w1 ⟨rfl, hb1⟩; obtain ⟨hc1, hf1⟩ := bcell hb1; have hz1 := hb1.size; (try simp only [World.size_alloc, World.size_setCell] at hz1); (try have hza : w.heap.size < w1.heap.size := by omega); (try have hzb : w.heap.size + 1 < w1.heap.size := by omega); (try have hzc : w.heap.size + 1 + 1 < w1.heap.size := by omega); (try have hzd : wa.heap.size < w1.heap.size := by omega); (try replace hR := (hb1.block w.heap.size (by first | exact lt_heap hR | (have := lt_heap hR; simp; omega))).trans (by first | with_reducible exact hR | with_reducible exact laid_old hR)); replace hB := below_on (w := w) ((by repeat (first | with_reducible exact hB | with_reducible exact Below.refl _ _ | with_reducible refine below_al ?_ _ | with_reducible refine below_st ?_ (by first | exact Nat.le_refl _ | exact Nat.le_add_right _ _ | (simp; omega)) _))) hb1; clear hb1) | (go_at_call 156; refine (formed_any 11 s m a b _).mono ?_; rintro e w1 ⟨rfl, hb1⟩; obtain ⟨hc1, hf1⟩ := bcell hb1; have hz1 := hb1.size; (try simp only [World.size_alloc, World.size_setCell] at hz1); (try have hza : w.heap.size < w1.heap.size := by omega); (try have hzb : w.heap.size + 1 < w1.heap.size := by omega); (try have hzc : w.heap.size + 1 + 1 < w1.heap.size := by omega); (try have hzd : wa.heap.size < w1.heap.size := by omega); (try replace hR := (hb1.block w.heap.size (by first | exact lt_heap hR | (have := lt_heap hR; simp; omega))).trans (by first | with_reducible exact hR | with_reducible exact laid_old hR)); replace hB := below_on (w := w) ((by repeat (first | with_reducible exact hB | with_reducible exact Below.refl _ _ | with_reducible refine below_al ?_ _ | with_reducible refine below_st ?_ (by first | exact Nat.le_refl _ | exact Nat.le_add_right _ _ | (simp; omega)) _))) hb1; clear hb1) | (go_at_call 157; refine (bth_11 _ _ _ _ HN.out hN HP.out _ (by repeat (first | with_reducible exact hB | with_reducible exact Below.refl _ _ | with_reducible refine below_al ?_ _ | with_reducible refine below_st ?_ (by first | exact Nat.le_refl _ | exact Nat.le_add_right _ _ | (simp; omega)) _))).mono ?_; rintro e w1 ⟨rfl, hb1⟩; obtain ⟨hc1, hf1⟩ := bcell hb1; have hz1 := hb1.size; (try simp only [World.size_alloc, World.size_setCell] at hz1); (try have hza : w.heap.size < w1.heap.size := by omega); (try have hzb : w.heap.size + 1 < w1.heap.size := by omega); (try have hzc : w.heap.size + 1 + 1 < w1.heap.size := by omega); (try have hzd : wa.heap.size < w1.heap.size := by omega); (try replace hR := (hb1.block w.heap.size (by first | exact lt_heap hR | (have := lt_heap hR; simp; omega))).trans (by first | with_reducible exact hR | with_reducible exact laid_old hR)); replace hB := below_on (w := w) ((by repeat (first | with_reducible exact hB | with_reducible exact Below.refl _ _ | with_reducible refine below_al ?_ _ | with_reducible refine below_st ?_ (by first | exact Nat.le_refl _ | exact Nat.le_add_right _ _ | (simp; omega)) _))) hb1; clear hb1) | (go_at_call 158; refine (con_11 _ _ _ _ hS HN.out hN HP.out _ (by repeat (first | with_reducible exact hB | with_reducible exact Below.refl _ _ | with_reducible refine below_al ?_ _ | with_reducible refine below_st ?_ (by first | exact Nat.le_refl _ | exact Nat.le_add_right _ _ | (simp; omega)) _))).mono ?_; rintro e w1 ⟨rfl, hb1⟩; obtain ⟨hc1, hf1⟩ := bcell hb1; have hz1 := hb1.size; (try simp only [World.size_alloc, World.size_setCell] at hz1); (try have hza : w.heap.size < w1.heap.size := by omega); (try have hzb : w.heap.size + 1 < w1.heap.size := by omega); (try have hzc : w.heap.size + 1 + 1 < w1.heap.size := by omega); (try have hzd : wa.heap.size < w1.heap.size := by omega); (try replace hR := (hb1.block w.heap.size (by first | exact lt_heap hR | (have := lt_heap hR; simp; omega))).trans (by first | with_reducible exact hR | with_reducible exact laid_old hR)); replace hB := below_on (w := w) ((by repeat (first | with_reducible exact hB | with_reducible exact Below.refl _ _ | with_reducible refine below_al ?_ _ | with_reducible refine below_st ?_ (by first | exact Nat.le_refl _ | exact Nat.le_add_right _ _ | (simp; omega)) _))) hb1; clear hb1))
 all_goals go_ret
 ·
  exact ⟨by rw [ck_mal rfl (notT (by assumption))]; rfl, (by repeat (first | with_reducible exact hB | with_reducible exact Below.refl _ _ | with_reducible refine below_al ?_ _ | with_reducible refine below_st ?_ (by first | exact Nat.le_refl _ | exact Nat.le_add_right _ _ | (simp; omega)) _))⟩
 ·
  exact ⟨by rw [ck_ix (by omega) rfl (notF (by assumption)), ix_bad (bneT (by with_reducible assumption))]; rfl, (by repeat (first | with_reducible exact hB | with_reducible exact Below.refl _ _ | with_reducible refine below_al ?_ _ | with_reducible refine below_st ?_ (by first | exact Nat.le_refl _ | exact Nat.le_add_right _ _ | (simp; omega)) _))⟩
 ·
  exact ⟨by rw [ck_ix (by omega) rfl (notF (by assumption)), ix_ok (bneF (by with_reducible assumption)), txm (by omega)]; rfl, (by repeat (first | with_reducible exact hB | with_reducible exact Below.refl _ _ | with_reducible refine below_al ?_ _ | with_reducible refine below_st ?_ (by first | exact Nat.le_refl _ | exact Nat.le_add_right _ _ | (simp; omega)) _))⟩
set_option maxRecDepth 100000 in
set_option maxHeartbeats 1000000 in
theorem rck_u {w0 : World} {A : Option Addr} {n c : Nat} {L : List Cn} (t : Int) (hk : knB t = false) (s : ByteArray) (m a b : Int) (hS : Short L) (hn : L.length = n) (hN : n ≤ 100000) (hp : Pool w0 w0.heap.size A L) (w : World) (hb : Below w0.heap.size w0 w) :
  Calls Tryz.prog 116 #[.slice A n c, .agg #[.int .i64 t, .string s, .int .i64 m, .int .i64 a, .int .i64 b]] w fun e w' => e = .returned (.int .i64 (ckE L t s m a b)) ∧ Below w.heap.size w w' := by
 have HP := Lib.hid (hp.up hb)
 have HN := Lib.hid hn
 clear hp hb hn
 have hB : Below w.heap.size w w := Below.refl _ _
 go_enter Tryz.func116, Tryz.ntmps116
 go_wp2_with (go_at_call 155; refine (known_any _ _).mono ?_; rintro e w1 ⟨rfl, hb1⟩; obtain ⟨hc1, hf1⟩ := bcell hb1; have hz1 := hb1.size; (try simp only [World.size_alloc, World.size_setCell] at hz1); (try have hza : w.heap.size < w1.heap.size := by omega); (try have hzb : w.heap.size + 1 < w1.heap.size := by omega); (try have hzc : w.heap.size + 1 + 1 < w1.heap.size := by omega); (try have hzd : wa.heap.size < w1.heap.size := by omega); (try replace hR := (hb1.block w.heap.size (by first | exact lt_heap hR | (have := lt_heap hR; simp; omega))).trans (by first | with_reducible exact hR | with_reducible exact laid_old hR)); replace hB := below_on (w := w) ((by repeat (first | with_reducible exact hB | with_reducible exact Below.refl _ _ | with_reducible refine below_al ?_ _ | with_reducible refine below_st ?_ (by first | exact Nat.le_refl _ | exact Nat.le_add_right _ _ | (simp; omega)) _))) hb1; clear hb1)
 go_ret
 exact ⟨by rw [ck_un hk]; rfl, (by repeat (first | with_reducible exact hB | with_reducible exact Below.refl _ _ | with_reducible refine below_al ?_ _ | with_reducible refine below_st ?_ (by first | exact Nat.le_refl _ | exact Nat.le_add_right _ _ | (simp; omega)) _))⟩
set_option maxRecDepth 100000 in
set_option maxHeartbeats 1000000 in
theorem rck_any {w0 : World} {A : Option Addr} {n c : Nat} {L : List Cn} (t : Int) (s : ByteArray) (m a b : Int) (hS : Short L) (hn : L.length = n) (hN : n ≤ 100000) (hp : Pool w0 w0.heap.size A L) (w : World) (hb : Below w0.heap.size w0 w) :
  Calls Tryz.prog 116 #[.slice A n c, .agg #[.int .i64 t, .string s, .int .i64 m, .int .i64 a, .int .i64 b]] w fun e w' => e = .returned (.int .i64 (ckE L t s m a b)) ∧ Below w.heap.size w w' := by
 cases hk : knB t with
 | false => exact rck_u t hk s m a b hS hn hN hp w hb
 | true =>
  rcases kn_cases hk with rfl | rfl | rfl | rfl | rfl | rfl | rfl | rfl | rfl
  ·
   exact rck_1 s m a b hS hn hN hp w hb
  ·
   exact rck_3 s m a b hS hn hN hp w hb
  ·
   exact rck_5 s m a b hS hn hN hp w hb
  ·
   exact rck_7 s m a b hS hn hN hp w hb
  ·
   exact rck_8 s m a b hS hn hN hp w hb
  ·
   exact rck_12 s m a b hS hn hN hp w hb
  ·
   exact rck_9 s m a b hS hn hN hp w hb
  ·
   exact rck_10 s m a b hS hn hN hp w hb
  ·
   exact rck_11 s m a b hS hn hN hp w hb
end Go.Proofs.YtalejaklggnnpaaGreatDoor
/- PoolCheck -/
/- Layer 5: Check, in the package and in its reference. -/
namespace Go.Proofs.YtalejaklggnnpaaGreatDoor
open Go.ChangeShapes Go.WideShapes Go.ChangeAt Go.RowKit Go.PlainAid
set_option linter.unusedSimpArgs false
set_option linter.unusedVariables false
def ck (L : List Cn) (c : Cn) : Int := ckE L c.t c.s c.n c.a c.b
def badN (L : List Cn) : Nat := L.findIdx (fun c => ck L c != 0)
def ch (L : List Cn) : Int × Int := if 1000 < L.length then (0, 5) else if badN L < L.length then ((badN L : Int) + 1, ck L (L.getD (badN L) cnZ)) else (0, 0)
def chI (L : List Cn) : Int := (ch L).1
def chE (L : List Cn) : Int := (ch L).2
theorem ch_1 {L : List Cn} (h : 1000 < L.length) : chI L = 0 ∧ chE L = 5 := by unfold chI chE ch; rw [if_pos h]; exact ⟨rfl, rfl⟩
theorem ch_2 {L : List Cn} (h : ¬ 1000 < L.length) (h1 : badN L < L.length) : chI L = (badN L : Int) + 1 ∧ chE L = ck L (L.getD (badN L) cnZ) := by unfold chI chE ch; rw [if_neg h, if_pos h1]; exact ⟨rfl, rfl⟩
theorem ch_3 {L : List Cn} (h : ¬ 1000 < L.length) (h1 : ¬ badN L < L.length) : chI L = 0 ∧ chE L = 0 := by unfold chI chE ch; rw [if_neg h, if_neg h1]; exact ⟨rfl, rfl⟩
theorem bad_le (L : List Cn) : badN L ≤ L.length := List.findIdx_le_length
theorem bad_here {L : List Cn} {k : Nat} {p : Cn} (h : k ≤ badN L) (hk : L[k]? = some p) (hp : ¬ ck L p = 0) : badN L = k := by
 have hl : k < L.length := by
  rcases Nat.lt_or_ge k L.length with h1 | h1
  ·
   exact h1
  ·
   rw [List.getElem?_eq_none h1] at hk; cases hk
 rcases Nat.lt_or_ge k (badN L) with h1 | h1
 ·
  exfalso
  have := List.not_of_lt_findIdx (p := fun c => ck L c != 0) h1
  rw [List.getElem?_eq_getElem hl] at hk
  have hx := Option.some.inj hk
  simp only [hx] at this
  simp at this
  exact hp this
 ·
  exact Nat.le_antisymm h1 h
theorem bad_next {L : List Cn} {k : Nat} {p : Cn} (h : k ≤ badN L) (hk : L[k]? = some p) (hp : ck L p = 0) : k + 1 ≤ badN L := by
 have hl : k < L.length := by
  rcases Nat.lt_or_ge k L.length with h1 | h1
  ·
   exact h1
  ·
   rw [List.getElem?_eq_none h1] at hk; cases hk
 rcases Nat.lt_or_ge k (badN L) with h1 | h1
 ·
  exact h1
 ·
  exfalso
  have e : badN L = k := Nat.le_antisymm h1 h
  have hlt : badN L < L.length := by rw [e]; exact hl
  have := List.findIdx_getElem (p := fun c => ck L c != 0) (w := hlt)
  rw [List.getElem?_eq_getElem hl] at hk
  have hx := Option.some.inj hk
  have e' : List.findIdx (fun c => ck L c != 0) L = k := e
  simp only [e'] at this
  rw [hx, hp] at this
  cases this
set_option maxRecDepth 100000 in
set_option maxHeartbeats 1000000 in
theorem check_any {w0 : World} {A : Option Addr} {n c : Nat} {L : List Cn} (hS : Fits L) (hn : L.length = n) (hN : n ≤ 100000) (hp : Pool w0 w0.heap.size A L) (w : World) (hb : Below w0.heap.size w0 w) :
  Calls Tryz.prog 57 #[.slice A n c] w fun e w' => e = .returned (.tuple #[.int .i64 (chI L), .int .i64 (chE L)]) ∧ Below w.heap.size w w' := by
 have HP := Lib.hid (hp.up hb)
 have HN := Lib.hid hn
 clear hp hb hn
 have hB : Below w.heap.size w w := Below.refl _ _
 by_cases h1 : 1000 < L.length
 ·
  have g := ch_1 h1
  rw [HN.out] at h1
  rw [g.1, g.2]
  go_enter Tryz.func57, Tryz.ntmps57
  go_wp2
  go_ret2
  exact ⟨rfl, (by repeat (first | with_reducible exact hB | with_reducible exact Below.refl _ _ | with_reducible refine below_al ?_ _ | with_reducible refine below_st ?_ (by first | exact Nat.le_refl _ | exact Nat.le_add_right _ _ | (simp; omega)) _))⟩
 ·
  have H1 := Lib.hid h1
  rw [HN.out] at h1
  go_enter Tryz.func57, Tryz.ntmps57
  go_wp2
  go_loopw [12] (fun i wr => ∃ k : Nat, k ≤ badN L ∧ i = .int .i64 k ∧ Below w.heap.size w wr) (fun i _ => n - (intOf i).toNat)
  case atStart => exact ⟨0, Nat.zero_le _, rfl, hB⟩
  case round =>
   obtain ⟨k, hk, rfl, hBr⟩ := hrel
   have hle := bad_le L
   rw [HN.out] at hle
   by_cases hlt : k < n
   ·
    have hp : ∃ p, L[k]? = some p := ⟨L[k]'(by rw [HN.out]; exact hlt), List.getElem?_eq_getElem _⟩
    obtain ⟨p, hp⟩ := hp
    have HPW := Lib.hid (HP.out.up hBr)
    rcases HPW.out with h0 | ⟨b, o, rfl, hg, hcell⟩
    ·
     rw [h0] at hp; cases hp
    ·
     obtain ⟨a0, a1, a2, a3, a4⟩ := hcell k _ hp
     clear hcell
     have hk0 : (0 : Int) ≤ (k : Int) := by omega
     have hk1 : (k : Int) < (n : Int) := by omega
     have HK := Lib.hid hk
     have HPK := Lib.hid hp
     clear hle hk hp
     go_wp2_with (go_at_call 100; refine (cck_any p.t p.s p.n p.a p.b hS HN.out hN HPW.out _ (by first | exact Below.refl _ _ | exact below_al (Below.refl _ _) _)).mono ?_; rintro e w1 ⟨rfl, hb1⟩; have hB2 := below_on (w := w) (by first | exact hBr | exact below_al hBr _) hb1; clear hb1)
     ·
      have hck : ¬ ck L p = 0 := bneT (by assumption)
      have hI := bad_here HK.out HPK.out hck
      have g := Lib.hid (ch_2 H1.out (by rw [hI, HN.out]; exact hlt))
      go_ret2
      exact ⟨by rw [g.out.1, g.out.2, hI, List.getD_eq_getElem?_getD, HPK.out]; rfl, hB2⟩
     ·
      have hck : ck L p = 0 := bneF (by assumption)
      go_roundw
      case rel => exact ⟨k + 1, bad_next HK.out HPK.out hck, by go_num, hB2⟩
      case measure => simp [intOf]; omega
   ·
    obtain rfl : k = n := by omega
    have g := Lib.hid (ch_3 H1.out (by rw [HN.out]; omega))
    go_wp2
    go_ret2
    exact ⟨by rw [g.out.1, g.out.2]; rfl, hBr⟩
set_option maxRecDepth 100000 in
set_option maxHeartbeats 1000000 in
theorem rcheck_any {w0 : World} {A : Option Addr} {n c : Nat} {L : List Cn} (hS : Short L) (hn : L.length = n) (hN : n ≤ 100000) (hp : Pool w0 w0.heap.size A L) (w : World) (hb : Below w0.heap.size w0 w) :
  Calls Tryz.prog 67 #[.slice A n c] w fun e w' => e = .returned (.tuple #[.int .i64 (chI L), .int .i64 (chE L)]) ∧ Below w.heap.size w w' := by
 have HP := Lib.hid (hp.up hb)
 have HN := Lib.hid hn
 clear hp hb hn
 have hB : Below w.heap.size w w := Below.refl _ _
 by_cases h1 : 1000 < L.length
 ·
  have g := ch_1 h1
  rw [HN.out] at h1
  rw [g.1, g.2]
  go_enter Tryz.func67, Tryz.ntmps67
  go_wp2
  go_ret2
  exact ⟨rfl, (by repeat (first | with_reducible exact hB | with_reducible exact Below.refl _ _ | with_reducible refine below_al ?_ _ | with_reducible refine below_st ?_ (by first | exact Nat.le_refl _ | exact Nat.le_add_right _ _ | (simp; omega)) _))⟩
 ·
  have H1 := Lib.hid h1
  rw [HN.out] at h1
  go_enter Tryz.func67, Tryz.ntmps67
  go_wp2
  go_loopw [4] (fun i wr => ∃ k : Nat, k ≤ badN L ∧ i = .int .i64 k ∧ Below w.heap.size w wr) (fun i _ => n - (intOf i).toNat)
  case atStart => exact ⟨0, Nat.zero_le _, rfl, hB⟩
  case round =>
   obtain ⟨k, hk, rfl, hBr⟩ := hrel
   have hle := bad_le L
   rw [HN.out] at hle
   by_cases hlt : k < n
   ·
    have hp : ∃ p, L[k]? = some p := ⟨L[k]'(by rw [HN.out]; exact hlt), List.getElem?_eq_getElem _⟩
    obtain ⟨p, hp⟩ := hp
    have HPW := Lib.hid (HP.out.up hBr)
    rcases HPW.out with h0 | ⟨b, o, rfl, hg, hcell⟩
    ·
     rw [h0] at hp; cases hp
    ·
     obtain ⟨a0, a1, a2, a3, a4⟩ := hcell k _ hp
     clear hcell
     have hk0 : (0 : Int) ≤ (k : Int) := by omega
     have hk1 : (k : Int) < (n : Int) := by omega
     have HK := Lib.hid hk
     have HPK := Lib.hid hp
     clear hle hk hp
     go_wp2_with (go_at_call 116; refine (rck_any p.t p.s p.n p.a p.b hS HN.out hN HPW.out _ (by first | exact Below.refl _ _ | exact below_al (Below.refl _ _) _)).mono ?_; rintro e w1 ⟨rfl, hb1⟩; have hB2 := below_on (w := w) (by first | exact hBr | exact below_al hBr _) hb1; clear hb1)
     ·
      have hck : ¬ ck L p = 0 := bneT (by assumption)
      have hI := bad_here HK.out HPK.out hck
      have g := Lib.hid (ch_2 H1.out (by rw [hI, HN.out]; exact hlt))
      go_ret2
      exact ⟨by rw [g.out.1, g.out.2, hI, List.getD_eq_getElem?_getD, HPK.out]; rfl, hB2⟩
     ·
      have hck : ck L p = 0 := bneF (by assumption)
      go_roundw
      case rel => exact ⟨k + 1, bad_next HK.out HPK.out hck, by go_num, hB2⟩
      case measure => simp [intOf]; omega
   ·
    obtain rfl : k = n := by omega
    have g := Lib.hid (ch_3 H1.out (by rw [HN.out]; omega))
    go_wp2
    go_ret2
    exact ⟨by rw [g.out.1, g.out.2]; rfl, hBr⟩
end Go.Proofs.YtalejaklggnnpaaGreatDoor
/- PoolHas -/
/- Layer 5: what was added can be read; adding it again changes nothing. No walk. -/
namespace Go.Proofs.YtalejaklggnnpaaGreatDoor
set_option linter.unusedSimpArgs false
set_option linter.unusedVariables false
/-- x stands first at the index i -/
def Has (L : List Cn) (x : Cn) (i : Int) : Prop := ixN L x < L.length ∧ i = (ixN L x : Int) + 1
def Pre (L M : List Cn) : Prop := ∃ t, M = L ++ t
theorem Pre.refl (L : List Cn) : Pre L L := ⟨[], by simp⟩
theorem Pre.trans {L M K : List Cn} (h : Pre L M) (k : Pre M K) : Pre L K := by
 obtain ⟨t, rfl⟩ := h
 obtain ⟨u, rfl⟩ := k
 exact ⟨t ++ u, by rw [List.append_assoc]⟩
theorem Pre.len {L M : List Cn} (h : Pre L M) : L.length ≤ M.length := by obtain ⟨t, rfl⟩ := h; simp
theorem Has.pre {L M : List Cn} {x : Cn} {i : Int} (h : Has L x i) (k : Pre L M) : Has M x i := by
 obtain ⟨t, rfl⟩ := k
 have e : ixN (L ++ t) x = ixN L x := by
  unfold ixN
  rw [List.findIdx_append]
  exact if_pos h.1
 refine ⟨by rw [e, List.length_append]; have := h.1; omega, by rw [e]; exact h.2⟩
theorem Has.again {L : List Cn} {x : Cn} {i : Int} (h : Has L x i) : adL L x = L ∧ adI L x = i ∧ adE L x = 0 := by
 obtain ⟨a, b, c⟩ := ad_1 h.1
 exact ⟨a, by rw [b, h.2], c⟩
theorem Has.at {L : List Cn} {x : Cn} {i : Int} (h : Has L x i) : atC L i = x ∧ atE L i = 0 := by
 have hg := List.findIdx_getElem (p := fun c => cnQ c x) (xs := L) (w := h.1)
 have e : L[ixN L x]? = some x := by
  rw [List.getElem?_eq_getElem h.1]
  congr 1
  exact cnQ_iff.1 hg
 have := at_in e
 rw [h.2]
 exact this
end Go.Proofs.YtalejaklggnnpaaGreatDoor
/- PoolValid -/
/- Layer 5: what holds in a valid pool. No walk. -/
namespace Go.Proofs.YtalejaklggnnpaaGreatDoor
set_option linter.unusedSimpArgs false
set_option linter.unusedVariables false
def Valid (L : List Cn) : Prop := ∀ c ∈ L, ck L c = 0
theorem bad_all {L : List Cn} (h : ¬ badN L < L.length) : Valid L := by
 have e : badN L = L.length := Nat.le_antisymm (bad_le L) (by omega)
 unfold badN at e
 rw [List.findIdx_eq_length] at e
 intro c hc
 have := e c hc
 simpa using this
theorem ch_zero {L : List Cn} (h : chE L = 0) : L.length ≤ 1000 ∧ Valid L := by
 by_cases h1 : 1000 < L.length
 ·
  rw [(ch_1 h1).2] at h; cases h
 ·
  refine ⟨by omega, ?_⟩
  by_cases h2 : badN L < L.length
  ·
   rw [(ch_2 h1 h2).2] at h
   have hg := List.findIdx_getElem (p := fun c => ck L c != 0) (xs := L) (w := h2)
   rw [List.getD_eq_getElem?_getD, List.getElem?_eq_getElem h2] at h
   have h' : ck L (L[badN L]'h2) = 0 := h
   have hg' : (ck L (L[badN L]'h2) != 0) = true := hg
   rw [h'] at hg'
   cases hg'
  ·
   exact bad_all h2
/-! ### what a sound constant says -/
theorem ck_parts {L : List Cn} {c : Cn} (h : ck L c = 0) : knB c.t = true ∧ fmB c.t c.s c.n c.a c.b = true := by
 unfold ck at h
 cases hk : knB c.t with
 | false => rw [ck_un hk] at h; cases h
 | true =>
  cases hf : fmB c.t c.s c.n c.a c.b with
  | false => rw [ck_mal hk hf] at h; cases h
  | true => exact ⟨rfl, rfl⟩
theorem ck_idx {L : List Cn} {c : Cn} (h : ck L c = 0) (ht : 7 ≤ c.t) : bxE L c.t c.a c.b = 0 ∧ txE L c.t c.a c.b = 0 := by
 obtain ⟨hk, hf⟩ := ck_parts h
 unfold ck at h
 rw [ck_ix ht hk hf] at h
 by_cases hb : bxE L c.t c.a c.b = 0
 ·
  rw [ix_ok hb] at h; exact ⟨hb, h⟩
 ·
  rw [ix_bad hb] at h; exact absurd h hb
theorem bx12 {L : List Cn} {a b : Int} (h : bxE L 12 a b = 0) : tgE L a 1 = 0 ∧ tgE L b 1 = 0 := by
 by_cases h1 : tgE L a 1 = 0
 ·
  rw [bx12_2 h1] at h; exact ⟨h1, h⟩
 ·
  rw [bx12_1 h1] at h; exact absurd h h1
theorem bxm {L : List Cn} {t a b : Int} (ht : 9 ≤ t ∧ t ≤ 11) (h : bxE L t a b = 0) : tgE L a 7 = 0 ∧ tgE L b 12 = 0 := by
 by_cases h1 : tgE L a 7 = 0
 ·
  rw [bxm_2 ht h1] at h; exact ⟨h1, h⟩
 ·
  rw [bxm_1 ht h1] at h; exact absurd h h1
theorem tg_mem {L : List Cn} {i t : Int} (h : tgE L i t = 0) : tgC L i t ∈ L ∧ (tgC L i t).t = t := by
 obtain ⟨k, p, hi, hl, hg, hc⟩ := tg_here h
 rw [hc]
 refine ⟨List.mem_of_getElem? hg, ?_⟩
 have ha : atE L i = 0 := by
  rcases at_e L i with h1 | h1
  ·
   exact h1
  ·
   rw [(tg_1 (by rw [h1]; decide)).2, h1] at h; cases h
 by_cases h2 : (atC L i).t = t
 ·
  rw [← hc, (tg_3 ha h2).1]; exact h2
 ·
  rw [(tg_2 ha h2).2] at h; cases h
/-- in a valid pool a name and type that stands can be read -/
theorem v_nt {L : List Cn} (hv : Valid L) {i : Int} (h : tgE L i 12 = 0) : ntE L i = 0 := by
 obtain ⟨hm, ht⟩ := tg_mem h
 have hc := ck_idx (hv _ hm) (by rw [ht]; decide)
 rw [ht] at hc
 obtain ⟨h1, h2⟩ := bx12 hc.1
 exact (nt_4 h h1 h2).2.2
theorem v_nm {L : List Cn} (hv : Valid L) {i t : Int} (htt : t = 7 ∨ t = 8) (h : tgE L i t = 0) : nmE L i t = 0 := by
 obtain ⟨hm, ht⟩ := tg_mem h
 have hc := ck_idx (hv _ hm) (by rw [ht]; omega)
 rw [ht] at hc
 have h1 : tgE L (tgC L i t).a 1 = 0 := by
  rcases htt with rfl | rfl
  ·
   have := hc.1; rwa [bx7] at this
  ·
   have := hc.1; rwa [bx8] at this
 rw [(nm_2 h).2]; exact h1
end Go.Proofs.YtalejaklggnnpaaGreatDoor
