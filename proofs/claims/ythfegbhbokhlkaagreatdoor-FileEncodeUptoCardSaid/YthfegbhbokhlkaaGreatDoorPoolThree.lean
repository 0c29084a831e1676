/- Layer 5: NameAndType, MemberRef, in the package and in its reference. -/
import Derived.Test.YthfegbhbokhlkaaGreatDoorPoolTwo
namespace Go.Proofs.YthfegbhbokhlkaaGreatDoor
open Go.ChangeShapes Go.WideShapes Go.ChangeAt Go.RowKit Go.PlainAid
set_option linter.unusedSimpArgs false
set_option linter.unusedVariables false

def ntA (L : List Cn) (i : Int) : Int := (tgC L i 12).a
def ntB (L : List Cn) (i : Int) : Int := (tgC L i 12).b
def nt (L : List Cn) (i : Int) : ByteArray × ByteArray × Int :=
  if tgE L i 12 = 0 then
    if tgE L (tgC L i 12).a 1 = 0 then
      if tgE L (tgC L i 12).b 1 = 0 then ((tgC L (tgC L i 12).a 1).s, (tgC L (tgC L i 12).b 1).s, 0) else (⟨#[]⟩, ⟨#[]⟩, tgE L (tgC L i 12).b 1)
    else (⟨#[]⟩, ⟨#[]⟩, tgE L (tgC L i 12).a 1)
  else (⟨#[]⟩, ⟨#[]⟩, tgE L i 12)
def ntN (L : List Cn) (i : Int) : ByteArray := (nt L i).1
def ntD (L : List Cn) (i : Int) : ByteArray := (nt L i).2.1
def ntE (L : List Cn) (i : Int) : Int := (nt L i).2.2
theorem nt_1 {L : List Cn} {i : Int} (h : ¬ tgE L i 12 = 0) : ntN L i = ⟨#[]⟩ ∧ ntD L i = ⟨#[]⟩ ∧ ntE L i = tgE L i 12 := by unfold ntN ntD ntE nt; rw [if_neg h]; exact ⟨rfl, rfl, rfl⟩
theorem nt_2 {L : List Cn} {i : Int} (h : tgE L i 12 = 0) (h2 : ¬ tgE L (tgC L i 12).a 1 = 0) : ntN L i = ⟨#[]⟩ ∧ ntD L i = ⟨#[]⟩ ∧ ntE L i = tgE L (tgC L i 12).a 1 := by unfold ntN ntD ntE nt; rw [if_pos h, if_neg h2]; exact ⟨rfl, rfl, rfl⟩
theorem nt_3 {L : List Cn} {i : Int} (h : tgE L i 12 = 0) (h2 : tgE L (tgC L i 12).a 1 = 0) (h3 : ¬ tgE L (tgC L i 12).b 1 = 0) : ntN L i = ⟨#[]⟩ ∧ ntD L i = ⟨#[]⟩ ∧ ntE L i = tgE L (tgC L i 12).b 1 := by unfold ntN ntD ntE nt; rw [if_pos h, if_pos h2, if_neg h3]; exact ⟨rfl, rfl, rfl⟩
theorem nt_4 {L : List Cn} {i : Int} (h : tgE L i 12 = 0) (h2 : tgE L (tgC L i 12).a 1 = 0) (h3 : tgE L (tgC L i 12).b 1 = 0) : ntN L i = (tgC L (tgC L i 12).a 1).s ∧ ntD L i = (tgC L (tgC L i 12).b 1).s ∧ ntE L i = 0 := by unfold ntN ntD ntE nt; rw [if_pos h, if_pos h2, if_pos h3]; exact ⟨rfl, rfl, rfl⟩

def mtB (t : Int) : Bool := t == 9 || t == 10 || t == 11
def mr (L : List Cn) (i t : Int) : ByteArray × ByteArray × ByteArray × Int :=
  if atE L i = 0 then
    if mtB t = true ∧ (atC L i).t = t then
      if nmE L (atC L i).a 7 = 0 then
        if ntE L (atC L i).b = 0 then (nmS L (atC L i).a 7, ntN L (atC L i).b, ntD L (atC L i).b, 0) else (⟨#[]⟩, ⟨#[]⟩, ⟨#[]⟩, ntE L (atC L i).b)
      else (⟨#[]⟩, ⟨#[]⟩, ⟨#[]⟩, nmE L (atC L i).a 7)
    else (⟨#[]⟩, ⟨#[]⟩, ⟨#[]⟩, 11)
  else (⟨#[]⟩, ⟨#[]⟩, ⟨#[]⟩, atE L i)
def mrC (L : List Cn) (i t : Int) : ByteArray := (mr L i t).1
def mrN (L : List Cn) (i t : Int) : ByteArray := (mr L i t).2.1
def mrD (L : List Cn) (i t : Int) : ByteArray := (mr L i t).2.2.1
def mrE (L : List Cn) (i t : Int) : Int := (mr L i t).2.2.2
theorem mr_1 {L : List Cn} {i t : Int} (h : ¬ atE L i = 0) : mrC L i t = ⟨#[]⟩ ∧ mrN L i t = ⟨#[]⟩ ∧ mrD L i t = ⟨#[]⟩ ∧ mrE L i t = atE L i := by unfold mrC mrN mrD mrE mr; rw [if_neg h]; exact ⟨rfl, rfl, rfl, rfl⟩
theorem mr_2 {L : List Cn} {i t : Int} (h : atE L i = 0) (h2 : ¬ (mtB t = true ∧ (atC L i).t = t)) : mrC L i t = ⟨#[]⟩ ∧ mrN L i t = ⟨#[]⟩ ∧ mrD L i t = ⟨#[]⟩ ∧ mrE L i t = 11 := by unfold mrC mrN mrD mrE mr; rw [if_pos h, if_neg h2]; exact ⟨rfl, rfl, rfl, rfl⟩
theorem mr_3 {L : List Cn} {i t : Int} (h : atE L i = 0) (h2 : mtB t = true ∧ (atC L i).t = t) (h3 : ¬ nmE L (atC L i).a 7 = 0) : mrC L i t = ⟨#[]⟩ ∧ mrN L i t = ⟨#[]⟩ ∧ mrD L i t = ⟨#[]⟩ ∧ mrE L i t = nmE L (atC L i).a 7 := by unfold mrC mrN mrD mrE mr; rw [if_pos h, if_pos h2, if_neg h3]; exact ⟨rfl, rfl, rfl, rfl⟩
theorem mr_4 {L : List Cn} {i t : Int} (h : atE L i = 0) (h2 : mtB t = true ∧ (atC L i).t = t) (h3 : nmE L (atC L i).a 7 = 0) (h4 : ¬ ntE L (atC L i).b = 0) : mrC L i t = ⟨#[]⟩ ∧ mrN L i t = ⟨#[]⟩ ∧ mrD L i t = ⟨#[]⟩ ∧ mrE L i t = ntE L (atC L i).b := by unfold mrC mrN mrD mrE mr; rw [if_pos h, if_pos h2, if_pos h3, if_neg h4]; exact ⟨rfl, rfl, rfl, rfl⟩
theorem mr_5 {L : List Cn} {i t : Int} (h : atE L i = 0) (h2 : mtB t = true ∧ (atC L i).t = t) (h3 : nmE L (atC L i).a 7 = 0) (h4 : ntE L (atC L i).b = 0) : mrC L i t = nmS L (atC L i).a 7 ∧ mrN L i t = ntN L (atC L i).b ∧ mrD L i t = ntD L (atC L i).b ∧ mrE L i t = 0 := by unfold mrC mrN mrD mrE mr; rw [if_pos h, if_pos h2, if_pos h3, if_pos h4]; exact ⟨rfl, rfl, rfl, rfl⟩

theorem nt_any {w0 : World} {A : Option Addr} {n c : Nat} {L : List Cn} (i : Int) (hn : L.length = n) (hN : n ≤ 100000) (hp : Pool w0 w0.heap.size A L) (w : World) (hb : Below w0.heap.size w0 w) :
    Calls Tryz.prog 90 #[.slice A n c, .int .i64 i] w fun e w' => e = .returned (.tuple #[.string (ntN L i), .string (ntD L i), .int .i64 (ntE L i)]) ∧ Below w.heap.size w w' := by
  have HP := Lib.hid (hp.up hb)
  have HN := Lib.hid hn
  clear hp hb hn
  have hB : Below w.heap.size w w := Below.refl _ _
  go_enter Tryz.func90, Tryz.ntmps90
  go_wp2_with (first | (go_at_call 77; refine (tg_any _ _ HN.out hN HP.out _ (by repeat (first | with_reducible exact hB | with_reducible exact Below.refl _ _ | with_reducible refine below_al ?_ _ | with_reducible refine below_st ?_ (by first | exact Nat.le_refl _ | exact Nat.le_add_right _ _ | (simp; omega)) _))).mono ?_; rintro e w1 ⟨rfl, hb1⟩; obtain ⟨hc1, hf1⟩ := bcell hb1; have hz1 := hb1.size; (try simp only [World.size_alloc, World.size_setCell] at hz1); (try have hza : w.heap.size < w1.heap.size := by omega); (try have hzb : w.heap.size + 1 < w1.heap.size := by omega); (try have hzc : w.heap.size + 1 + 1 < w1.heap.size := by omega); (try have hzd : wa.heap.size < w1.heap.size := by omega); (try replace hR := (hb1.block w.heap.size (by first | exact lt_heap hR | (have := lt_heap hR; simp; omega))).trans (by first | with_reducible exact hR | with_reducible exact laid_old hR)); replace hB := below_on (w := w) ((by repeat (first | with_reducible exact hB | with_reducible exact Below.refl _ _ | with_reducible refine below_al ?_ _ | with_reducible refine below_st ?_ (by first | exact Nat.le_refl _ | exact Nat.le_add_right _ _ | (simp; omega)) _))) hb1; clear hb1) | (go_at_call 101; refine (utf_any _ HN.out hN HP.out _ (by repeat (first | with_reducible exact hB | with_reducible exact Below.refl _ _ | with_reducible refine below_al ?_ _ | with_reducible refine below_st ?_ (by first | exact Nat.le_refl _ | exact Nat.le_add_right _ _ | (simp; omega)) _))).mono ?_; rintro e w1 ⟨rfl, hb1⟩; obtain ⟨hc1, hf1⟩ := bcell hb1; have hz1 := hb1.size; (try simp only [World.size_alloc, World.size_setCell] at hz1); (try have hza : w.heap.size < w1.heap.size := by omega); (try have hzb : w.heap.size + 1 < w1.heap.size := by omega); (try have hzc : w.heap.size + 1 + 1 < w1.heap.size := by omega); (try have hzd : wa.heap.size < w1.heap.size := by omega); (try replace hR := (hb1.block w.heap.size (by first | exact lt_heap hR | (have := lt_heap hR; simp; omega))).trans (by first | with_reducible exact hR | with_reducible exact laid_old hR)); replace hB := below_on (w := w) ((by repeat (first | with_reducible exact hB | with_reducible exact Below.refl _ _ | with_reducible refine below_al ?_ _ | with_reducible refine below_st ?_ (by first | exact Nat.le_refl _ | exact Nat.le_add_right _ _ | (simp; omega)) _))) hb1; clear hb1))
  all_goals go_ret3
  · have g := nt_1 (L := L) (i := i) (bneT (by assumption))
    exact ⟨by rw [g.1, g.2.1, g.2.2]; rfl, (by repeat (first | with_reducible exact hB | with_reducible exact Below.refl _ _ | with_reducible refine below_al ?_ _ | with_reducible refine below_st ?_ (by first | exact Nat.le_refl _ | exact Nat.le_add_right _ _ | (simp; omega)) _))⟩
  · have g := nt_2 (L := L) (i := i) (bneF (by assumption)) (bneT (by assumption))
    exact ⟨by rw [g.1, g.2.1, g.2.2]; rfl, (by repeat (first | with_reducible exact hB | with_reducible exact Below.refl _ _ | with_reducible refine below_al ?_ _ | with_reducible refine below_st ?_ (by first | exact Nat.le_refl _ | exact Nat.le_add_right _ _ | (simp; omega)) _))⟩
  · have g := nt_3 (L := L) (i := i) (bneF (by assumption)) (bneF (by assumption)) (bneT (by assumption))
    exact ⟨by rw [g.1, g.2.1, g.2.2]; rfl, (by repeat (first | with_reducible exact hB | with_reducible exact Below.refl _ _ | with_reducible refine below_al ?_ _ | with_reducible refine below_st ?_ (by first | exact Nat.le_refl _ | exact Nat.le_add_right _ _ | (simp; omega)) _))⟩
  · have g := nt_4 (L := L) (i := i) (bneF (by assumption)) (bneF (by assumption)) (bneF (by assumption))
    exact ⟨by rw [g.1, g.2.1, g.2.2]; rfl, (by repeat (first | with_reducible exact hB | with_reducible exact Below.refl _ _ | with_reducible refine below_al ?_ _ | with_reducible refine below_st ?_ (by first | exact Nat.le_refl _ | exact Nat.le_add_right _ _ | (simp; omega)) _))⟩

theorem mt_any (t : Int) (w : World) : Calls Tryz.prog 76 #[.int .i64 t] w fun e w' => e = .returned (.bool (mtB t)) ∧ Below w.heap.size w w' := by
  have hB : Below w.heap.size w w := Below.refl _ _
  go_enter Tryz.func76, Tryz.ntmps76
  go_wp2
  all_goals go_ret
  all_goals exact ⟨by unfold mtB; simp_all, (by repeat (first | with_reducible exact hB | with_reducible exact Below.refl _ _ | with_reducible refine below_al ?_ _ | with_reducible refine below_st ?_ (by first | exact Nat.le_refl _ | exact Nat.le_add_right _ _ | (simp; omega)) _))⟩

theorem rnt_any {w0 : World} {A : Option Addr} {n c : Nat} {L : List Cn} (i : Int) (hn : L.length = n) (hN : n ≤ 100000) (hp : Pool w0 w0.heap.size A L) (w : World) (hb : Below w0.heap.size w0 w) :
    Calls Tryz.prog 85 #[.slice A n c, .int .i64 i] w fun e w' => e = .returned (.tuple #[.string (ntN L i), .string (ntD L i), .int .i64 (ntE L i)]) ∧ Below w.heap.size w w' := by
  have HP := Lib.hid (hp.up hb)
  have HN := Lib.hid hn
  clear hp hb hn
  have hB : Below w.heap.size w w := Below.refl _ _
  go_enter Tryz.func85, Tryz.ntmps85
  go_wp2_with (first | (go_at_call 92; refine (rtg_any _ _ HN.out hN HP.out _ (by repeat (first | with_reducible exact hB | with_reducible exact Below.refl _ _ | with_reducible refine below_al ?_ _ | with_reducible refine below_st ?_ (by first | exact Nat.le_refl _ | exact Nat.le_add_right _ _ | (simp; omega)) _))).mono ?_; rintro e w1 ⟨rfl, hb1⟩; obtain ⟨hc1, hf1⟩ := bcell hb1; have hz1 := hb1.size; (try simp only [World.size_alloc, World.size_setCell] at hz1); (try have hza : w.heap.size < w1.heap.size := by omega); (try have hzb : w.heap.size + 1 < w1.heap.size := by omega); (try have hzc : w.heap.size + 1 + 1 < w1.heap.size := by omega); (try have hzd : wa.heap.size < w1.heap.size := by omega); (try replace hR := (hb1.block w.heap.size (by first | exact lt_heap hR | (have := lt_heap hR; simp; omega))).trans (by first | with_reducible exact hR | with_reducible exact laid_old hR)); replace hB := below_on (w := w) ((by repeat (first | with_reducible exact hB | with_reducible exact Below.refl _ _ | with_reducible refine below_al ?_ _ | with_reducible refine below_st ?_ (by first | exact Nat.le_refl _ | exact Nat.le_add_right _ _ | (simp; omega)) _))) hb1; clear hb1) | (go_at_call 81; refine (rutf_any _ HN.out hN HP.out _ (by repeat (first | with_reducible exact hB | with_reducible exact Below.refl _ _ | with_reducible refine below_al ?_ _ | with_reducible refine below_st ?_ (by first | exact Nat.le_refl _ | exact Nat.le_add_right _ _ | (simp; omega)) _))).mono ?_; rintro e w1 ⟨rfl, hb1⟩; obtain ⟨hc1, hf1⟩ := bcell hb1; have hz1 := hb1.size; (try simp only [World.size_alloc, World.size_setCell] at hz1); (try have hza : w.heap.size < w1.heap.size := by omega); (try have hzb : w.heap.size + 1 < w1.heap.size := by omega); (try have hzc : w.heap.size + 1 + 1 < w1.heap.size := by omega); (try have hzd : wa.heap.size < w1.heap.size := by omega); (try replace hR := (hb1.block w.heap.size (by first | exact lt_heap hR | (have := lt_heap hR; simp; omega))).trans (by first | with_reducible exact hR | with_reducible exact laid_old hR)); replace hB := below_on (w := w) ((by repeat (first | with_reducible exact hB | with_reducible exact Below.refl _ _ | with_reducible refine below_al ?_ _ | with_reducible refine below_st ?_ (by first | exact Nat.le_refl _ | exact Nat.le_add_right _ _ | (simp; omega)) _))) hb1; clear hb1))
  all_goals go_ret3
  · have g := nt_1 (L := L) (i := i) (bneT (by assumption))
    exact ⟨by rw [g.1, g.2.1, g.2.2]; rfl, (by repeat (first | with_reducible exact hB | with_reducible exact Below.refl _ _ | with_reducible refine below_al ?_ _ | with_reducible refine below_st ?_ (by first | exact Nat.le_refl _ | exact Nat.le_add_right _ _ | (simp; omega)) _))⟩
  · have g := nt_2 (L := L) (i := i) (bneF (by assumption)) (bneT (by assumption))
    exact ⟨by rw [g.1, g.2.1, g.2.2]; rfl, (by repeat (first | with_reducible exact hB | with_reducible exact Below.refl _ _ | with_reducible refine below_al ?_ _ | with_reducible refine below_st ?_ (by first | exact Nat.le_refl _ | exact Nat.le_add_right _ _ | (simp; omega)) _))⟩
  · have g := nt_3 (L := L) (i := i) (bneF (by assumption)) (bneF (by assumption)) (bneT (by assumption))
    exact ⟨by rw [g.1, g.2.1, g.2.2]; rfl, (by repeat (first | with_reducible exact hB | with_reducible exact Below.refl _ _ | with_reducible refine below_al ?_ _ | with_reducible refine below_st ?_ (by first | exact Nat.le_refl _ | exact Nat.le_add_right _ _ | (simp; omega)) _))⟩
  · have g := nt_4 (L := L) (i := i) (bneF (by assumption)) (bneF (by assumption)) (bneF (by assumption))
    exact ⟨by rw [g.1, g.2.1, g.2.2]; rfl, (by repeat (first | with_reducible exact hB | with_reducible exact Below.refl _ _ | with_reducible refine below_al ?_ _ | with_reducible refine below_st ?_ (by first | exact Nat.le_refl _ | exact Nat.le_add_right _ _ | (simp; omega)) _))⟩

theorem rmt_any (t : Int) (w : World) : Calls Tryz.prog 79 #[.int .i64 t] w fun e w' => e = .returned (.bool (mtB t)) ∧ Below w.heap.size w w' := by
  have hB : Below w.heap.size w w := Below.refl _ _
  go_enter Tryz.func79, Tryz.ntmps79
  go_wp2
  all_goals go_ret
  all_goals exact ⟨by unfold mtB; simp_all, (by repeat (first | with_reducible exact hB | with_reducible exact Below.refl _ _ | with_reducible refine below_al ?_ _ | with_reducible refine below_st ?_ (by first | exact Nat.le_refl _ | exact Nat.le_add_right _ _ | (simp; omega)) _))⟩

end Go.Proofs.YthfegbhbokhlkaaGreatDoor
