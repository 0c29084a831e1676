/- Layer 5: the reading functions, in the package and in its reference. -/
import Derived.Test.YthfegbhbokhlkaaGreatDoorPool
import Derived.Deep.Cut
namespace Go.Proofs.YthfegbhbokhlkaaGreatDoor
open Go.ChangeShapes Go.WideShapes Go.ChangeAt Go.RowKit Go.PlainAid
set_option linter.unusedSimpArgs false
set_option linter.unusedVariables false

theorem five_cells {W : World} {B : Nat} {x y z u v : Value} {t : TypeId} (h : W.heap[B]? = some (.cells #[x, y, z, u, v] t)) :
    W.cell? ⟨B, 0, none⟩ = some x ∧ W.cell? ⟨B, 1, none⟩ = some y ∧ W.cell? ⟨B, 2, none⟩ = some z ∧ W.cell? ⟨B, 3, none⟩ = some u ∧ W.cell? ⟨B, 4, none⟩ = some v ∧ W.frozen? ⟨B, 0, none⟩ = false ∧ W.frozen? ⟨B, 1, none⟩ = false ∧ W.frozen? ⟨B, 2, none⟩ = false ∧ W.frozen? ⟨B, 3, none⟩ = false ∧ W.frozen? ⟨B, 4, none⟩ = false := by
  refine ⟨?_, ?_, ?_, ?_, ?_, ?_, ?_, ?_, ?_, ?_⟩ <;> simp [World.cell?, World.frozen?, h]
theorem lt_heap {W : World} {B : Nat} {o : Obj} (h : W.heap[B]? = some o) : B < W.heap.size := by
  rcases Nat.lt_or_ge B W.heap.size with h1 | h1
  · exact h1
  · rw [Array.getElem?_eq_none h1] at h; cases h
theorem first_box {w w1 : World} {o : Obj} (h : Below (w.alloc o).heap.size (w.alloc o) w1) : w1.heap[w.heap.size]? = some o :=
  (h.block w.heap.size (by simp)).trans (by simpa using World.alloc_heap_new w o)
theorem laid_old {w : World} {B : Nat} {o o' : Obj} (h : w.heap[B]? = some o) : (w.alloc o').heap[B]? = some o := (Below.heap_alloc _ _ _ (lt_heap h)).trans h

def tgE (L : List Cn) (i t : Int) : Int := if atE L i = 0 then (if (atC L i).t = t then 0 else 11) else atE L i
def tgC (L : List Cn) (i t : Int) : Cn := if atE L i = 0 then (if (atC L i).t = t then atC L i else cnZ) else cnZ
theorem tg_1 {L : List Cn} {i t : Int} (h : ¬ atE L i = 0) : tgC L i t = cnZ ∧ tgE L i t = atE L i := by unfold tgC tgE; rw [if_neg h, if_neg h]; exact ⟨rfl, rfl⟩
theorem tg_2 {L : List Cn} {i t : Int} (h : atE L i = 0) (h2 : ¬ (atC L i).t = t) : tgC L i t = cnZ ∧ tgE L i t = 11 := by unfold tgC tgE; rw [if_pos h, if_pos h, if_neg h2, if_neg h2]; exact ⟨rfl, rfl⟩
theorem tg_3 {L : List Cn} {i t : Int} (h : atE L i = 0) (h2 : (atC L i).t = t) : tgC L i t = atC L i ∧ tgE L i t = 0 := by unfold tgC tgE; rw [if_pos h, if_pos h, if_pos h2, if_pos h2]; exact ⟨rfl, rfl⟩
def nmE (L : List Cn) (i t : Int) : Int := if tgE L i t = 0 then tgE L (tgC L i t).a 1 else tgE L i t
def nmS (L : List Cn) (i t : Int) : ByteArray := if tgE L i t = 0 then (tgC L (tgC L i t).a 1).s else ⟨#[]⟩
theorem nm_1 {L : List Cn} {i t : Int} (h : ¬ tgE L i t = 0) : nmS L i t = ⟨#[]⟩ ∧ nmE L i t = tgE L i t := by unfold nmS nmE; rw [if_neg h, if_neg h]; exact ⟨rfl, rfl⟩
theorem nm_2 {L : List Cn} {i t : Int} (h : tgE L i t = 0) : nmS L i t = (tgC L (tgC L i t).a 1).s ∧ nmE L i t = tgE L (tgC L i t).a 1 := by unfold nmS nmE; rw [if_pos h, if_pos h]; exact ⟨rfl, rfl⟩

set_option maxHeartbeats 400000 in
theorem tg_any {w0 : World} {A : Option Addr} {n c : Nat} {L : List Cn} (i t : Int) (hn : L.length = n) (hN : n ≤ 100000) (hp : Pool w0 w0.heap.size A L) (w : World) (hb : Below w0.heap.size w0 w) :
    Calls Tryz.prog 77 #[.slice A n c, .int .i64 i, .int .i64 t] w fun e w' => e = .returned (.tuple #[(Value.agg #[Value.int IntKind.i64 (Cn.t (tgC L i t)), Value.string (Cn.s (tgC L i t)), Value.int IntKind.i64 (Cn.n (tgC L i t)), Value.int IntKind.i64 (Cn.a (tgC L i t)), Value.int IntKind.i64 (Cn.b (tgC L i t))]), .int .i64 (tgE L i t)]) ∧ Below w.heap.size w w' := by
  have HP := Lib.hid (hp.up hb)
  have HN := Lib.hid hn
  clear hp hb hn
  have hB : Below w.heap.size w w := Below.refl _ _
  go_enter Tryz.func77, Tryz.ntmps77
  go_upto_region 2 with (go_at_call 87; refine (at_any _ HN.out hN HP.out _ (below_al hB _)).mono ?_; rintro e w1 ⟨rfl, hb1⟩; have k1 := first_box hb1; replace hB := below_on (below_al hB _) hb1; clear hb1)
  have R := laid_old (o' := (.cells #[Value.int .i64 (atC L i).t, .string (atC L i).s, .int .i64 (atC L i).n, .int .i64 (atC L i).a, .int .i64 (atC L i).b] 80)) k1
  have C := World.alloc_heap_new w1 (.cells #[Value.int .i64 (atC L i).t, .string (atC L i).s, .int .i64 (atC L i).n, .int .i64 (atC L i).a, .int .i64 (atC L i).b] 80)
  replace hB := below_al hB (.cells #[Value.int .i64 (atC L i).t, .string (atC L i).s, .int .i64 (atC L i).n, .int .i64 (atC L i).a, .int .i64 (atC L i).b] 80)
  have z1 := lt_heap k1
  clear k1
  generalize w1.alloc (.cells #[Value.int .i64 (atC L i).t, .string (atC L i).s, .int .i64 (atC L i).n, .int .i64 (atC L i).a, .int .i64 (atC L i).b] 80) = W2 at R C hB ⊢
  obtain ⟨r0, r1, r2, r3, r4, q0, q1, q2, q3, q4⟩ := five_cells R
  obtain ⟨c0, c1, c2, c3, c4, f0, f1, f2, f3, f4⟩ := five_cells C
  have y1 := lt_heap R
  have y2 := lt_heap C
  clear R C
  go_wp2_with fail
  · have g := tg_1 (L := L) (i := i) (t := t) (bneT (by assumption))
    refine bodyPost_ret (v := .tuple #[(Value.agg #[Value.int IntKind.i64 (Cn.t cnZ), Value.string (Cn.s cnZ), Value.int IntKind.i64 (Cn.n cnZ), Value.int IntKind.i64 (Cn.a cnZ), Value.int IntKind.i64 (Cn.b cnZ)]), .int .i64 (atE L i)]) ?_ rfl ⟨by rw [g.1, g.2], (by repeat (first | with_reducible exact hB | with_reducible exact Below.refl _ _ | with_reducible refine below_al ?_ _ | with_reducible refine below_st ?_ (by first | exact Nat.le_refl _ | exact Nat.le_add_right _ _ | (simp; omega)) _))⟩
    simp [results, Tryz.f77, go_sem, set_same, cnZ_t, cnZ_s, cnZ_n, cnZ_a, cnZ_b, *]
  · have g := tg_2 (L := L) (i := i) (t := t) (bneF (by assumption)) (bneT (by assumption))
    refine bodyPost_ret (v := .tuple #[(Value.agg #[Value.int IntKind.i64 (Cn.t cnZ), Value.string (Cn.s cnZ), Value.int IntKind.i64 (Cn.n cnZ), Value.int IntKind.i64 (Cn.a cnZ), Value.int IntKind.i64 (Cn.b cnZ)]), .int .i64 11]) ?_ rfl ⟨by rw [g.1, g.2], (by repeat (first | with_reducible exact hB | with_reducible exact Below.refl _ _ | with_reducible refine below_al ?_ _ | with_reducible refine below_st ?_ (by first | exact Nat.le_refl _ | exact Nat.le_add_right _ _ | (simp; omega)) _))⟩
    simp [results, Tryz.f77, go_sem, set_same, cnZ_t, cnZ_s, cnZ_n, cnZ_a, cnZ_b, *]
  · have g := tg_3 (L := L) (i := i) (t := t) (bneF (by assumption)) (bneF (by assumption))
    refine bodyPost_ret (v := .tuple #[(Value.agg #[Value.int IntKind.i64 (Cn.t (atC L i)), Value.string (Cn.s (atC L i)), Value.int IntKind.i64 (Cn.n (atC L i)), Value.int IntKind.i64 (Cn.a (atC L i)), Value.int IntKind.i64 (Cn.b (atC L i))]), .int .i64 0]) ?_ rfl ⟨by rw [g.1, g.2], (by repeat (first | with_reducible exact hB | with_reducible exact Below.refl _ _ | with_reducible refine below_al ?_ _ | with_reducible refine below_st ?_ (by first | exact Nat.le_refl _ | exact Nat.le_add_right _ _ | (simp; omega)) _))⟩
    simp [results, Tryz.f77, go_sem, set_same, *]

theorem utf_any {w0 : World} {A : Option Addr} {n c : Nat} {L : List Cn} (i : Int) (hn : L.length = n) (hN : n ≤ 100000) (hp : Pool w0 w0.heap.size A L) (w : World) (hb : Below w0.heap.size w0 w) :
    Calls Tryz.prog 101 #[.slice A n c, .int .i64 i] w fun e w' => e = .returned (.tuple #[.string (tgC L i 1).s, .int .i64 (tgE L i 1)]) ∧ Below w.heap.size w w' := by
  have HP := Lib.hid (hp.up hb)
  have HN := Lib.hid hn
  clear hp hb hn
  have hB : Below w.heap.size w w := Below.refl _ _
  go_enter Tryz.func101, Tryz.ntmps101
  go_wp2_with (go_at_call 77; refine (tg_any _ _ HN.out hN HP.out _ (by repeat (first | with_reducible exact hB | with_reducible exact Below.refl _ _ | with_reducible refine below_al ?_ _ | with_reducible refine below_st ?_ (by first | exact Nat.le_refl _ | exact Nat.le_add_right _ _ | (simp; omega)) _))).mono ?_; rintro e w1 ⟨rfl, hb1⟩; obtain ⟨hc1, hf1⟩ := bcell hb1; have hz1 := hb1.size; (try simp only [World.size_alloc, World.size_setCell] at hz1); (try have hza : w.heap.size < w1.heap.size := by omega); (try have hzb : w.heap.size + 1 < w1.heap.size := by omega); (try have hzc : w.heap.size + 1 + 1 < w1.heap.size := by omega); (try have hzd : wa.heap.size < w1.heap.size := by omega); (try replace hR := (hb1.block w.heap.size (by first | exact lt_heap hR | (have := lt_heap hR; simp; omega))).trans (by first | with_reducible exact hR | with_reducible exact laid_old hR)); replace hB := below_on (w := w) ((by repeat (first | with_reducible exact hB | with_reducible exact Below.refl _ _ | with_reducible refine below_al ?_ _ | with_reducible refine below_st ?_ (by first | exact Nat.le_refl _ | exact Nat.le_add_right _ _ | (simp; omega)) _))) hb1; clear hb1)
  go_ret2
  exact ⟨rfl, (by repeat (first | with_reducible exact hB | with_reducible exact Below.refl _ _ | with_reducible refine below_al ?_ _ | with_reducible refine below_st ?_ (by first | exact Nat.le_refl _ | exact Nat.le_add_right _ _ | (simp; omega)) _))⟩

set_option maxHeartbeats 400000 in
theorem rtg_any {w0 : World} {A : Option Addr} {n c : Nat} {L : List Cn} (i t : Int) (hn : L.length = n) (hN : n ≤ 100000) (hp : Pool w0 w0.heap.size A L) (w : World) (hb : Below w0.heap.size w0 w) :
    Calls Tryz.prog 92 #[.slice A n c, .int .i64 i, .int .i64 t] w fun e w' => e = .returned (.tuple #[(Value.agg #[Value.int IntKind.i64 (Cn.t (tgC L i t)), Value.string (Cn.s (tgC L i t)), Value.int IntKind.i64 (Cn.n (tgC L i t)), Value.int IntKind.i64 (Cn.a (tgC L i t)), Value.int IntKind.i64 (Cn.b (tgC L i t))]), .int .i64 (tgE L i t)]) ∧ Below w.heap.size w w' := by
  have HP := Lib.hid (hp.up hb)
  have HN := Lib.hid hn
  clear hp hb hn
  have hB : Below w.heap.size w w := Below.refl _ _
  go_enter Tryz.func92, Tryz.ntmps92
  go_upto_region 2 with (go_at_call 102; refine (rat_any _ HN.out hN HP.out _ (below_al hB _)).mono ?_; rintro e w1 ⟨rfl, hb1⟩; have k1 := first_box hb1; replace hB := below_on (below_al hB _) hb1; clear hb1)
  have R := laid_old (o' := (.cells #[Value.int .i64 (atC L i).t, .string (atC L i).s, .int .i64 (atC L i).n, .int .i64 (atC L i).a, .int .i64 (atC L i).b] 80)) k1
  have C := World.alloc_heap_new w1 (.cells #[Value.int .i64 (atC L i).t, .string (atC L i).s, .int .i64 (atC L i).n, .int .i64 (atC L i).a, .int .i64 (atC L i).b] 80)
  replace hB := below_al hB (.cells #[Value.int .i64 (atC L i).t, .string (atC L i).s, .int .i64 (atC L i).n, .int .i64 (atC L i).a, .int .i64 (atC L i).b] 80)
  have z1 := lt_heap k1
  clear k1
  generalize w1.alloc (.cells #[Value.int .i64 (atC L i).t, .string (atC L i).s, .int .i64 (atC L i).n, .int .i64 (atC L i).a, .int .i64 (atC L i).b] 80) = W2 at R C hB ⊢
  obtain ⟨r0, r1, r2, r3, r4, q0, q1, q2, q3, q4⟩ := five_cells R
  obtain ⟨c0, c1, c2, c3, c4, f0, f1, f2, f3, f4⟩ := five_cells C
  have y1 := lt_heap R
  have y2 := lt_heap C
  clear R C
  go_wp2_with fail
  · have g := tg_1 (L := L) (i := i) (t := t) (bneT (by assumption))
    refine bodyPost_ret (v := .tuple #[(Value.agg #[Value.int IntKind.i64 (Cn.t cnZ), Value.string (Cn.s cnZ), Value.int IntKind.i64 (Cn.n cnZ), Value.int IntKind.i64 (Cn.a cnZ), Value.int IntKind.i64 (Cn.b cnZ)]), .int .i64 (atE L i)]) ?_ rfl ⟨by rw [g.1, g.2], (by repeat (first | with_reducible exact hB | with_reducible exact Below.refl _ _ | with_reducible refine below_al ?_ _ | with_reducible refine below_st ?_ (by first | exact Nat.le_refl _ | exact Nat.le_add_right _ _ | (simp; omega)) _))⟩
    simp [results, Tryz.f92, go_sem, set_same, cnZ_t, cnZ_s, cnZ_n, cnZ_a, cnZ_b, *]
  · have g := tg_2 (L := L) (i := i) (t := t) (bneF (by assumption)) (bneT (by assumption))
    refine bodyPost_ret (v := .tuple #[(Value.agg #[Value.int IntKind.i64 (Cn.t cnZ), Value.string (Cn.s cnZ), Value.int IntKind.i64 (Cn.n cnZ), Value.int IntKind.i64 (Cn.a cnZ), Value.int IntKind.i64 (Cn.b cnZ)]), .int .i64 11]) ?_ rfl ⟨by rw [g.1, g.2], (by repeat (first | with_reducible exact hB | with_reducible exact Below.refl _ _ | with_reducible refine below_al ?_ _ | with_reducible refine below_st ?_ (by first | exact Nat.le_refl _ | exact Nat.le_add_right _ _ | (simp; omega)) _))⟩
    simp [results, Tryz.f92, go_sem, set_same, cnZ_t, cnZ_s, cnZ_n, cnZ_a, cnZ_b, *]
  · have g := tg_3 (L := L) (i := i) (t := t) (bneF (by assumption)) (bneF (by assumption))
    refine bodyPost_ret (v := .tuple #[(Value.agg #[Value.int IntKind.i64 (Cn.t (atC L i)), Value.string (Cn.s (atC L i)), Value.int IntKind.i64 (Cn.n (atC L i)), Value.int IntKind.i64 (Cn.a (atC L i)), Value.int IntKind.i64 (Cn.b (atC L i))]), .int .i64 0]) ?_ rfl ⟨by rw [g.1, g.2], (by repeat (first | with_reducible exact hB | with_reducible exact Below.refl _ _ | with_reducible refine below_al ?_ _ | with_reducible refine below_st ?_ (by first | exact Nat.le_refl _ | exact Nat.le_add_right _ _ | (simp; omega)) _))⟩
    simp [results, Tryz.f92, go_sem, set_same, *]

theorem rutf_any {w0 : World} {A : Option Addr} {n c : Nat} {L : List Cn} (i : Int) (hn : L.length = n) (hN : n ≤ 100000) (hp : Pool w0 w0.heap.size A L) (w : World) (hb : Below w0.heap.size w0 w) :
    Calls Tryz.prog 81 #[.slice A n c, .int .i64 i] w fun e w' => e = .returned (.tuple #[.string (tgC L i 1).s, .int .i64 (tgE L i 1)]) ∧ Below w.heap.size w w' := by
  have HP := Lib.hid (hp.up hb)
  have HN := Lib.hid hn
  clear hp hb hn
  have hB : Below w.heap.size w w := Below.refl _ _
  go_enter Tryz.func81, Tryz.ntmps81
  go_wp2_with (go_at_call 92; refine (rtg_any _ _ HN.out hN HP.out _ (by repeat (first | with_reducible exact hB | with_reducible exact Below.refl _ _ | with_reducible refine below_al ?_ _ | with_reducible refine below_st ?_ (by first | exact Nat.le_refl _ | exact Nat.le_add_right _ _ | (simp; omega)) _))).mono ?_; rintro e w1 ⟨rfl, hb1⟩; obtain ⟨hc1, hf1⟩ := bcell hb1; have hz1 := hb1.size; (try simp only [World.size_alloc, World.size_setCell] at hz1); (try have hza : w.heap.size < w1.heap.size := by omega); (try have hzb : w.heap.size + 1 < w1.heap.size := by omega); (try have hzc : w.heap.size + 1 + 1 < w1.heap.size := by omega); (try have hzd : wa.heap.size < w1.heap.size := by omega); (try replace hR := (hb1.block w.heap.size (by first | exact lt_heap hR | (have := lt_heap hR; simp; omega))).trans (by first | with_reducible exact hR | with_reducible exact laid_old hR)); replace hB := below_on (w := w) ((by repeat (first | with_reducible exact hB | with_reducible exact Below.refl _ _ | with_reducible refine below_al ?_ _ | with_reducible refine below_st ?_ (by first | exact Nat.le_refl _ | exact Nat.le_add_right _ _ | (simp; omega)) _))) hb1; clear hb1)
  go_ret2
  exact ⟨rfl, (by repeat (first | with_reducible exact hB | with_reducible exact Below.refl _ _ | with_reducible refine below_al ?_ _ | with_reducible refine below_st ?_ (by first | exact Nat.le_refl _ | exact Nat.le_add_right _ _ | (simp; omega)) _))⟩

end Go.Proofs.YthfegbhbokhlkaaGreatDoor
