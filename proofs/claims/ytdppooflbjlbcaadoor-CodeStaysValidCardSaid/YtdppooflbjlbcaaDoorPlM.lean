import Derived.Test.YtdppooflbjlbcaaDoorDsM
import Derived.Deep.Cut
import Derived.Deep.QuietTactic
import Derived.BigQuiet
import Derived.ArgAppend
import Derived.Deep.AppendLies
import Derived.Deep.RegionHeld3
import Derived.Test.YtdppooflbjlbcaaDoorNmM

/- Pool -/
/- Layer 5: a pool in memory; At, in the package and in its reference. -/
namespace Go.Proofs.YtdppooflbjlbcaaDoor
open Go.ChangeShapes Go.WideShapes Go.ChangeAt Go.RowKit Go.PlainAid
set_option linter.unusedSimpArgs false
set_option linter.unusedVariables false

structure Cn where
  t : Int
  s : ByteArray
  n : Int
  a : Int
  b : Int
def cnZ : Cn := ⟨0, ⟨#[]⟩, 0, 0, 0⟩
theorem cnZ_t : cnZ.t = 0 := rfl
theorem cnZ_s : cnZ.s = ⟨#[]⟩ := rfl
theorem cnZ_n : cnZ.n = 0 := rfl
theorem cnZ_a : cnZ.a = 0 := rfl
theorem cnZ_b : cnZ.b = 0 := rfl

/-- the constants of a slice, at their places: below block B -/
def Pool (w : World) (B : Nat) (A : Option Addr) (L : List Cn) : Prop :=
  L = [] ∨ ∃ g o, A = some ⟨g, o, none⟩ ∧ g < B ∧ ∀ (i : Nat) (c : Cn), L[i]? = some c → w.cell? ⟨g, o + i * 5, none⟩ = some (.int .i64 c.t) ∧ w.cell? ⟨g, o + i * 5 + 1, none⟩ = some (.string c.s) ∧ w.cell? ⟨g, o + i * 5 + 2, none⟩ = some (.int .i64 c.n) ∧ w.cell? ⟨g, o + i * 5 + 3, none⟩ = some (.int .i64 c.a) ∧ w.cell? ⟨g, o + i * 5 + 4, none⟩ = some (.int .i64 c.b)
theorem Pool.below {w w' : World} {B : Nat} {A : Option Addr} {L : List Cn} (h : Pool w B A L) (hb : Below B w w') : Pool w' B A L := by
  rcases h with h | ⟨g, o, hA, hg, hc⟩
  · exact Or.inl h
  · refine Or.inr ⟨g, o, hA, hg, fun i p hi => ?_⟩
    obtain ⟨a, b, c, d, e⟩ := hc i p hi
    exact ⟨(hb.cell (p := ⟨g, _, none⟩) hg).trans a, (hb.cell (p := ⟨g, _, none⟩) hg).trans b, (hb.cell (p := ⟨g, _, none⟩) hg).trans c, (hb.cell (p := ⟨g, _, none⟩) hg).trans d, (hb.cell (p := ⟨g, _, none⟩) hg).trans e⟩
theorem Pool.more {w : World} {B B' : Nat} {A : Option Addr} {L : List Cn} (h : Pool w B A L) (hB : B ≤ B') : Pool w B' A L := by
  rcases h with h | ⟨g, o, hA, hg, hc⟩
  · exact Or.inl h
  · exact Or.inr ⟨g, o, hA, by omega, hc⟩
theorem Pool.up {w w' : World} {A : Option Addr} {L : List Cn} (h : Pool w w.heap.size A L) (hb : Below w.heap.size w w') : Pool w' w'.heap.size A L := (h.below hb).more hb.size

/-- what At says -/
def atC (L : List Cn) (i : Int) : Cn := if 1 ≤ i ∧ i ≤ L.length then L.getD (i - 1).toNat cnZ else cnZ
def atE (L : List Cn) (i : Int) : Int := if 1 ≤ i ∧ i ≤ L.length then 0 else 2
theorem at_out {L : List Cn} {i : Int} (h : ¬ (1 ≤ i ∧ i ≤ L.length)) : atC L i = cnZ ∧ atE L i = 2 := by unfold atC atE; rw [if_neg h, if_neg h]; exact ⟨rfl, rfl⟩
theorem at_in {L : List Cn} {k : Nat} {c : Cn} (h : L[k]? = some c) : atC L ((k : Int) + 1) = c ∧ atE L ((k : Int) + 1) = 0 := by
  have hk : k < L.length := by
    rcases Nat.lt_or_ge k L.length with h1 | h1
    · exact h1
    · rw [List.getElem?_eq_none h1] at h; cases h
  unfold atC atE
  rw [if_pos (by omega), if_pos (by omega), show ((k : Int) + 1 - 1).toNat = k by omega, List.getD_eq_getElem?_getD, h]
  exact ⟨rfl, rfl⟩
theorem at_e (L : List Cn) (i : Int) : atE L i = 0 ∨ atE L i = 2 := by unfold atE; split <;> simp

theorem at_any {w0 : World} {A : Option Addr} {n c : Nat} {L : List Cn} (i : Int) (hn : L.length = n) (hN : n ≤ 100000) (hp : Pool w0 w0.heap.size A L) (w : World) (hb : Below w0.heap.size w0 w) :
    Calls Tryd.prog 90 #[.slice A n c, .int .i64 i] w fun e w' => e = .returned (.tuple #[(Value.agg #[Value.int IntKind.i64 (Cn.t (atC L i)), Value.string (Cn.s (atC L i)), Value.int IntKind.i64 (Cn.n (atC L i)), Value.int IntKind.i64 (Cn.a (atC L i)), Value.int IntKind.i64 (Cn.b (atC L i))]), .int .i64 (atE L i)]) ∧ Below w.heap.size w w' := by
  have hp' := hp.up hb
  clear hp hb
  have hB : Below w.heap.size w w := Below.refl _ _
  by_cases h1 : i < 1
  · have g := at_out (L := L) (i := i) (by omega)
    rw [g.1, g.2]
    clear g
    go_enter Tryd.func90, Tryd.ntmps90
    go_wp2
    refine bodyPost_ret (v := .tuple #[(Value.agg #[Value.int IntKind.i64 (Cn.t cnZ), Value.string (Cn.s cnZ), Value.int IntKind.i64 (Cn.n cnZ), Value.int IntKind.i64 (Cn.a cnZ), Value.int IntKind.i64 (Cn.b cnZ)]), .int .i64 2]) ?_ rfl ⟨rfl, (by repeat (first | with_reducible exact hB | with_reducible exact Below.refl _ _ | with_reducible refine below_al ?_ _ | with_reducible refine below_st ?_ (by first | exact Nat.le_refl _ | exact Nat.le_add_right _ _ | (simp; omega)) _))⟩
    simp [results, Tryd.f90, go_sem, set_same, cnZ_t, cnZ_s, cnZ_n, cnZ_a, cnZ_b, *]
  · by_cases h2 : n < i
    · have g := at_out (L := L) (i := i) (by omega)
      rw [g.1, g.2]
      clear g
      go_enter Tryd.func90, Tryd.ntmps90
      go_wp2
      refine bodyPost_ret (v := .tuple #[(Value.agg #[Value.int IntKind.i64 (Cn.t cnZ), Value.string (Cn.s cnZ), Value.int IntKind.i64 (Cn.n cnZ), Value.int IntKind.i64 (Cn.a cnZ), Value.int IntKind.i64 (Cn.b cnZ)]), .int .i64 2]) ?_ rfl ⟨rfl, (by repeat (first | with_reducible exact hB | with_reducible exact Below.refl _ _ | with_reducible refine below_al ?_ _ | with_reducible refine below_st ?_ (by first | exact Nat.le_refl _ | exact Nat.le_add_right _ _ | (simp; omega)) _))⟩
      simp [results, Tryd.f90, go_sem, set_same, cnZ_t, cnZ_s, cnZ_n, cnZ_a, cnZ_b, *]
    · obtain ⟨k, rfl⟩ : ∃ k : Nat, i = (k : Int) + 1 := ⟨(i - 1).toNat, by omega⟩
      have hk : k < n := by omega
      have hc : ∃ p, L[k]? = some p := ⟨L[k]'(by omega), List.getElem?_eq_getElem _⟩
      obtain ⟨p, hc⟩ := hc
      have g := at_in hc
      rw [g.1, g.2]
      rcases hp' with h0 | ⟨b, o, rfl, hg, hcell⟩
      · rw [h0] at hc; cases hc
      · obtain ⟨a0, a1, a2, a3, a4⟩ := hcell k _ hc
        clear hcell hc g hn
        go_enter Tryd.func90, Tryd.ntmps90
        go_wp2
        refine bodyPost_ret (v := .tuple #[(Value.agg #[Value.int IntKind.i64 (Cn.t p), Value.string (Cn.s p), Value.int IntKind.i64 (Cn.n p), Value.int IntKind.i64 (Cn.a p), Value.int IntKind.i64 (Cn.b p)]), .int .i64 0]) ?_ rfl ⟨rfl, (by repeat (first | with_reducible exact hB | with_reducible exact Below.refl _ _ | with_reducible refine below_al ?_ _ | with_reducible refine below_st ?_ (by first | exact Nat.le_refl _ | exact Nat.le_add_right _ _ | (simp; omega)) _))⟩
        simp [results, Tryd.f90, go_sem, set_same, *]

end Go.Proofs.YtdppooflbjlbcaaDoor

/- PoolTwo -/
/- Layer 5: the reading functions, in the package and in its reference. -/
namespace Go.Proofs.YtdppooflbjlbcaaDoor
open Go.ChangeShapes Go.WideShapes Go.ChangeAt Go.RowKit Go.PlainAid
set_option linter.unusedSimpArgs false
set_option linter.unusedVariables false

theorem five_cells {W : World} {B : Nat} {x y z u v : Value} {t : TypeId} (h : W.heap[B]? = some (.cells #[x, y, z, u, v] t)) :
    W.cell? ⟨B, 0, none⟩ = some x ∧ W.cell? ⟨B, 1, none⟩ = some y ∧ W.cell? ⟨B, 2, none⟩ = some z ∧ W.cell? ⟨B, 3, none⟩ = some u ∧ W.cell? ⟨B, 4, none⟩ = some v ∧ W.frozen? ⟨B, 0, none⟩ = false ∧ W.frozen? ⟨B, 1, none⟩ = false ∧ W.frozen? ⟨B, 2, none⟩ = false ∧ W.frozen? ⟨B, 3, none⟩ = false ∧ W.frozen? ⟨B, 4, none⟩ = false := by
  refine ⟨?_, ?_, ?_, ?_, ?_, ?_, ?_, ?_, ?_, ?_⟩ <;> simp [World.cell?, World.frozen?, h]
theorem lt_heap {W : World} {B : Nat} {o : Obj} (h : W.heap[B]? = some o) : B < W.heap.size := by
  rcases Nat.lt_or_ge B W.heap.size with h1 | h1
  · exact h1
  · rw [Array.getElem?_eq_none h1] at h; cases h
theorem first_box {w w1 : World} {o : Obj} (h : Below (w.alloc o).heap.size (w.alloc o) w1) : w1.heap[w.heap.size]? = some o :=
  (h.block w.heap.size (by simp)).trans (by simpa using World.alloc_heap_new w o)
theorem laid_old {w : World} {B : Nat} {o o' : Obj} (h : w.heap[B]? = some o) : (w.alloc o').heap[B]? = some o := (Below.heap_alloc _ _ _ (lt_heap h)).trans h

def tgE (L : List Cn) (i t : Int) : Int := if atE L i = 0 then (if (atC L i).t = t then 0 else 11) else atE L i
def tgC (L : List Cn) (i t : Int) : Cn := if atE L i = 0 then (if (atC L i).t = t then atC L i else cnZ) else cnZ
theorem tg_1 {L : List Cn} {i t : Int} (h : ¬ atE L i = 0) : tgC L i t = cnZ ∧ tgE L i t = atE L i := by unfold tgC tgE; rw [if_neg h, if_neg h]; exact ⟨rfl, rfl⟩
theorem tg_2 {L : List Cn} {i t : Int} (h : atE L i = 0) (h2 : ¬ (atC L i).t = t) : tgC L i t = cnZ ∧ tgE L i t = 11 := by unfold tgC tgE; rw [if_pos h, if_pos h, if_neg h2, if_neg h2]; exact ⟨rfl, rfl⟩
theorem tg_3 {L : List Cn} {i t : Int} (h : atE L i = 0) (h2 : (atC L i).t = t) : tgC L i t = atC L i ∧ tgE L i t = 0 := by unfold tgC tgE; rw [if_pos h, if_pos h, if_pos h2, if_pos h2]; exact ⟨rfl, rfl⟩
def nmE (L : List Cn) (i t : Int) : Int := if tgE L i t = 0 then tgE L (tgC L i t).a 1 else tgE L i t
def nmS (L : List Cn) (i t : Int) : ByteArray := if tgE L i t = 0 then (tgC L (tgC L i t).a 1).s else ⟨#[]⟩
theorem nm_1 {L : List Cn} {i t : Int} (h : ¬ tgE L i t = 0) : nmS L i t = ⟨#[]⟩ ∧ nmE L i t = tgE L i t := by unfold nmS nmE; rw [if_neg h, if_neg h]; exact ⟨rfl, rfl⟩
theorem nm_2 {L : List Cn} {i t : Int} (h : tgE L i t = 0) : nmS L i t = (tgC L (tgC L i t).a 1).s ∧ nmE L i t = tgE L (tgC L i t).a 1 := by unfold nmS nmE; rw [if_pos h, if_pos h]; exact ⟨rfl, rfl⟩

set_option maxHeartbeats 400000 in
theorem tg_any {w0 : World} {A : Option Addr} {n c : Nat} {L : List Cn} (i t : Int) (hn : L.length = n) (hN : n ≤ 100000) (hp : Pool w0 w0.heap.size A L) (w : World) (hb : Below w0.heap.size w0 w) :
    Calls Tryd.prog 120 #[.slice A n c, .int .i64 i, .int .i64 t] w fun e w' => e = .returned (.tuple #[(Value.agg #[Value.int IntKind.i64 (Cn.t (tgC L i t)), Value.string (Cn.s (tgC L i t)), Value.int IntKind.i64 (Cn.n (tgC L i t)), Value.int IntKind.i64 (Cn.a (tgC L i t)), Value.int IntKind.i64 (Cn.b (tgC L i t))]), .int .i64 (tgE L i t)]) ∧ Below w.heap.size w w' := by
  have HP := Lib.hid (hp.up hb)
  have HN := Lib.hid hn
  clear hp hb hn
  have hB : Below w.heap.size w w := Below.refl _ _
  go_enter Tryd.func120, Tryd.ntmps120
  go_upto_region 2 with (go_at_call 90; refine (at_any _ HN.out hN HP.out _ (below_al hB _)).mono ?_; rintro e w1 ⟨rfl, hb1⟩; have k1 := first_box hb1; replace hB := below_on (below_al hB _) hb1; clear hb1)
  have R := laid_old (o' := (.cells #[Value.int .i64 (atC L i).t, .string (atC L i).s, .int .i64 (atC L i).n, .int .i64 (atC L i).a, .int .i64 (atC L i).b] 56)) k1
  have C := World.alloc_heap_new w1 (.cells #[Value.int .i64 (atC L i).t, .string (atC L i).s, .int .i64 (atC L i).n, .int .i64 (atC L i).a, .int .i64 (atC L i).b] 56)
  replace hB := below_al hB (.cells #[Value.int .i64 (atC L i).t, .string (atC L i).s, .int .i64 (atC L i).n, .int .i64 (atC L i).a, .int .i64 (atC L i).b] 56)
  have z1 := lt_heap k1
  clear k1
  generalize w1.alloc (.cells #[Value.int .i64 (atC L i).t, .string (atC L i).s, .int .i64 (atC L i).n, .int .i64 (atC L i).a, .int .i64 (atC L i).b] 56) = W2 at R C hB ⊢
  obtain ⟨r0, r1, r2, r3, r4, q0, q1, q2, q3, q4⟩ := five_cells R
  obtain ⟨c0, c1, c2, c3, c4, f0, f1, f2, f3, f4⟩ := five_cells C
  have y1 := lt_heap R
  have y2 := lt_heap C
  clear R C
  go_wp2_with fail
  · have g := tg_1 (L := L) (i := i) (t := t) (bneT (by assumption))
    refine bodyPost_ret (v := .tuple #[(Value.agg #[Value.int IntKind.i64 (Cn.t cnZ), Value.string (Cn.s cnZ), Value.int IntKind.i64 (Cn.n cnZ), Value.int IntKind.i64 (Cn.a cnZ), Value.int IntKind.i64 (Cn.b cnZ)]), .int .i64 (atE L i)]) ?_ rfl ⟨by rw [g.1, g.2], (by repeat (first | with_reducible exact hB | with_reducible exact Below.refl _ _ | with_reducible refine below_al ?_ _ | with_reducible refine below_st ?_ (by first | exact Nat.le_refl _ | exact Nat.le_add_right _ _ | (simp; omega)) _))⟩
    simp [results, Tryd.f120, go_sem, set_same, cnZ_t, cnZ_s, cnZ_n, cnZ_a, cnZ_b, *]
  · have g := tg_2 (L := L) (i := i) (t := t) (bneF (by assumption)) (bneT (by assumption))
    refine bodyPost_ret (v := .tuple #[(Value.agg #[Value.int IntKind.i64 (Cn.t cnZ), Value.string (Cn.s cnZ), Value.int IntKind.i64 (Cn.n cnZ), Value.int IntKind.i64 (Cn.a cnZ), Value.int IntKind.i64 (Cn.b cnZ)]), .int .i64 11]) ?_ rfl ⟨by rw [g.1, g.2], (by repeat (first | with_reducible exact hB | with_reducible exact Below.refl _ _ | with_reducible refine below_al ?_ _ | with_reducible refine below_st ?_ (by first | exact Nat.le_refl _ | exact Nat.le_add_right _ _ | (simp; omega)) _))⟩
    simp [results, Tryd.f120, go_sem, set_same, cnZ_t, cnZ_s, cnZ_n, cnZ_a, cnZ_b, *]
  · have g := tg_3 (L := L) (i := i) (t := t) (bneF (by assumption)) (bneF (by assumption))
    refine bodyPost_ret (v := .tuple #[(Value.agg #[Value.int IntKind.i64 (Cn.t (atC L i)), Value.string (Cn.s (atC L i)), Value.int IntKind.i64 (Cn.n (atC L i)), Value.int IntKind.i64 (Cn.a (atC L i)), Value.int IntKind.i64 (Cn.b (atC L i))]), .int .i64 0]) ?_ rfl ⟨by rw [g.1, g.2], (by repeat (first | with_reducible exact hB | with_reducible exact Below.refl _ _ | with_reducible refine below_al ?_ _ | with_reducible refine below_st ?_ (by first | exact Nat.le_refl _ | exact Nat.le_add_right _ _ | (simp; omega)) _))⟩
    simp [results, Tryd.f120, go_sem, set_same, *]

theorem utf_any {w0 : World} {A : Option Addr} {n c : Nat} {L : List Cn} (i : Int) (hn : L.length = n) (hN : n ≤ 100000) (hp : Pool w0 w0.heap.size A L) (w : World) (hb : Below w0.heap.size w0 w) :
    Calls Tryd.prog 121 #[.slice A n c, .int .i64 i] w fun e w' => e = .returned (.tuple #[.string (tgC L i 1).s, .int .i64 (tgE L i 1)]) ∧ Below w.heap.size w w' := by
  have HP := Lib.hid (hp.up hb)
  have HN := Lib.hid hn
  clear hp hb hn
  have hB : Below w.heap.size w w := Below.refl _ _
  go_enter Tryd.func121, Tryd.ntmps121
  go_wp2_with (go_at_call 120; refine (tg_any _ _ HN.out hN HP.out _ (by repeat (first | with_reducible exact hB | with_reducible exact Below.refl _ _ | with_reducible refine below_al ?_ _ | with_reducible refine below_st ?_ (by first | exact Nat.le_refl _ | exact Nat.le_add_right _ _ | (simp; omega)) _))).mono ?_; rintro e w1 ⟨rfl, hb1⟩; obtain ⟨hc1, hf1⟩ := bcell hb1; have hz1 := hb1.size; (try simp only [World.size_alloc, World.size_setCell] at hz1); (try have hza : w.heap.size < w1.heap.size := by omega); (try have hzb : w.heap.size + 1 < w1.heap.size := by omega); (try have hzc : w.heap.size + 1 + 1 < w1.heap.size := by omega); (try have hzd : wa.heap.size < w1.heap.size := by omega); (try replace hR := (hb1.block w.heap.size (by first | exact lt_heap hR | (have := lt_heap hR; simp; omega))).trans (by first | with_reducible exact hR | with_reducible exact laid_old hR)); replace hB := below_on (w := w) ((by repeat (first | with_reducible exact hB | with_reducible exact Below.refl _ _ | with_reducible refine below_al ?_ _ | with_reducible refine below_st ?_ (by first | exact Nat.le_refl _ | exact Nat.le_add_right _ _ | (simp; omega)) _))) hb1; clear hb1)
  go_ret2
  exact ⟨rfl, (by repeat (first | with_reducible exact hB | with_reducible exact Below.refl _ _ | with_reducible refine below_al ?_ _ | with_reducible refine below_st ?_ (by first | exact Nat.le_refl _ | exact Nat.le_add_right _ _ | (simp; omega)) _))⟩

theorem named_any {w0 : World} {A : Option Addr} {n c : Nat} {L : List Cn} (i t : Int) (hn : L.length = n) (hN : n ≤ 100000) (hp : Pool w0 w0.heap.size A L) (w : World) (hb : Below w0.heap.size w0 w) :
    Calls Tryd.prog 95 #[.slice A n c, .int .i64 i, .int .i64 t] w fun e w' => e = .returned (.tuple #[.string (nmS L i t), .int .i64 (nmE L i t)]) ∧ Below w.heap.size w w' := by
  have HP := Lib.hid (hp.up hb)
  have HN := Lib.hid hn
  clear hp hb hn
  have hB : Below w.heap.size w w := Below.refl _ _
  go_enter Tryd.func95, Tryd.ntmps95
  go_wp2_with (first | (go_at_call 120; refine (tg_any _ _ HN.out hN HP.out _ (by repeat (first | with_reducible exact hB | with_reducible exact Below.refl _ _ | with_reducible refine below_al ?_ _ | with_reducible refine below_st ?_ (by first | exact Nat.le_refl _ | exact Nat.le_add_right _ _ | (simp; omega)) _))).mono ?_; rintro e w1 ⟨rfl, hb1⟩; obtain ⟨hc1, hf1⟩ := bcell hb1; have hz1 := hb1.size; (try simp only [World.size_alloc, World.size_setCell] at hz1); (try have hza : w.heap.size < w1.heap.size := by omega); (try have hzb : w.heap.size + 1 < w1.heap.size := by omega); (try have hzc : w.heap.size + 1 + 1 < w1.heap.size := by omega); (try have hzd : wa.heap.size < w1.heap.size := by omega); (try replace hR := (hb1.block w.heap.size (by first | exact lt_heap hR | (have := lt_heap hR; simp; omega))).trans (by first | with_reducible exact hR | with_reducible exact laid_old hR)); replace hB := below_on (w := w) ((by repeat (first | with_reducible exact hB | with_reducible exact Below.refl _ _ | with_reducible refine below_al ?_ _ | with_reducible refine below_st ?_ (by first | exact Nat.le_refl _ | exact Nat.le_add_right _ _ | (simp; omega)) _))) hb1; clear hb1) | (go_at_call 121; refine (utf_any _ HN.out hN HP.out _ (by repeat (first | with_reducible exact hB | with_reducible exact Below.refl _ _ | with_reducible refine below_al ?_ _ | with_reducible refine below_st ?_ (by first | exact Nat.le_refl _ | exact Nat.le_add_right _ _ | (simp; omega)) _))).mono ?_; rintro e w1 ⟨rfl, hb1⟩; obtain ⟨hc1, hf1⟩ := bcell hb1; have hz1 := hb1.size; (try simp only [World.size_alloc, World.size_setCell] at hz1); (try have hza : w.heap.size < w1.heap.size := by omega); (try have hzb : w.heap.size + 1 < w1.heap.size := by omega); (try have hzc : w.heap.size + 1 + 1 < w1.heap.size := by omega); (try have hzd : wa.heap.size < w1.heap.size := by omega); (try replace hR := (hb1.block w.heap.size (by first | exact lt_heap hR | (have := lt_heap hR; simp; omega))).trans (by first | with_reducible exact hR | with_reducible exact laid_old hR)); replace hB := below_on (w := w) ((by repeat (first | with_reducible exact hB | with_reducible exact Below.refl _ _ | with_reducible refine below_al ?_ _ | with_reducible refine below_st ?_ (by first | exact Nat.le_refl _ | exact Nat.le_add_right _ _ | (simp; omega)) _))) hb1; clear hb1))
  all_goals go_ret2
  · have g := nm_1 (L := L) (i := i) (t := t) (bneT (by assumption))
    exact ⟨by rw [g.1, g.2]; rfl, (by repeat (first | with_reducible exact hB | with_reducible exact Below.refl _ _ | with_reducible refine below_al ?_ _ | with_reducible refine below_st ?_ (by first | exact Nat.le_refl _ | exact Nat.le_add_right _ _ | (simp; omega)) _))⟩
  · have g := nm_2 (L := L) (i := i) (t := t) (bneF (by assumption))
    exact ⟨by rw [g.1, g.2]; rfl, (by repeat (first | with_reducible exact hB | with_reducible exact Below.refl _ _ | with_reducible refine below_al ?_ _ | with_reducible refine below_st ?_ (by first | exact Nat.le_refl _ | exact Nat.le_add_right _ _ | (simp; omega)) _))⟩

theorem cn_any {w0 : World} {A : Option Addr} {n c : Nat} {L : List Cn} (i : Int) (hn : L.length = n) (hN : n ≤ 100000) (hp : Pool w0 w0.heap.size A L) (w : World) (hb : Below w0.heap.size w0 w) :
    Calls Tryd.prog 67 #[.slice A n c, .int .i64 i] w fun e w' => e = .returned (.tuple #[.string (nmS L i 7), .int .i64 (nmE L i 7)]) ∧ Below w.heap.size w w' := by
  have HP := Lib.hid (hp.up hb)
  have HN := Lib.hid hn
  clear hp hb hn
  have hB : Below w.heap.size w w := Below.refl _ _
  go_enter Tryd.func67, Tryd.ntmps67
  go_wp2_with (go_at_call 95; refine (named_any _ _ HN.out hN HP.out _ (by repeat (first | with_reducible exact hB | with_reducible exact Below.refl _ _ | with_reducible refine below_al ?_ _ | with_reducible refine below_st ?_ (by first | exact Nat.le_refl _ | exact Nat.le_add_right _ _ | (simp; omega)) _))).mono ?_; rintro e w1 ⟨rfl, hb1⟩; obtain ⟨hc1, hf1⟩ := bcell hb1; have hz1 := hb1.size; (try simp only [World.size_alloc, World.size_setCell] at hz1); (try have hza : w.heap.size < w1.heap.size := by omega); (try have hzb : w.heap.size + 1 < w1.heap.size := by omega); (try have hzc : w.heap.size + 1 + 1 < w1.heap.size := by omega); (try have hzd : wa.heap.size < w1.heap.size := by omega); (try replace hR := (hb1.block w.heap.size (by first | exact lt_heap hR | (have := lt_heap hR; simp; omega))).trans (by first | with_reducible exact hR | with_reducible exact laid_old hR)); replace hB := below_on (w := w) ((by repeat (first | with_reducible exact hB | with_reducible exact Below.refl _ _ | with_reducible refine below_al ?_ _ | with_reducible refine below_st ?_ (by first | exact Nat.le_refl _ | exact Nat.le_add_right _ _ | (simp; omega)) _))) hb1; clear hb1)
  go_ret2
  exact ⟨rfl, (by repeat (first | with_reducible exact hB | with_reducible exact Below.refl _ _ | with_reducible refine below_al ?_ _ | with_reducible refine below_st ?_ (by first | exact Nat.le_refl _ | exact Nat.le_add_right _ _ | (simp; omega)) _))⟩

end Go.Proofs.YtdppooflbjlbcaaDoor

/- PoolThree -/
/- Layer 5: NameAndType, MemberRef, in the package and in its reference. -/
namespace Go.Proofs.YtdppooflbjlbcaaDoor
open Go.ChangeShapes Go.WideShapes Go.ChangeAt Go.RowKit Go.PlainAid
set_option linter.unusedSimpArgs false
set_option linter.unusedVariables false

def ntA (L : List Cn) (i : Int) : Int := (tgC L i 12).a
def ntB (L : List Cn) (i : Int) : Int := (tgC L i 12).b
def nt (L : List Cn) (i : Int) : ByteArray × ByteArray × Int :=
  if tgE L i 12 = 0 then
    if tgE L (tgC L i 12).a 1 = 0 then
      if tgE L (tgC L i 12).b 1 = 0 then ((tgC L (tgC L i 12).a 1).s, (tgC L (tgC L i 12).b 1).s, 0) else (⟨#[]⟩, ⟨#[]⟩, tgE L (tgC L i 12).b 1)
    else (⟨#[]⟩, ⟨#[]⟩, tgE L (tgC L i 12).a 1)
  else (⟨#[]⟩, ⟨#[]⟩, tgE L i 12)
def ntN (L : List Cn) (i : Int) : ByteArray := (nt L i).1
def ntD (L : List Cn) (i : Int) : ByteArray := (nt L i).2.1
def ntE (L : List Cn) (i : Int) : Int := (nt L i).2.2
theorem nt_1 {L : List Cn} {i : Int} (h : ¬ tgE L i 12 = 0) : ntN L i = ⟨#[]⟩ ∧ ntD L i = ⟨#[]⟩ ∧ ntE L i = tgE L i 12 := by unfold ntN ntD ntE nt; rw [if_neg h]; exact ⟨rfl, rfl, rfl⟩
theorem nt_2 {L : List Cn} {i : Int} (h : tgE L i 12 = 0) (h2 : ¬ tgE L (tgC L i 12).a 1 = 0) : ntN L i = ⟨#[]⟩ ∧ ntD L i = ⟨#[]⟩ ∧ ntE L i = tgE L (tgC L i 12).a 1 := by unfold ntN ntD ntE nt; rw [if_pos h, if_neg h2]; exact ⟨rfl, rfl, rfl⟩
theorem nt_3 {L : List Cn} {i : Int} (h : tgE L i 12 = 0) (h2 : tgE L (tgC L i 12).a 1 = 0) (h3 : ¬ tgE L (tgC L i 12).b 1 = 0) : ntN L i = ⟨#[]⟩ ∧ ntD L i = ⟨#[]⟩ ∧ ntE L i = tgE L (tgC L i 12).b 1 := by unfold ntN ntD ntE nt; rw [if_pos h, if_pos h2, if_neg h3]; exact ⟨rfl, rfl, rfl⟩
theorem nt_4 {L : List Cn} {i : Int} (h : tgE L i 12 = 0) (h2 : tgE L (tgC L i 12).a 1 = 0) (h3 : tgE L (tgC L i 12).b 1 = 0) : ntN L i = (tgC L (tgC L i 12).a 1).s ∧ ntD L i = (tgC L (tgC L i 12).b 1).s ∧ ntE L i = 0 := by unfold ntN ntD ntE nt; rw [if_pos h, if_pos h2, if_pos h3]; exact ⟨rfl, rfl, rfl⟩

def mtB (t : Int) : Bool := t == 9 || t == 10 || t == 11
def mr (L : List Cn) (i t : Int) : ByteArray × ByteArray × ByteArray × Int :=
  if atE L i = 0 then
    if mtB t = true ∧ (atC L i).t = t then
      if nmE L (atC L i).a 7 = 0 then
        if ntE L (atC L i).b = 0 then (nmS L (atC L i).a 7, ntN L (atC L i).b, ntD L (atC L i).b, 0) else (⟨#[]⟩, ⟨#[]⟩, ⟨#[]⟩, ntE L (atC L i).b)
      else (⟨#[]⟩, ⟨#[]⟩, ⟨#[]⟩, nmE L (atC L i).a 7)
    else (⟨#[]⟩, ⟨#[]⟩, ⟨#[]⟩, 11)
  else (⟨#[]⟩, ⟨#[]⟩, ⟨#[]⟩, atE L i)
def mrC (L : List Cn) (i t : Int) : ByteArray := (mr L i t).1
def mrN (L : List Cn) (i t : Int) : ByteArray := (mr L i t).2.1
def mrD (L : List Cn) (i t : Int) : ByteArray := (mr L i t).2.2.1
def mrE (L : List Cn) (i t : Int) : Int := (mr L i t).2.2.2
theorem mr_1 {L : List Cn} {i t : Int} (h : ¬ atE L i = 0) : mrC L i t = ⟨#[]⟩ ∧ mrN L i t = ⟨#[]⟩ ∧ mrD L i t = ⟨#[]⟩ ∧ mrE L i t = atE L i := by unfold mrC mrN mrD mrE mr; rw [if_neg h]; exact ⟨rfl, rfl, rfl, rfl⟩
theorem mr_2 {L : List Cn} {i t : Int} (h : atE L i = 0) (h2 : ¬ (mtB t = true ∧ (atC L i).t = t)) : mrC L i t = ⟨#[]⟩ ∧ mrN L i t = ⟨#[]⟩ ∧ mrD L i t = ⟨#[]⟩ ∧ mrE L i t = 11 := by unfold mrC mrN mrD mrE mr; rw [if_pos h, if_neg h2]; exact ⟨rfl, rfl, rfl, rfl⟩
theorem mr_3 {L : List Cn} {i t : Int} (h : atE L i = 0) (h2 : mtB t = true ∧ (atC L i).t = t) (h3 : ¬ nmE L (atC L i).a 7 = 0) : mrC L i t = ⟨#[]⟩ ∧ mrN L i t = ⟨#[]⟩ ∧ mrD L i t = ⟨#[]⟩ ∧ mrE L i t = nmE L (atC L i).a 7 := by unfold mrC mrN mrD mrE mr; rw [if_pos h, if_pos h2, if_neg h3]; exact ⟨rfl, rfl, rfl, rfl⟩
theorem mr_4 {L : List Cn} {i t : Int} (h : atE L i = 0) (h2 : mtB t = true ∧ (atC L i).t = t) (h3 : nmE L (atC L i).a 7 = 0) (h4 : ¬ ntE L (atC L i).b = 0) : mrC L i t = ⟨#[]⟩ ∧ mrN L i t = ⟨#[]⟩ ∧ mrD L i t = ⟨#[]⟩ ∧ mrE L i t = ntE L (atC L i).b := by unfold mrC mrN mrD mrE mr; rw [if_pos h, if_pos h2, if_pos h3, if_neg h4]; exact ⟨rfl, rfl, rfl, rfl⟩
theorem mr_5 {L : List Cn} {i t : Int} (h : atE L i = 0) (h2 : mtB t = true ∧ (atC L i).t = t) (h3 : nmE L (atC L i).a 7 = 0) (h4 : ntE L (atC L i).b = 0) : mrC L i t = nmS L (atC L i).a 7 ∧ mrN L i t = ntN L (atC L i).b ∧ mrD L i t = ntD L (atC L i).b ∧ mrE L i t = 0 := by unfold mrC mrN mrD mrE mr; rw [if_pos h, if_pos h2, if_pos h3, if_pos h4]; exact ⟨rfl, rfl, rfl, rfl⟩

theorem nt_any {w0 : World} {A : Option Addr} {n c : Nat} {L : List Cn} (i : Int) (hn : L.length = n) (hN : n ≤ 100000) (hp : Pool w0 w0.heap.size A L) (w : World) (hb : Below w0.heap.size w0 w) :
    Calls Tryd.prog 119 #[.slice A n c, .int .i64 i] w fun e w' => e = .returned (.tuple #[.string (ntN L i), .string (ntD L i), .int .i64 (ntE L i)]) ∧ Below w.heap.size w w' := by
  have HP := Lib.hid (hp.up hb)
  have HN := Lib.hid hn
  clear hp hb hn
  have hB : Below w.heap.size w w := Below.refl _ _
  go_enter Tryd.func119, Tryd.ntmps119
  go_wp2_with (first | (go_at_call 120; refine (tg_any _ _ HN.out hN HP.out _ (by repeat (first | with_reducible exact hB | with_reducible exact Below.refl _ _ | with_reducible refine below_al ?_ _ | with_reducible refine below_st ?_ (by first | exact Nat.le_refl _ | exact Nat.le_add_right _ _ | (simp; omega)) _))).mono ?_; rintro e w1 ⟨rfl, hb1⟩; obtain ⟨hc1, hf1⟩ := bcell hb1; have hz1 := hb1.size; (try simp only [World.size_alloc, World.size_setCell] at hz1); (try have hza : w.heap.size < w1.heap.size := by omega); (try have hzb : w.heap.size + 1 < w1.heap.size := by omega); (try have hzc : w.heap.size + 1 + 1 < w1.heap.size := by omega); (try have hzd : wa.heap.size < w1.heap.size := by omega); (try replace hR := (hb1.block w.heap.size (by first | exact lt_heap hR | (have := lt_heap hR; simp; omega))).trans (by first | with_reducible exact hR | with_reducible exact laid_old hR)); replace hB := below_on (w := w) ((by repeat (first | with_reducible exact hB | with_reducible exact Below.refl _ _ | with_reducible refine below_al ?_ _ | with_reducible refine below_st ?_ (by first | exact Nat.le_refl _ | exact Nat.le_add_right _ _ | (simp; omega)) _))) hb1; clear hb1) | (go_at_call 121; refine (utf_any _ HN.out hN HP.out _ (by repeat (first | with_reducible exact hB | with_reducible exact Below.refl _ _ | with_reducible refine below_al ?_ _ | with_reducible refine below_st ?_ (by first | exact Nat.le_refl _ | exact Nat.le_add_right _ _ | (simp; omega)) _))).mono ?_; rintro e w1 ⟨rfl, hb1⟩; obtain ⟨hc1, hf1⟩ := bcell hb1; have hz1 := hb1.size; (try simp only [World.size_alloc, World.size_setCell] at hz1); (try have hza : w.heap.size < w1.heap.size := by omega); (try have hzb : w.heap.size + 1 < w1.heap.size := by omega); (try have hzc : w.heap.size + 1 + 1 < w1.heap.size := by omega); (try have hzd : wa.heap.size < w1.heap.size := by omega); (try replace hR := (hb1.block w.heap.size (by first | exact lt_heap hR | (have := lt_heap hR; simp; omega))).trans (by first | with_reducible exact hR | with_reducible exact laid_old hR)); replace hB := below_on (w := w) ((by repeat (first | with_reducible exact hB | with_reducible exact Below.refl _ _ | with_reducible refine below_al ?_ _ | with_reducible refine below_st ?_ (by first | exact Nat.le_refl _ | exact Nat.le_add_right _ _ | (simp; omega)) _))) hb1; clear hb1))
  all_goals go_ret3
  · have g := nt_1 (L := L) (i := i) (bneT (by assumption))
    exact ⟨by rw [g.1, g.2.1, g.2.2]; rfl, (by repeat (first | with_reducible exact hB | with_reducible exact Below.refl _ _ | with_reducible refine below_al ?_ _ | with_reducible refine below_st ?_ (by first | exact Nat.le_refl _ | exact Nat.le_add_right _ _ | (simp; omega)) _))⟩
  · have g := nt_2 (L := L) (i := i) (bneF (by assumption)) (bneT (by assumption))
    exact ⟨by rw [g.1, g.2.1, g.2.2]; rfl, (by repeat (first | with_reducible exact hB | with_reducible exact Below.refl _ _ | with_reducible refine below_al ?_ _ | with_reducible refine below_st ?_ (by first | exact Nat.le_refl _ | exact Nat.le_add_right _ _ | (simp; omega)) _))⟩
  · have g := nt_3 (L := L) (i := i) (bneF (by assumption)) (bneF (by assumption)) (bneT (by assumption))
    exact ⟨by rw [g.1, g.2.1, g.2.2]; rfl, (by repeat (first | with_reducible exact hB | with_reducible exact Below.refl _ _ | with_reducible refine below_al ?_ _ | with_reducible refine below_st ?_ (by first | exact Nat.le_refl _ | exact Nat.le_add_right _ _ | (simp; omega)) _))⟩
  · have g := nt_4 (L := L) (i := i) (bneF (by assumption)) (bneF (by assumption)) (bneF (by assumption))
    exact ⟨by rw [g.1, g.2.1, g.2.2]; rfl, (by repeat (first | with_reducible exact hB | with_reducible exact Below.refl _ _ | with_reducible refine below_al ?_ _ | with_reducible refine below_st ?_ (by first | exact Nat.le_refl _ | exact Nat.le_add_right _ _ | (simp; omega)) _))⟩

theorem mt_any (t : Int) (w : World) : Calls Tryd.prog 118 #[.int .i64 t] w fun e w' => e = .returned (.bool (mtB t)) ∧ Below w.heap.size w w' := by
  have hB : Below w.heap.size w w := Below.refl _ _
  go_enter Tryd.func118, Tryd.ntmps118
  go_wp2
  all_goals go_ret
  all_goals exact ⟨by unfold mtB; simp_all, (by repeat (first | with_reducible exact hB | with_reducible exact Below.refl _ _ | with_reducible refine below_al ?_ _ | with_reducible refine below_st ?_ (by first | exact Nat.le_refl _ | exact Nat.le_add_right _ _ | (simp; omega)) _))⟩

theorem mr_any {w0 : World} {A : Option Addr} {n c : Nat} {L : List Cn} (i t : Int) (hn : L.length = n) (hN : n ≤ 100000) (hp : Pool w0 w0.heap.size A L) (w : World) (hb : Below w0.heap.size w0 w) :
    Calls Tryd.prog 94 #[.slice A n c, .int .i64 i, .int .i64 t] w fun e w' => e = .returned (.tuple #[.agg #[.string (mrC L i t), .string (mrN L i t), .string (mrD L i t)], .int .i64 (mrE L i t)]) ∧ Below w.heap.size w w' := by
  have HP := Lib.hid (hp.up hb)
  have HN := Lib.hid hn
  clear hp hb hn
  have hB : Below w.heap.size w w := Below.refl _ _
  go_enter Tryd.func94, Tryd.ntmps94
  go_wp2_with (first | (go_at_call 90; refine (at_any _ HN.out hN HP.out _ (by repeat (first | with_reducible exact hB | with_reducible exact Below.refl _ _ | with_reducible refine below_al ?_ _ | with_reducible refine below_st ?_ (by first | exact Nat.le_refl _ | exact Nat.le_add_right _ _ | (simp; omega)) _))).mono ?_; rintro e wa ⟨rfl, hb1⟩; obtain ⟨hc1, hf1⟩ := bcell hb1; have hz1 := hb1.size; (try simp only [World.size_alloc, World.size_setCell] at hz1); (try have hza : w.heap.size < wa.heap.size := by omega); (try have hzb : w.heap.size + 1 < wa.heap.size := by omega); (try have hzc : w.heap.size + 1 + 1 < wa.heap.size := by omega); (try have hR := first_box hb1); replace hB := below_on (w := w) ((by repeat (first | with_reducible exact hB | with_reducible exact Below.refl _ _ | with_reducible refine below_al ?_ _ | with_reducible refine below_st ?_ (by first | exact Nat.le_refl _ | exact Nat.le_add_right _ _ | (simp; omega)) _))) hb1; clear hb1) | (go_at_call 118; refine (mt_any _ _).mono ?_; rintro e w1 ⟨rfl, hb1⟩; obtain ⟨hc1, hf1⟩ := bcell hb1; have hz1 := hb1.size; (try simp only [World.size_alloc, World.size_setCell] at hz1); (try have hza : w.heap.size < w1.heap.size := by omega); (try have hzb : w.heap.size + 1 < w1.heap.size := by omega); (try have hzc : w.heap.size + 1 + 1 < w1.heap.size := by omega); (try have hzd : wa.heap.size < w1.heap.size := by omega); (try replace hR := (hb1.block w.heap.size (by first | exact lt_heap hR | (have := lt_heap hR; simp; omega))).trans (by first | with_reducible exact hR | with_reducible exact laid_old hR)); replace hB := below_on (w := w) ((by repeat (first | with_reducible exact hB | with_reducible exact Below.refl _ _ | with_reducible refine below_al ?_ _ | with_reducible refine below_st ?_ (by first | exact Nat.le_refl _ | exact Nat.le_add_right _ _ | (simp; omega)) _))) hb1; clear hb1) | (go_at_call 67; refine (cn_any _ HN.out hN HP.out _ (by repeat (first | with_reducible exact hB | with_reducible exact Below.refl _ _ | with_reducible refine below_al ?_ _ | with_reducible refine below_st ?_ (by first | exact Nat.le_refl _ | exact Nat.le_add_right _ _ | (simp; omega)) _))).mono ?_; rintro e w1 ⟨rfl, hb1⟩; obtain ⟨hc1, hf1⟩ := bcell hb1; have hz1 := hb1.size; (try simp only [World.size_alloc, World.size_setCell] at hz1); (try have hza : w.heap.size < w1.heap.size := by omega); (try have hzb : w.heap.size + 1 < w1.heap.size := by omega); (try have hzc : w.heap.size + 1 + 1 < w1.heap.size := by omega); (try have hzd : wa.heap.size < w1.heap.size := by omega); (try replace hR := (hb1.block w.heap.size (by first | exact lt_heap hR | (have := lt_heap hR; simp; omega))).trans (by first | with_reducible exact hR | with_reducible exact laid_old hR)); replace hB := below_on (w := w) ((by repeat (first | with_reducible exact hB | with_reducible exact Below.refl _ _ | with_reducible refine below_al ?_ _ | with_reducible refine below_st ?_ (by first | exact Nat.le_refl _ | exact Nat.le_add_right _ _ | (simp; omega)) _))) hb1; clear hb1) | (go_at_call 119; refine (nt_any _ HN.out hN HP.out _ (by repeat (first | with_reducible exact hB | with_reducible exact Below.refl _ _ | with_reducible refine below_al ?_ _ | with_reducible refine below_st ?_ (by first | exact Nat.le_refl _ | exact Nat.le_add_right _ _ | (simp; omega)) _))).mono ?_; rintro e w1 ⟨rfl, hb1⟩; obtain ⟨hc1, hf1⟩ := bcell hb1; have hz1 := hb1.size; (try simp only [World.size_alloc, World.size_setCell] at hz1); (try have hza : w.heap.size < w1.heap.size := by omega); (try have hzb : w.heap.size + 1 < w1.heap.size := by omega); (try have hzc : w.heap.size + 1 + 1 < w1.heap.size := by omega); (try have hzd : wa.heap.size < w1.heap.size := by omega); (try replace hR := (hb1.block w.heap.size (by first | exact lt_heap hR | (have := lt_heap hR; simp; omega))).trans (by first | with_reducible exact hR | with_reducible exact laid_old hR)); replace hB := below_on (w := w) ((by repeat (first | with_reducible exact hB | with_reducible exact Below.refl _ _ | with_reducible refine below_al ?_ _ | with_reducible refine below_st ?_ (by first | exact Nat.le_refl _ | exact Nat.le_add_right _ _ | (simp; omega)) _))) hb1; clear hb1))
  · have g := mr_1 (L := L) (i := i) (t := t) (bneT (by assumption))
    obtain ⟨r0, r1, r2, q0, q1, q2⟩ := three_cells hR
    refine bodyPost_ret (v := .tuple #[.agg #[.string ⟨#[]⟩, .string ⟨#[]⟩, .string ⟨#[]⟩], .int .i64 (atE L i)]) ?_ rfl ⟨by rw [g.1, g.2.1, g.2.2.1, g.2.2.2], (by repeat (first | with_reducible exact hB | with_reducible exact Below.refl _ _ | with_reducible refine below_al ?_ _ | with_reducible refine below_st ?_ (by first | exact Nat.le_refl _ | exact Nat.le_add_right _ _ | (simp; omega)) _))⟩
    simp [results, Tryd.f94, go_sem, set_same, *]
  · have g := mr_2 (L := L) (i := i) (t := t) (bneF (by assumption)) (fun h => bneT (a := (atC L i).t) (b := t) (by assumption) h.2)
    obtain ⟨r0, r1, r2, q0, q1, q2⟩ := three_cells hR
    refine bodyPost_ret (v := .tuple #[.agg #[.string ⟨#[]⟩, .string ⟨#[]⟩, .string ⟨#[]⟩], .int .i64 11]) ?_ rfl ⟨by rw [g.1, g.2.1, g.2.2.1, g.2.2.2], (by repeat (first | with_reducible exact hB | with_reducible exact Below.refl _ _ | with_reducible refine below_al ?_ _ | with_reducible refine below_st ?_ (by first | exact Nat.le_refl _ | exact Nat.le_add_right _ _ | (simp; omega)) _))⟩
    simp [results, Tryd.f94, go_sem, set_same, r0, r1, r2]
  · have g := mr_3 (L := L) (i := i) (t := t) (bneF (by assumption)) ⟨by assumption, bneF (a := (atC L i).t) (b := t) (by assumption)⟩ (bneT (by assumption))
    obtain ⟨r0, r1, r2, q0, q1, q2⟩ := three_cells hR
    refine bodyPost_ret (v := .tuple #[.agg #[.string ⟨#[]⟩, .string ⟨#[]⟩, .string ⟨#[]⟩], .int .i64 (nmE L (atC L i).a 7)]) ?_ rfl ⟨by rw [g.1, g.2.1, g.2.2.1, g.2.2.2], (by repeat (first | with_reducible exact hB | with_reducible exact Below.refl _ _ | with_reducible refine below_al ?_ _ | with_reducible refine below_st ?_ (by first | exact Nat.le_refl _ | exact Nat.le_add_right _ _ | (simp; omega)) _))⟩
    simp [results, Tryd.f94, go_sem, set_same, r0, r1, r2]
  · have g := mr_4 (L := L) (i := i) (t := t) (bneF (by assumption)) ⟨by assumption, bneF (a := (atC L i).t) (b := t) (by assumption)⟩ (bneF (by assumption)) (bneT (by assumption))
    obtain ⟨r0, r1, r2, q0, q1, q2⟩ := three_cells hR
    refine bodyPost_ret (v := .tuple #[.agg #[.string ⟨#[]⟩, .string ⟨#[]⟩, .string ⟨#[]⟩], .int .i64 (ntE L (atC L i).b)]) ?_ rfl ⟨by rw [g.1, g.2.1, g.2.2.1, g.2.2.2], (by repeat (first | with_reducible exact hB | with_reducible exact Below.refl _ _ | with_reducible refine below_al ?_ _ | with_reducible refine below_st ?_ (by first | exact Nat.le_refl _ | exact Nat.le_add_right _ _ | (simp; omega)) _))⟩
    simp [results, Tryd.f94, go_sem, set_same, r0, r1, r2]
  · have g := mr_5 (L := L) (i := i) (t := t) (bneF (by assumption)) ⟨by assumption, bneF (a := (atC L i).t) (b := t) (by assumption)⟩ (bneF (by assumption)) (bneF (by assumption))
    obtain ⟨r0, r1, r2, q0, q1, q2⟩ := three_cells hR
    refine bodyPost_ret (v := .tuple #[.agg #[.string (nmS L (atC L i).a 7), .string (ntN L (atC L i).b), .string (ntD L (atC L i).b)], .int .i64 0]) ?_ rfl ⟨by rw [g.1, g.2.1, g.2.2.1, g.2.2.2], (by repeat (first | with_reducible exact hB | with_reducible exact Below.refl _ _ | with_reducible refine below_al ?_ _ | with_reducible refine below_st ?_ (by first | exact Nat.le_refl _ | exact Nat.le_add_right _ _ | (simp; omega)) _))⟩
    simp [results, Tryd.f94, go_sem, set_same, r0, r1, r2]
  · have g := mr_2 (L := L) (i := i) (t := t) (bneF (by assumption)) (fun h => (by assumption : ¬ mtB t = true) h.1)
    obtain ⟨r0, r1, r2, q0, q1, q2⟩ := three_cells hR
    refine bodyPost_ret (v := .tuple #[.agg #[.string ⟨#[]⟩, .string ⟨#[]⟩, .string ⟨#[]⟩], .int .i64 11]) ?_ rfl ⟨by rw [g.1, g.2.1, g.2.2.1, g.2.2.2], (by repeat (first | with_reducible exact hB | with_reducible exact Below.refl _ _ | with_reducible refine below_al ?_ _ | with_reducible refine below_st ?_ (by first | exact Nat.le_refl _ | exact Nat.le_add_right _ _ | (simp; omega)) _))⟩
    simp [results, Tryd.f94, go_sem, set_same, r0, r1, r2]

end Go.Proofs.YtdppooflbjlbcaaDoor

/- PoolAdd -/
/- Layer 5: Add, in the package and in its reference. -/
namespace Go.Proofs.YtdppooflbjlbcaaDoor
open Go.ChangeShapes Go.WideShapes Go.ChangeAt Go.RowKit Go.PlainAid
set_option linter.unusedSimpArgs false
set_option linter.unusedVariables false

theorem below_dr {w W : World} (h : Below w.heap.size w W) (q : Nat) : Below w.heap.size w (W.drewN q) := ⟨h.os, h.tape, h.output, h.size, h.block⟩

def cnQ (x y : Cn) : Bool := x.t == y.t && (decide (x.s = y.s) && (x.n == y.n && (x.a == y.a && x.b == y.b)))
theorem cnQ_iff {x y : Cn} : cnQ x y = true ↔ x = y := by
  obtain ⟨a, b, c, d, e⟩ := x
  obtain ⟨a', b', c', d', e'⟩ := y
  simp [cnQ]
theorem toList_iff {a b : ByteArray} : a.toList = b.toList ↔ a = b := by
  have := beq_toListBytes a b
  constructor
  · intro h
    rw [h] at this
    simp at this
    cases a; cases b
    simp_all [ByteArray.toList_eq]
  · rintro rfl; rfl
theorem cn_eqIn (x y : Cn) (w : World) : (Op.equalIn 10000 56 (Value.agg #[Value.int IntKind.i64 (Cn.t x), Value.string (Cn.s x), Value.int IntKind.i64 (Cn.n x), Value.int IntKind.i64 (Cn.a x), Value.int IntKind.i64 (Cn.b x)]) (Value.agg #[Value.int IntKind.i64 (Cn.t y), Value.string (Cn.s y), Value.int IntKind.i64 (Cn.n y), Value.int IntKind.i64 (Cn.a y), Value.int IntKind.i64 (Cn.b y)])).run Tryd.prog w = .ok (cnQ x y) w := by
  by_cases h1 : x.t = y.t
  · by_cases h2 : x.s = y.s
    · by_cases h3 : x.n = y.n
      · by_cases h4 : x.a = y.a
        · by_cases h5 : x.b = y.b <;> simp [go_sem, cnQ, *]
        · simp [go_sem, cnQ, *]
      · simp [go_sem, cnQ, *]
    · have h2' : ¬ x.s.toList = y.s.toList := fun h => h2 (toList_iff.1 h)
      simp [go_sem, cnQ, *]
  · simp [go_sem, cnQ, *]
theorem cn_eql (x y : Cn) (w : World) : (binOp .eql 56 (Value.agg #[Value.int IntKind.i64 (Cn.t x), Value.string (Cn.s x), Value.int IntKind.i64 (Cn.n x), Value.int IntKind.i64 (Cn.a x), Value.int IntKind.i64 (Cn.b x)]) (Value.agg #[Value.int IntKind.i64 (Cn.t y), Value.string (Cn.s y), Value.int IntKind.i64 (Cn.n y), Value.int IntKind.i64 (Cn.a y), Value.int IntKind.i64 (Cn.b y)])).run Tryd.prog w = .ok (.bool (cnQ x y)) w := by rw [run_eql_struct, cn_eqIn]; rfl
theorem cn_neq (x y : Cn) (w : World) : (binOp .neq 56 (Value.agg #[Value.int IntKind.i64 (Cn.t x), Value.string (Cn.s x), Value.int IntKind.i64 (Cn.n x), Value.int IntKind.i64 (Cn.a x), Value.int IntKind.i64 (Cn.b x)]) (Value.agg #[Value.int IntKind.i64 (Cn.t y), Value.string (Cn.s y), Value.int IntKind.i64 (Cn.n y), Value.int IntKind.i64 (Cn.a y), Value.int IntKind.i64 (Cn.b y)])).run Tryd.prog w = .ok (.bool (!cnQ x y)) w := by rw [run_neq_struct, cn_eqIn]; rfl
theorem cnQ_no {x y : Cn} (h : ¬ x = y) : cnQ x y = false := by
  cases e : cnQ x y with
  | false => rfl
  | true => exact absurd (cnQ_iff.1 e) h
theorem cnQ_no' {x y : Cn} (h : ¬ x = y) : cnQ y x = false := cnQ_no (fun e => h e.symm)
theorem cnQ_self (x : Cn) : cnQ x x = true := cnQ_iff.2 rfl
/-- where a constant stands first; the pool's length where it doesn't -/
def ixN (L : List Cn) (x : Cn) : Nat := L.findIdx (fun c => cnQ c x)
theorem ix_here {L : List Cn} {x : Cn} {k : Nat} (h : k ≤ ixN L x) (hk : L[k]? = some x) : ixN L x = k := by
  have hl : k < L.length := by
    rcases Nat.lt_or_ge k L.length with h1 | h1
    · exact h1
    · rw [List.getElem?_eq_none h1] at hk; cases hk
  rcases Nat.lt_or_ge k (ixN L x) with h1 | h1
  · exfalso
    have := List.not_of_lt_findIdx (p := fun c => cnQ c x) h1
    rw [List.getElem?_eq_getElem hl] at hk
    have hx := Option.some.inj hk
    simp only [hx] at this
    rw [cnQ_iff.2 rfl] at this
    cases this
  · exact Nat.le_antisymm h1 h
theorem ix_next {L : List Cn} {x p : Cn} {k : Nat} (h : k ≤ ixN L x) (hk : L[k]? = some p) (hp : cnQ p x = false) : k + 1 ≤ ixN L x := by
  have hl : k < L.length := by
    rcases Nat.lt_or_ge k L.length with h1 | h1
    · exact h1
    · rw [List.getElem?_eq_none h1] at hk; cases hk
  rcases Nat.lt_or_ge k (ixN L x) with h1 | h1
  · exact h1
  · exfalso
    have e : ixN L x = k := Nat.le_antisymm h1 h
    have hlt : ixN L x < L.length := by rw [e]; exact hl
    have := List.findIdx_getElem (p := fun c => cnQ c x) (w := hlt)
    rw [List.getElem?_eq_getElem hl] at hk
    have hx := Option.some.inj hk
    have e' : List.findIdx (fun c => cnQ c x) L = k := e
    simp only [e'] at this
    rw [hx, hp] at this
    cases this
theorem ix_le (L : List Cn) (x : Cn) : ixN L x ≤ L.length := List.findIdx_le_length

def ixI (L : List Cn) (x : Cn) : Int := if ixN L x < L.length then ixN L x else -1

end Go.Proofs.YtdppooflbjlbcaaDoor

/- PoolAddTwo -/
/- Layer 5: rows of constants; append onto them; Add, in the package. -/
namespace Go.Proofs.YtdppooflbjlbcaaDoor
open Go.ChangeShapes Go.WideShapes Go.ChangeAt Go.RowKit Go.PlainAid
set_option linter.unusedSimpArgs false
set_option linter.unusedVariables false

/-! ### the cells of a row of constants -/
def cnCells (p : Cn) : List Value := [.int .i64 p.t, .string p.s, .int .i64 p.n, .int .i64 p.a, .int .i64 p.b]
def pcells (ps : List Cn) : List Value := ps.flatMap cnCells
theorem pcells_cons (q : Cn) (ps : List Cn) : pcells (q :: ps) = cnCells q ++ pcells ps := by unfold pcells; rw [List.flatMap_cons]
theorem pcells_len (ps : List Cn) : (pcells ps).length = ps.length * 5 := by
  induction ps with
  | nil => rfl
  | cons p ps ih => rw [pcells_cons, List.length_append, ih, List.length_cons]; simp [cnCells]; omega
theorem pcells_app (ps qs : List Cn) : pcells (ps ++ qs) = pcells ps ++ pcells qs := by unfold pcells; simp
theorem pcells_one (p : Cn) : pcells [p] = cnCells p := by simp [pcells]
theorem pcells_cell (ps : List Cn) : ∀ u ∈ pcells ps, u.oneCell' = true := by
  intro u hu
  unfold pcells at hu
  obtain ⟨p, _, h⟩ := List.mem_flatMap.1 hu
  simp [cnCells] at h
  rcases h with rfl | rfl | rfl | rfl | rfl <;> rfl
theorem pcells_at : ∀ (ps : List Cn) (i : Nat) (p : Cn), ps[i]? = some p → (pcells ps)[i * 5]? = some (.int .i64 p.t) ∧ (pcells ps)[i * 5 + 1]? = some (.string p.s) ∧ (pcells ps)[i * 5 + 2]? = some (.int .i64 p.n) ∧ (pcells ps)[i * 5 + 3]? = some (.int .i64 p.a) ∧ (pcells ps)[i * 5 + 4]? = some (.int .i64 p.b)
  | [], i, p, h => by simp at h
  | q :: ps, 0, p, h => by
    simp at h; subst h
    exact ⟨rfl, rfl, rfl, rfl, rfl⟩
  | q :: ps, i + 1, p, h => by
    have ih := pcells_at ps i p (by simpa using h)
    rw [pcells_cons]
    have l5 : (cnCells q).length = 5 := rfl
    refine ⟨?_, ?_, ?_, ?_, ?_⟩
    · rw [List.getElem?_append_right (by omega), l5, show (i + 1) * 5 - 5 = i * 5 by omega]; exact ih.1
    · rw [List.getElem?_append_right (by omega), l5, show (i + 1) * 5 + 1 - 5 = i * 5 + 1 by omega]; exact ih.2.1
    · rw [List.getElem?_append_right (by omega), l5, show (i + 1) * 5 + 2 - 5 = i * 5 + 2 by omega]; exact ih.2.2.1
    · rw [List.getElem?_append_right (by omega), l5, show (i + 1) * 5 + 3 - 5 = i * 5 + 3 by omega]; exact ih.2.2.2.1
    · rw [List.getElem?_append_right (by omega), l5, show (i + 1) * 5 + 4 - 5 = i * 5 + 4 by omega]; exact ih.2.2.2.2
theorem pcells_read {w : World} {g o : Nat} {ps : List Cn} (h : ∀ (i : Nat) (c : Cn), ps[i]? = some c → w.cell? ⟨g, o + i * 5, none⟩ = some (.int .i64 c.t) ∧ w.cell? ⟨g, o + i * 5 + 1, none⟩ = some (.string c.s) ∧ w.cell? ⟨g, o + i * 5 + 2, none⟩ = some (.int .i64 c.n) ∧ w.cell? ⟨g, o + i * 5 + 3, none⟩ = some (.int .i64 c.a) ∧ w.cell? ⟨g, o + i * 5 + 4, none⟩ = some (.int .i64 c.b)) :
    ∀ j u, (pcells ps)[j]? = some u → w.cell? ⟨g, o + j, none⟩ = some u := by
  intro j u hj
  have hl : j < ps.length * 5 := by
    rcases Nat.lt_or_ge j (pcells ps).length with h1 | h1
    · rwa [pcells_len] at h1
    · rw [List.getElem?_eq_none h1] at hj; cases hj
  have hi : j / 5 < ps.length := by omega
  have hp : ps[j / 5]? = some (ps[j / 5]'hi) := List.getElem?_eq_getElem _
  obtain ⟨c0, c1, c2, c3, c4⟩ := h _ _ hp
  obtain ⟨d0, d1, d2, d3, d4⟩ := pcells_at _ _ _ hp
  rcases (by omega : j = j / 5 * 5 ∨ j = j / 5 * 5 + 1 ∨ j = j / 5 * 5 + 2 ∨ j = j / 5 * 5 + 3 ∨ j = j / 5 * 5 + 4) with e | e | e | e | e <;> rw [e] at hj ⊢ <;> (try simp only [← Nat.add_assoc])
  · rw [c0, ← hj, d0]
  · rw [c1, ← hj, d1]
  · rw [c2, ← hj, d2]
  · rw [c3, ← hj, d3]
  · rw [c4, ← hj, d4]
theorem Pool.cells {w : World} {B : Nat} {A : Option Addr} {L : List Cn} (h : Pool w B A L) : L = [] ∨ ∃ g o, A = some ⟨g, o, none⟩ ∧ g < B ∧ ∀ j u, (pcells L)[j]? = some u → w.cell? ⟨g, o + j, none⟩ = some u :=
  h.imp id fun ⟨g, o, hA, hg, hc⟩ => ⟨g, o, hA, hg, pcells_read hc⟩
theorem Pool.nil (w : World) (B : Nat) (A : Option Addr) : Pool w B A [] := Or.inl rfl
theorem Pool.of_own {w : World} {base e n c : Nat} {A : Option Addr} {ps : List Cn} (h : w.ownsRow base e 5 (.slice A n c) n (pcells ps)) (hn : ps.length = n) : Pool w w.heap.size A ps := by
  cases ps with
  | nil => exact Or.inl rfl
  | cons p ps =>
    obtain ⟨g, cap, hv, _, hlt⟩ := h.form (by rw [← hn, List.length_cons]; omega)
    have hA : A = some ⟨g, 0, none⟩ := by injection hv
    subst hA
    have hcap : c = cap := by injection hv
    subst hcap
    refine Or.inr ⟨g, 0, rfl, hlt, fun i q hi => ?_⟩
    obtain ⟨a, b, d, e', f⟩ := pcells_at _ i q hi
    have hil : i < (p :: ps).length := by
      rcases Nat.lt_or_ge i (p :: ps).length with h | h
      · exact h
      · rw [List.getElem?_eq_none h] at hi; cases hi
    refine ⟨?_, ?_, ?_, ?_, ?_⟩
    · rw [h.cellAt _ (by omega), Nat.zero_add]; exact a
    · rw [h.cellAt _ (by omega), Nat.zero_add]; exact b
    · rw [h.cellAt _ (by omega), Nat.zero_add]; exact d
    · rw [h.cellAt _ (by omega), Nat.zero_add]; exact e'
    · rw [h.cellAt _ (by omega), Nat.zero_add]; exact f
theorem own_cap {w : World} {base e size n m c : Nat} {A : Option Addr} {xs : List Value} (h : w.ownsRow base e size (.slice A n c) m xs) : m ≤ c := by
  rcases h.2 with ⟨hv, h0⟩ | ⟨g, cap, cur, hv, _, _, h1, _⟩
  · omega
  · have : c = cap := by injection hv
    omega
theorem grown_below {w w' : World} {row : Option Nat} {B : Nat} (h : w.grownBy w' row) (hr : ∀ k, row = some k → B ≤ k) (hB : B ≤ w.heap.size) : Below B w w' :=
  ⟨h.os, h.tape, h.output, h.size, fun k hk => h.block k (Nat.lt_of_lt_of_le hk hB) (fun e => by have := hr k e.symm; omega)⟩

theorem infoC : (Tryd.prog.info? 56).map (fun i => (i.zero, i.size, i.bytes)) = some (some (.agg #[.int .i64 0, .string ⟨#[]⟩, .int .i64 0, .int .i64 0, .int .i64 0]), 5, 48) := by kernel_rfl

/-- append of some constants onto a full row that came in: a new row -/
theorem run_append_pool {w : World} (ty : TypeId) {A : Option Addr} {n : Nat} {L : List Cn} (hL : Pool w w.heap.size A L) (hn : L.length = n) (hN : n ≤ 100000)
    {gx ox m c : Nat} {M : List Cn} (hM : ∀ j u, (pcells M)[j]? = some u → w.cell? ⟨gx, ox + j, none⟩ = some u) (hm : M.length = m) (hm0 : 0 < m) (hmN : m ≤ 100000) :
    ∃ g cap w', (Builtin.append_ #[35, 35] ty #[.slice A n n, .slice (some ⟨gx, ox, none⟩) m c]).run Tryd.prog w = .ok (.slice (some ⟨g, 0, none⟩) (n + m) cap) w' ∧
      w'.ownsRow w.heap.size 56 5 (.slice (some ⟨g, 0, none⟩) (n + m) cap) (n + m) (pcells (L ++ M)) ∧ Below w.heap.size w w' := by
  obtain ⟨i0, hi, hz0, hz1, hz2⟩ := info_parts infoC
  have hl := pcells_len M
  have fin : ∀ v' w', (Builtin.append_ #[35, 35] ty #[.slice A n n, .slice (some ⟨gx, ox, none⟩) m c]).run Tryd.prog w = .ok v' w' → w'.ownsRow w.heap.size 56 5 v' (n + m) (pcells L ++ pcells M) → w.grownBy w' none → ∃ g cap w', (Builtin.append_ #[35, 35] ty #[.slice A n n, .slice (some ⟨gx, ox, none⟩) m c]).run Tryd.prog w = .ok (.slice (some ⟨g, 0, none⟩) (n + m) cap) w' ∧
      w'.ownsRow w.heap.size 56 5 (.slice (some ⟨g, 0, none⟩) (n + m) cap) (n + m) (pcells (L ++ M)) ∧ Below w.heap.size w w' := by
    intro v' w' hr hown hgrow
    obtain ⟨g, cap, rfl, _, _⟩ := hown.form (by omega)
    rw [← pcells_app] at hown
    exact ⟨g, cap, w', hr, hown, grown_below hgrow (fun k hk => by cases hk) (Nat.le_refl _)⟩
  have news : ∀ j u, (pcells M)[j]? = some u → w.cell? ((⟨gx, ox, none⟩ : Addr).add j) = some u := fun j u hj => by rw [Addr.add_lit]; exact hM j u hj
  cases A with
  | some b =>
    obtain ⟨v', w', hr, h1, h2⟩ := run_append_arg_grows (P := Tryd.prog) w 35 ty 56 i0 (.agg #[.int .i64 0, .string ⟨#[]⟩, .int .i64 0, .int .i64 0, .int .i64 0]) 5 48 Tryd.underlying35 hi hz0 hz1 hz2 rfl (by decide) b n n (pcells L) (by rw [pcells_len, hn]) (by
      intro j u hj
      rcases hL.cells with rfl | ⟨g, o, hA, _, hc⟩
      · simp [pcells] at hj
      · obtain rfl := Option.some.inj hA
        rw [Addr.add_lit]
        exact hc j u hj) ⟨gx, ox, none⟩ m c (pcells M) (by rw [hl, hm]) news (by omega) (by unfold maxLen; omega) (by omega)
    exact fin v' w' hr h1 h2
  | none =>
    have h0 : L = [] := by
      rcases hL with rfl | ⟨g, o, hA, _⟩
      · rfl
      · cases hA
    subst h0
    obtain rfl : n = 0 := hn.symm
    obtain ⟨v', w', hr, h1, h2, _⟩ := run_append_own (P := Tryd.prog) w w.heap.size 35 ty 56 i0 (.agg #[.int .i64 0, .string ⟨#[]⟩, .int .i64 0, .int .i64 0, .int .i64 0]) 5 48 Tryd.underlying35 hi hz0 hz1 hz2 rfl (by decide) (.slice none 0 0) 0 [] (World.ownsRow_nil w _ _ 5) ⟨gx, ox, none⟩ m c (pcells M) (by rw [hl, hm]) news (pcells_cell M) (by unfold maxLen; omega) (by omega) (Nat.le_refl _)
    exact fin v' w' hr (by simpa [pcells] using h1) h2
theorem wp_append_pool {w : World} {o : Oper} {a : Act} {K : Act → World → Prop} {Q : Exit → Act → World → Prop} (s x : Operand)
    (hop : o.op = Op.call { callee := Callee.builtin Builtin.append, args := #[s, x], argTypes := #[35, 35] })
    {A : Option Addr} {n : Nat} {L : List Cn} (hs : a.eval s = .slice A n n) (hL : Pool w w.heap.size A L) (hn : L.length = n) (hN : n ≤ 100000)
    {gx ox m c : Nat} {M : List Cn} (hx : a.eval x = .slice (some ⟨gx, ox, none⟩) m c) (hM : ∀ j u, (pcells M)[j]? = some u → w.cell? ⟨gx, ox + j, none⟩ = some u) (hm : M.length = m) (hm0 : 0 < m) (hmN : m ≤ 100000)
    (hK : ∀ g cap w', w'.ownsRow w.heap.size 56 5 (.slice (some ⟨g, 0, none⟩) (n + m) cap) (n + m) (pcells (L ++ M)) → Below w.heap.size w w' → K (a.put o.dst (.slice (some ⟨g, 0, none⟩) (n + m) cap)) w') : o.wp Tryd.prog a w K Q := by
  obtain ⟨g, cap, w', hr, h2, h3⟩ := run_append_pool o.type hL hn hN hM hm hm0 hmN (c := c)
  unfold Oper.wp execOp
  simp only [hop, resolve, invoke, builtin, Sem.run_bind, Sem.run_pure, Result.andThen_ok, List.map_toArray, List.map_cons, List.map_nil, hs, hx, hr]
  exact hK g cap w' h2 h3
theorem wpList_append_pool {w : World} {ops : Array Oper} {rest : List Oper} {o : Oper} {a : Act} {Q : Exit → Act → World → Prop} (hg : o.guard = none) (s x : Operand)
    (hop : o.op = Op.call { callee := Callee.builtin Builtin.append, args := #[s, x], argTypes := #[35, 35] })
    {A : Option Addr} {n : Nat} {L : List Cn} (hs : a.eval s = .slice A n n) (hL : Pool w w.heap.size A L) (hn : L.length = n) (hN : n ≤ 100000)
    {gx ox m c : Nat} {M : List Cn} (hx : a.eval x = .slice (some ⟨gx, ox, none⟩) m c) (hM : ∀ j u, (pcells M)[j]? = some u → w.cell? ⟨gx, ox + j, none⟩ = some u) (hm : M.length = m) (hm0 : 0 < m) (hmN : m ≤ 100000)
    (hK : ∀ g cap w', w'.ownsRow w.heap.size 56 5 (.slice (some ⟨g, 0, none⟩) (n + m) cap) (n + m) (pcells (L ++ M)) → Below w.heap.size w w' → wpList Tryd.prog ops Q rest (a.put o.dst (.slice (some ⟨g, 0, none⟩) (n + m) cap)) w') : wpList Tryd.prog ops Q (o :: rest) a w :=
  wpList_plain hg fun _ hK' => wp_append_pool s x hop hs hL hn hN hx hM hm hm0 hmN fun g cap w' h2 h3 => hK' _ _ (hK g cap w' h2 h3)
theorem step_append_pool {w : World} {ops : Array Oper} {o : Oper} {a : Act} {K : Act → World → Prop} {Q : Exit → Act → World → Prop} {E : Prop} (hgd : o.guard = none) (s x : Operand)
    (hop : o.op = Op.call { callee := Callee.builtin Builtin.append, args := #[s, x], argTypes := #[35, 35] })
    {A : Option Addr} {n : Nat} {L : List Cn} (hs : a.eval s = .slice A n n) (hL : Pool w w.heap.size A L) (hn : L.length = n) (hN : n ≤ 100000)
    {gx ox m c : Nat} {M : List Cn} (hx : a.eval x = .slice (some ⟨gx, ox, none⟩) m c) (hM : ∀ j u, (pcells M)[j]? = some u → w.cell? ⟨gx, ox + j, none⟩ = some u) (hm : M.length = m) (hm0 : 0 < m) (hmN : m ≤ 100000)
    (hK : ∀ g cap w', w'.ownsRow w.heap.size 56 5 (.slice (some ⟨g, 0, none⟩) (n + m) cap) (n + m) (pcells (L ++ M)) → Below w.heap.size w w' → K (a.put o.dst (.slice (some ⟨g, 0, none⟩) (n + m) cap)) w') :
    if Region.wanted o (yielded ops a.tmps) = true then Oper.wp Tryd.prog o a w K Q else E := by
  have hw : Region.wanted o (yielded ops a.tmps) = true := by simp [Region.wanted, hgd]
  rw [if_pos hw]
  exact wp_append_pool s x hop hs hL hn hN hx hM hm hm0 hmN hK
/-- one constant in a block of its own -/
theorem one_cells {W : World} {B : Nat} {x : Cn} {t : TypeId} (h : W.heap[B]? = some (.cells #[.int .i64 x.t, .string x.s, .int .i64 x.n, .int .i64 x.a, .int .i64 x.b] t)) : ∀ j u, (pcells [x])[j]? = some u → W.cell? ⟨B, 0 + j, none⟩ = some u := by
  intro j u hj
  rw [pcells_one] at hj
  have := World.news_of_block h j u (by simpa [cnCells] using hj)
  rwa [Addr.add_lit] at this

end Go.Proofs.YtdppooflbjlbcaaDoor

/- PoolAddThree -/
/- Layer 5: Add, in the package. -/
namespace Go.Proofs.YtdppooflbjlbcaaDoor
open Go.ChangeShapes Go.WideShapes Go.ChangeAt Go.RowKit Go.PlainAid
set_option linter.unusedSimpArgs false
set_option linter.unusedVariables false

def ad (L : List Cn) (x : Cn) : List Cn × Int × Int := if ixN L x < L.length then (L, (ixN L x : Int) + 1, 0) else if 1000 ≤ L.length then (L, 0, 5) else (L ++ [x], (L.length : Int) + 1, 0)
def adL (L : List Cn) (x : Cn) : List Cn := (ad L x).1
def adI (L : List Cn) (x : Cn) : Int := (ad L x).2.1
def adE (L : List Cn) (x : Cn) : Int := (ad L x).2.2
theorem ad_1 {L : List Cn} {x : Cn} (h : ixN L x < L.length) : adL L x = L ∧ adI L x = (ixN L x : Int) + 1 ∧ adE L x = 0 := by unfold adL adI adE ad; rw [if_pos h]; exact ⟨rfl, rfl, rfl⟩
theorem ad_2 {L : List Cn} {x : Cn} (h : ¬ ixN L x < L.length) (h2 : 1000 ≤ L.length) : adL L x = L ∧ adI L x = 0 ∧ adE L x = 5 := by unfold adL adI adE ad; rw [if_neg h, if_pos h2]; exact ⟨rfl, rfl, rfl⟩
theorem ad_3 {L : List Cn} {x : Cn} (h : ¬ ixN L x < L.length) (h2 : ¬ 1000 ≤ L.length) : adL L x = L ++ [x] ∧ adI L x = (L.length : Int) + 1 ∧ adE L x = 0 := by unfold adL adI adE ad; rw [if_neg h, if_neg h2]; exact ⟨rfl, rfl, rfl⟩
theorem ad_len {L : List Cn} {x : Cn} (h : L.length ≤ 100000) : (adL L x).length ≤ 100000 := by
  by_cases h1 : ixN L x < L.length
  · rw [(ad_1 h1).1]; exact h
  · by_cases h2 : 1000 ≤ L.length
    · rw [(ad_2 h1 h2).1]; exact h
    · rw [(ad_3 h1 h2).1, List.length_append]; simp; omega

/-- what the adding functions hand back: a pool, an index, an error -/
def AddRet (w : World) (M : List Cn) (i e : Int) (r : Ending) (w' : World) : Prop :=
  ∃ A n c, r = .returned (.tuple #[.slice A n c, .int .i64 i, .int .i64 e]) ∧ M.length = n ∧ n ≤ c ∧ Pool w' w'.heap.size A M ∧ Below w.heap.size w w'

end Go.Proofs.YtdppooflbjlbcaaDoor

/- PoolAddRef -/
/- Layer 5: Add, in the reference. -/
namespace Go.Proofs.YtdppooflbjlbcaaDoor
open Go.ChangeShapes Go.WideShapes Go.ChangeAt Go.RowKit Go.PlainAid
set_option linter.unusedSimpArgs false
set_option linter.unusedVariables false

theorem new_at {W : World} {o : Obj} {B : Nat} (hB : B = W.heap.size) : (W.alloc o).heap[B]? = some o := by subst hB; exact World.alloc_heap_new _ _
/-- a row of constants that the call has made itself -/
def OwnP (w : World) (base : Nat) (A : Option Addr) (n c : Nat) (L : List Cn) : Prop := L.length = n ∧ n ≤ c ∧ ((n = 0 ∧ c = 0) ∨ w.ownsRow base 56 5 (.slice A n c) n (pcells L))
theorem OwnP.pool {w : World} {base n c : Nat} {A : Option Addr} {L : List Cn} (h : OwnP w base A n c L) : Pool w w.heap.size A L := by
  rcases h with ⟨h1, _, ⟨h2, _⟩ | h2⟩
  · have : L = [] := List.eq_nil_of_length_eq_zero (by omega)
    subst this
    exact Pool.nil _ _ _
  · exact Pool.of_own h2 h1
theorem OwnP.below {w w' : World} {base n c : Nat} {A : Option Addr} {L : List Cn} (h : OwnP w base A n c L) (hb : Below w.heap.size w w') : OwnP w' base A n c L := ⟨h.1, h.2.1, h.2.2.imp id fun h => owns_below h hb⟩
theorem OwnP.more {w : World} {base base' n c : Nat} {A : Option Addr} {L : List Cn} (h : OwnP w base A n c L) (hb : base' ≤ base) : OwnP w base' A n c L :=
  ⟨h.1, h.2.1, h.2.2.imp id fun h => ⟨h.1, h.2.imp id fun ⟨g, cap, cur, h1, h2, h3⟩ => ⟨g, cap, cur, h1, Nat.le_trans hb h2, h3⟩⟩⟩
theorem OwnP.alloc {w : World} {base n c : Nat} {A : Option Addr} {L : List Cn} (h : OwnP w base A n c L) (o : Obj) : OwnP (w.alloc o) base A n c L := h.below ((Below.refl _ _).alloc (Nat.le_refl _) o)
theorem OwnP.drew {w : World} {base n c : Nat} {A : Option Addr} {L : List Cn} (h : OwnP w base A n c L) : OwnP w.drew base A n c L := h.below (Below.refl _ _).drew

theorem run_append_copy {w : World} (ty : TypeId) {B : Nat} {A : Option Addr} {n c : Nat} {L : List Cn} (hL : Pool w w.heap.size A L) (hn : L.length = n) (hN : n ≤ 100000) :
    ∃ A' c' w', (Builtin.append_ #[35, 35] ty #[.slice (some ⟨B, 0, none⟩) 0 0, .slice A n c]).run Tryd.prog w = .ok (.slice A' n c') w' ∧ OwnP w' w.heap.size A' n c' L ∧ Below w.heap.size w w' := by
  rcases hL.cells with rfl | ⟨g, o, rfl, _, hc⟩
  · obtain rfl : n = 0 := hn.symm
    refine ⟨some ⟨B, 0, none⟩, 0, w, ?_, ⟨rfl, Nat.le_refl _, Or.inl ⟨rfl, rfl⟩⟩, Below.refl _ _⟩
    obtain ⟨i0, hi, hz0, hz1, hz2⟩ := info_parts infoC
    cases A with
    | none => simp [Builtin.append_, run_underlying Tryd.underlying35, sizeOf, typeInfo, hi, Builtin.lenOf, Builtin.firstCells, storeCells]
    | some b => simp [Builtin.append_, run_underlying Tryd.underlying35, sizeOf, typeInfo, hi, Builtin.lenOf, Builtin.firstCells, storeCells, loadCells, loadCellsFrom]
  · rcases Nat.eq_zero_or_pos n with h0 | h0
    · subst h0
      obtain rfl : L = [] := List.eq_nil_of_length_eq_zero hn
      refine ⟨some ⟨B, 0, none⟩, 0, w, ?_, ⟨rfl, Nat.le_refl _, Or.inl ⟨rfl, rfl⟩⟩, Below.refl _ _⟩
      obtain ⟨i0, hi, hz0, hz1, hz2⟩ := info_parts infoC
      simp [Builtin.append_, run_underlying Tryd.underlying35, sizeOf, typeInfo, hi, Builtin.lenOf, Builtin.firstCells, storeCells, loadCells, loadCellsFrom]
    · obtain ⟨g', cap, w', hr, h1, h2⟩ := run_append_pool (A := some ⟨B, 0, none⟩) (n := 0) (L := []) (c := c) ty (Pool.nil w _ _) rfl (by omega) hc hn h0 hN
      rw [Nat.zero_add] at hr h1
      exact ⟨_, cap, w', hr, ⟨hn, own_cap h1, Or.inr h1⟩, h2⟩
theorem run_append_own_pool {w : World} (ty : TypeId) {base n c : Nat} {A : Option Addr} {L : List Cn} (hO : OwnP w base A n c L) (hN : n ≤ 100000) (hb : base ≤ w.heap.size)
    {gx ox m cx : Nat} {M : List Cn} (hM : ∀ j u, (pcells M)[j]? = some u → w.cell? ⟨gx, ox + j, none⟩ = some u) (hm : M.length = m) (hm0 : 0 < m) (hmN : m ≤ 100000) :
    ∃ A' c' w', (Builtin.append_ #[35, 35] ty #[.slice A n c, .slice (some ⟨gx, ox, none⟩) m cx]).run Tryd.prog w = .ok (.slice A' (n + m) c') w' ∧ OwnP w' base A' (n + m) c' (L ++ M) ∧ Below base w w' := by
  have hlen : (L ++ M).length = n + m := by rw [List.length_append, hO.1, hm]
  rcases hO.2.2 with ⟨h1, h2⟩ | h
  · subst h1; subst h2
    obtain rfl : L = [] := List.eq_nil_of_length_eq_zero hO.1
    obtain ⟨g', cap, w', hr, h1, h2⟩ := run_append_pool (A := A) (n := 0) (L := []) (c := cx) ty (Pool.nil w _ _) rfl (by omega) hM hm hm0 hmN
    exact ⟨_, cap, w', hr, OwnP.more ⟨hlen, own_cap h1, Or.inr h1⟩ hb, h2.mono hb⟩
  · obtain ⟨i0, hi, hz0, hz1, hz2⟩ := info_parts infoC
    obtain ⟨g, cap, w', hr, h1, h2, _, _⟩ := run_append_lies (P := Tryd.prog) w 35 ty base 56 i0 (.agg #[.int .i64 0, .string ⟨#[]⟩, .int .i64 0, .int .i64 0, .int .i64 0]) 5 48 Tryd.underlying35 hi hz0 hz1 hz2 rfl (by decide) (.slice A n c) n (pcells L) h ⟨gx, ox, none⟩ m cx (pcells M) (by rw [pcells_len, hm]) (fun j u hj => by rw [Addr.add_lit]; exact hM j u hj) (pcells_cell M) hm0 (by unfold maxLen; omega) (by omega) hb w.heap.size rfl
    rw [← pcells_app] at h1
    refine ⟨_, cap, w', hr, ⟨hlen, own_cap h1, Or.inr h1⟩, grown_below h2 (fun k hk => ?_) hb⟩
    rcases h.2 with ⟨hv, _⟩ | ⟨g2, cap2, cur2, hv, hg2, _⟩
    · rw [hv] at hk; cases hk
    · rw [hv] at hk
      have : g2 = k := Option.some.inj hk
      omega
theorem wp_append_copy {w : World} {o : Oper} {a : Act} {K : Act → World → Prop} {Q : Exit → Act → World → Prop} (s x : Operand) (hop : o.op = Op.call { callee := Callee.builtin Builtin.append, args := #[s, x], argTypes := #[35, 35] })
    {B n c : Nat} {A : Option Addr} {L : List Cn} (hs : a.eval s = .slice (some ⟨B, 0, none⟩) 0 0) (hx : a.eval x = .slice A n c) (hL : Pool w w.heap.size A L) (hn : L.length = n) (hN : n ≤ 100000)
    (hK : ∀ A' c' w', OwnP w' w.heap.size A' n c' L → Below w.heap.size w w' → K (a.put o.dst (.slice A' n c')) w') : o.wp Tryd.prog a w K Q := by
  obtain ⟨A', c', w', hr, h2, h3⟩ := run_append_copy o.type (B := B) (c := c) hL hn hN
  unfold Oper.wp execOp
  simp only [hop, resolve, invoke, builtin, Sem.run_bind, Sem.run_pure, Result.andThen_ok, List.map_toArray, List.map_cons, List.map_nil, hs, hx, hr]
  exact hK A' c' w' h2 h3
theorem wpList_append_copy {w : World} {ops : Array Oper} {rest : List Oper} {o : Oper} {a : Act} {Q : Exit → Act → World → Prop} (hg : o.guard = none) (s x : Operand) (hop : o.op = Op.call { callee := Callee.builtin Builtin.append, args := #[s, x], argTypes := #[35, 35] })
    {B n c : Nat} {A : Option Addr} {L : List Cn} (hs : a.eval s = .slice (some ⟨B, 0, none⟩) 0 0) (hx : a.eval x = .slice A n c) (hL : Pool w w.heap.size A L) (hn : L.length = n) (hN : n ≤ 100000)
    (hK : ∀ A' c' w', OwnP w' w.heap.size A' n c' L → Below w.heap.size w w' → wpList Tryd.prog ops Q rest (a.put o.dst (.slice A' n c')) w') : wpList Tryd.prog ops Q (o :: rest) a w :=
  wpList_plain hg fun _ hK' => wp_append_copy s x hop hs hx hL hn hN fun A' c' w' h2 h3 => hK' _ _ (hK A' c' w' h2 h3)
theorem step_append_copy {w : World} {ops : Array Oper} {o : Oper} {a : Act} {K : Act → World → Prop} {Q : Exit → Act → World → Prop} {E : Prop} (hgd : o.guard = none) (s x : Operand) (hop : o.op = Op.call { callee := Callee.builtin Builtin.append, args := #[s, x], argTypes := #[35, 35] })
    {B n c : Nat} {A : Option Addr} {L : List Cn} (hs : a.eval s = .slice (some ⟨B, 0, none⟩) 0 0) (hx : a.eval x = .slice A n c) (hL : Pool w w.heap.size A L) (hn : L.length = n) (hN : n ≤ 100000)
    (hK : ∀ A' c' w', OwnP w' w.heap.size A' n c' L → Below w.heap.size w w' → K (a.put o.dst (.slice A' n c')) w') : if Region.wanted o (yielded ops a.tmps) = true then Oper.wp Tryd.prog o a w K Q else E := by
  have hw : Region.wanted o (yielded ops a.tmps) = true := by simp [Region.wanted, hgd]
  rw [if_pos hw]
  exact wp_append_copy s x hop hs hx hL hn hN hK
theorem wp_append_own {w : World} {o : Oper} {a : Act} {K : Act → World → Prop} {Q : Exit → Act → World → Prop} (s x : Operand) (hop : o.op = Op.call { callee := Callee.builtin Builtin.append, args := #[s, x], argTypes := #[35, 35] })
    {base n c : Nat} {A : Option Addr} {L : List Cn} (hs : a.eval s = .slice A n c) (hO : OwnP w base A n c L) (hN : n ≤ 100000) (hb : base ≤ w.heap.size) {gx ox m cx : Nat} {M : List Cn} (hx : a.eval x = .slice (some ⟨gx, ox, none⟩) m cx) (hM : ∀ j u, (pcells M)[j]? = some u → w.cell? ⟨gx, ox + j, none⟩ = some u) (hm : M.length = m) (hm0 : 0 < m) (hmN : m ≤ 100000)
    (hK : ∀ A' c' w', OwnP w' base A' (n + m) c' (L ++ M) → Below base w w' → K (a.put o.dst (.slice A' (n + m) c')) w') : o.wp Tryd.prog a w K Q := by
  obtain ⟨A', c', w', hr, h2, h3⟩ := run_append_own_pool o.type (cx := cx) hO hN hb hM hm hm0 hmN
  unfold Oper.wp execOp
  simp only [hop, resolve, invoke, builtin, Sem.run_bind, Sem.run_pure, Result.andThen_ok, List.map_toArray, List.map_cons, List.map_nil, hs, hx, hr]
  exact hK A' c' w' h2 h3
theorem wpList_append_own {w : World} {ops : Array Oper} {rest : List Oper} {o : Oper} {a : Act} {Q : Exit → Act → World → Prop} (hg : o.guard = none) (s x : Operand) (hop : o.op = Op.call { callee := Callee.builtin Builtin.append, args := #[s, x], argTypes := #[35, 35] })
    {base n c : Nat} {A : Option Addr} {L : List Cn} (hs : a.eval s = .slice A n c) (hO : OwnP w base A n c L) (hN : n ≤ 100000) (hb : base ≤ w.heap.size) {gx ox m cx : Nat} {M : List Cn} (hx : a.eval x = .slice (some ⟨gx, ox, none⟩) m cx) (hM : ∀ j u, (pcells M)[j]? = some u → w.cell? ⟨gx, ox + j, none⟩ = some u) (hm : M.length = m) (hm0 : 0 < m) (hmN : m ≤ 100000)
    (hK : ∀ A' c' w', OwnP w' base A' (n + m) c' (L ++ M) → Below base w w' → wpList Tryd.prog ops Q rest (a.put o.dst (.slice A' (n + m) c')) w') : wpList Tryd.prog ops Q (o :: rest) a w :=
  wpList_plain hg fun _ hK' => wp_append_own s x hop hs hO hN hb hx hM hm hm0 hmN fun A' c' w' h2 h3 => hK' _ _ (hK A' c' w' h2 h3)
theorem step_append_own {w : World} {ops : Array Oper} {o : Oper} {a : Act} {K : Act → World → Prop} {Q : Exit → Act → World → Prop} {E : Prop} (hgd : o.guard = none) (s x : Operand) (hop : o.op = Op.call { callee := Callee.builtin Builtin.append, args := #[s, x], argTypes := #[35, 35] })
    {base n c : Nat} {A : Option Addr} {L : List Cn} (hs : a.eval s = .slice A n c) (hO : OwnP w base A n c L) (hN : n ≤ 100000) (hb : base ≤ w.heap.size) {gx ox m cx : Nat} {M : List Cn} (hx : a.eval x = .slice (some ⟨gx, ox, none⟩) m cx) (hM : ∀ j u, (pcells M)[j]? = some u → w.cell? ⟨gx, ox + j, none⟩ = some u) (hm : M.length = m) (hm0 : 0 < m) (hmN : m ≤ 100000)
    (hK : ∀ A' c' w', OwnP w' base A' (n + m) c' (L ++ M) → Below base w w' → K (a.put o.dst (.slice A' (n + m) c')) w') : if Region.wanted o (yielded ops a.tmps) = true then Oper.wp Tryd.prog o a w K Q else E := by
  have hw : Region.wanted o (yielded ops a.tmps) = true := by simp [Region.wanted, hgd]
  rw [if_pos hw]
  exact wp_append_own s x hop hs hO hN hb hx hM hm hm0 hmN hK

end Go.Proofs.YtdppooflbjlbcaaDoor

/- PoolAddAll -/
/- Layer 5: AddUTF8, AddClass, AddString, AddMemberRef, in the package and in its reference. -/
namespace Go.Proofs.YtdppooflbjlbcaaDoor
open Go.ChangeShapes Go.WideShapes Go.ChangeAt Go.RowKit Go.PlainAid
set_option linter.unusedSimpArgs false
set_option linter.unusedVariables false

abbrev cu (s : ByteArray) : Cn := ⟨1, s, 0, 0, 0⟩
abbrev ct (t a b : Int) : Cn := ⟨t, ⟨#[]⟩, 0, a, b⟩
def anR (L : List Cn) (t : Int) (s : ByteArray) : List Cn × Int × Int := if (adE L (cu s)) = 0 then if (adE (adL L (cu s)) (ct t (adI L (cu s)) 0)) = 0 then ((adL (adL L (cu s)) (ct t (adI L (cu s)) 0)), (adI (adL L (cu s)) (ct t (adI L (cu s)) 0)), 0) else (L, 0, (adE (adL L (cu s)) (ct t (adI L (cu s)) 0))) else (L, 0, (adE L (cu s)))
def anL (L : List Cn) (t : Int) (s : ByteArray) : List Cn := (anR L t s).1
def anI (L : List Cn) (t : Int) (s : ByteArray) : Int := (anR L t s).2.1
def anE (L : List Cn) (t : Int) (s : ByteArray) : Int := (anR L t s).2.2
theorem an_1 {L : List Cn} {t : Int} {s : ByteArray}  (h1 : ¬ (adE L (cu s)) = 0) : anL L t s = L ∧ anI L t s = 0 ∧ anE L t s = (adE L (cu s)) := by unfold anL anI anE anR; rw [if_neg h1]; exact ⟨rfl, rfl, rfl⟩
theorem an_2 {L : List Cn} {t : Int} {s : ByteArray} (h1 : (adE L (cu s)) = 0) (h2 : ¬ (adE (adL L (cu s)) (ct t (adI L (cu s)) 0)) = 0) : anL L t s = L ∧ anI L t s = 0 ∧ anE L t s = (adE (adL L (cu s)) (ct t (adI L (cu s)) 0)) := by unfold anL anI anE anR; rw [if_pos h1, if_neg h2]; exact ⟨rfl, rfl, rfl⟩
theorem an_3 {L : List Cn} {t : Int} {s : ByteArray} (h1 : (adE L (cu s)) = 0) (h2 : (adE (adL L (cu s)) (ct t (adI L (cu s)) 0)) = 0) : anL L t s = (adL (adL L (cu s)) (ct t (adI L (cu s)) 0)) ∧ anI L t s = (adI (adL L (cu s)) (ct t (adI L (cu s)) 0)) ∧ anE L t s = 0 := by unfold anL anI anE anR; rw [if_pos h1, if_pos h2]; exact ⟨rfl, rfl, rfl⟩
theorem an_len {L : List Cn} {t : Int} {s : ByteArray} (h : L.length ≤ 100000) : (anL L t s).length ≤ 100000 := by
  unfold anL anR
  repeat (split; rotate_left; exact h)
  exact ad_len (ad_len h)
def am2 (L : List Cn) (a b : ByteArray) : List Cn := adL (anL L 7 a) (cu b)
def am2I (L : List Cn) (a b : ByteArray) : Int := adI (anL L 7 a) (cu b)
def am2E (L : List Cn) (a b : ByteArray) : Int := adE (anL L 7 a) (cu b)
def am3 (L : List Cn) (a b d : ByteArray) : List Cn := adL (am2 L a b) (cu d)
def am3I (L : List Cn) (a b d : ByteArray) : Int := adI (am2 L a b) (cu d)
def am3E (L : List Cn) (a b d : ByteArray) : Int := adE (am2 L a b) (cu d)
def am4 (L : List Cn) (a b d : ByteArray) : List Cn := adL (am3 L a b d) (ct 12 (am2I L a b) (am3I L a b d))
def am4I (L : List Cn) (a b d : ByteArray) : Int := adI (am3 L a b d) (ct 12 (am2I L a b) (am3I L a b d))
def am4E (L : List Cn) (a b d : ByteArray) : Int := adE (am3 L a b d) (ct 12 (am2I L a b) (am3I L a b d))
def am5 (L : List Cn) (t : Int) (a b d : ByteArray) : List Cn := adL (am4 L a b d) (ct t (anI L 7 a) (am4I L a b d))
def am5I (L : List Cn) (t : Int) (a b d : ByteArray) : Int := adI (am4 L a b d) (ct t (anI L 7 a) (am4I L a b d))
def am5E (L : List Cn) (t : Int) (a b d : ByteArray) : Int := adE (am4 L a b d) (ct t (anI L 7 a) (am4I L a b d))
def amR (L : List Cn) (t : Int) (a b d : ByteArray) : List Cn × Int × Int := if anE L 7 a = 0 then if am2E L a b = 0 then if am3E L a b d = 0 then if am4E L a b d = 0 then if am5E L t a b d = 0 then (am5 L t a b d, am5I L t a b d, 0) else (L, 0, am5E L t a b d) else (L, 0, am4E L a b d) else (L, 0, am3E L a b d) else (L, 0, am2E L a b) else (L, 0, anE L 7 a)
def amL (L : List Cn) (t : Int) (a b d : ByteArray) : List Cn := (amR L t a b d).1
def amI (L : List Cn) (t : Int) (a b d : ByteArray) : Int := (amR L t a b d).2.1
def amE (L : List Cn) (t : Int) (a b d : ByteArray) : Int := (amR L t a b d).2.2
theorem am_1 {L : List Cn} {t : Int} {a b d : ByteArray}  (h1 : ¬ anE L 7 a = 0) : amL L t a b d = L ∧ amI L t a b d = 0 ∧ amE L t a b d = anE L 7 a := by unfold amL amI amE amR; rw [if_neg h1]; exact ⟨rfl, rfl, rfl⟩
theorem am_2 {L : List Cn} {t : Int} {a b d : ByteArray} (h1 : anE L 7 a = 0) (h2 : ¬ am2E L a b = 0) : amL L t a b d = L ∧ amI L t a b d = 0 ∧ amE L t a b d = am2E L a b := by unfold amL amI amE amR; rw [if_pos h1, if_neg h2]; exact ⟨rfl, rfl, rfl⟩
theorem am_3 {L : List Cn} {t : Int} {a b d : ByteArray} (h1 : anE L 7 a = 0) (h2 : am2E L a b = 0) (h3 : ¬ am3E L a b d = 0) : amL L t a b d = L ∧ amI L t a b d = 0 ∧ amE L t a b d = am3E L a b d := by unfold amL amI amE amR; rw [if_pos h1, if_pos h2, if_neg h3]; exact ⟨rfl, rfl, rfl⟩
theorem am_4 {L : List Cn} {t : Int} {a b d : ByteArray} (h1 : anE L 7 a = 0) (h2 : am2E L a b = 0) (h3 : am3E L a b d = 0) (h4 : ¬ am4E L a b d = 0) : amL L t a b d = L ∧ amI L t a b d = 0 ∧ amE L t a b d = am4E L a b d := by unfold amL amI amE amR; rw [if_pos h1, if_pos h2, if_pos h3, if_neg h4]; exact ⟨rfl, rfl, rfl⟩
theorem am_5 {L : List Cn} {t : Int} {a b d : ByteArray} (h1 : anE L 7 a = 0) (h2 : am2E L a b = 0) (h3 : am3E L a b d = 0) (h4 : am4E L a b d = 0) (h5 : ¬ am5E L t a b d = 0) : amL L t a b d = L ∧ amI L t a b d = 0 ∧ amE L t a b d = am5E L t a b d := by unfold amL amI amE amR; rw [if_pos h1, if_pos h2, if_pos h3, if_pos h4, if_neg h5]; exact ⟨rfl, rfl, rfl⟩
theorem am_6 {L : List Cn} {t : Int} {a b d : ByteArray} (h1 : anE L 7 a = 0) (h2 : am2E L a b = 0) (h3 : am3E L a b d = 0) (h4 : am4E L a b d = 0) (h5 : am5E L t a b d = 0) : amL L t a b d = am5 L t a b d ∧ amI L t a b d = am5I L t a b d ∧ amE L t a b d = 0 := by unfold amL amI amE amR; rw [if_pos h1, if_pos h2, if_pos h3, if_pos h4, if_pos h5]; exact ⟨rfl, rfl, rfl⟩
theorem am5_len {L : List Cn} {t : Int} {a b d : ByteArray} (h : L.length ≤ 100000) : (am5 L t a b d).length ≤ 100000 := ad_len (ad_len (ad_len (ad_len (an_len h))))
theorem am_len {L : List Cn} {t : Int} {a b d : ByteArray} (h : L.length ≤ 100000) : (amL L t a b d).length ≤ 100000 := by
  by_cases h1 : anE L 7 a = 0
  rotate_left
  · rw [(am_1 h1).1]; exact h
  by_cases h2 : am2E L a b = 0
  rotate_left
  · rw [(am_2 h1 h2).1]; exact h
  by_cases h3 : am3E L a b d = 0
  rotate_left
  · rw [(am_3 h1 h2 h3).1]; exact h
  by_cases h4 : am4E L a b d = 0
  rotate_left
  · rw [(am_4 h1 h2 h3 h4).1]; exact h
  by_cases h5 : am5E L t a b d = 0
  rotate_left
  · rw [(am_5 h1 h2 h3 h4 h5).1]; exact h
  rw [(am_6 h1 h2 h3 h4 h5).1]; exact am5_len h

end Go.Proofs.YtdppooflbjlbcaaDoor

/- PoolChk -/
/- Layer 5: what Check asks of texts, in the package and in its reference. -/
namespace Go.Proofs.YtdppooflbjlbcaaDoor
open Go.ChangeShapes Go.WideShapes Go.ChangeAt Go.RowKit Go.PlainAid
set_option linter.unusedSimpArgs false
set_option linter.unusedVariables false

def sgE (d : ByteArray) : Int := (sgOf d.data.toList).2.2
def sgB (d : ByteArray) : Int := (sgOf d.data.toList).2.1.2.1
def dsB (d : ByteArray) : Bool := if paE d = 0 then (if paB d = 86 then false else true) else (if sgE d = 0 then true else false)
theorem pa_sg {d : ByteArray} (h : paE d = 0) : ¬ sgE d = 0 := by
  intro hs
  have h40 : d.data.toList.getD 0 0 = 40 := by
    by_cases e : d.data.toList.getD 0 0 = 40
    · exact e
    · unfold sgE at hs; rw [sg_open e] at hs; cases hs
  by_cases hp : 0 < preN d.data.toList ∧ preN d.data.toList = d.size
  · exfalso
    have hn := hp.1
    have hl : lead d.data.toList = 0 := by
      unfold lead
      cases e : d.data.toList with
      | nil => rfl
      | cons c r =>
        rw [e] at h40
        have : c = 40 := by simpa using h40
        subst this
        rfl
    have hlen : 0 < d.data.toList.length := by
      have := pre_le d.data.toList
      omega
    have hb : ((d.data.toList.getD (lead d.data.toList) 0).toNat : Int) = 40 := by rw [hl, h40]; rfl
    have hv : preN d.data.toList = 0 := by
      unfold preN
      rw [pre_prim (by rw [hl]; exact hlen) (by rw [hb]; decide), hb, pre_bad]
      rw [hl]; decide +kernel
    omega
  · rw [(pa_bad hp).2.2.2] at h; cases h
theorem eqT {a b : Int} (h : (a == b) = true) : a = b := by simpa using h
theorem eqF {a b : Int} (h : (a == b) = false) : ¬ a = b := by simpa using h
theorem ds_1 {d : ByteArray} (h : paE d = 0) : dsB d = (paB d != 86) := by
  unfold dsB; rw [if_pos h]
  by_cases h1 : paB d = 86
  · rw [if_pos h1, h1]; rfl
  · rw [if_neg h1]; simp [h1]
theorem ds_2 {d : ByteArray} (h : ¬ paE d = 0) : dsB d = (sgE d == 0) := by
  unfold dsB; rw [if_neg h]
  by_cases h1 : sgE d = 0
  · rw [if_pos h1, h1]; rfl
  · rw [if_neg h1]; simp [h1]
def clB (n : ByteArray) : Bool := n.toList == [60, 99, 108, 105, 110, 105, 116, 62]
def inB (n : ByteArray) : Bool := n.toList == [60, 105, 110, 105, 116, 62]
def ltB (n : ByteArray) : Bool := Lib.hasPrefix n.data.toList [60]
def ntxE (n d : ByteArray) : Int := if memB n = true then (if dsB d = true then 0 else 13) else 12

theorem ntx_1 {n d : ByteArray} (h : memB n = false) : ntxE n d = 12 := by unfold ntxE; rw [h]; rfl
theorem ntx_2 {n d : ByteArray} (h : memB n = true) (h1 : dsB d = true) : ntxE n d = 0 := by unfold ntxE; rw [h, h1]; rfl
theorem ntx_3 {n d : ByteArray} (h : memB n = true) (h1 : dsB d = false) : ntxE n d = 13 := by unfold ntxE; rw [h, h1]; rfl
def tli (b : Bool) : Int := if b = true then 8 else 0
theorem tli_any (b : Bool) (w : World) : Calls Tryd.prog 108 #[.bool b] w fun e w' => e = .returned (.int .i64 (tli b)) ∧ Below w.heap.size w w' := by
  have hB : Below w.heap.size w w := Below.refl _ _
  cases b
  all_goals
    go_enter Tryd.func108, Tryd.ntmps108
    go_wp2
    go_ret
    exact ⟨rfl, hB⟩

theorem cnt_any (n d : ByteArray) (hn : n.size ≤ 140737488351232) (hd : d.size ≤ 140737488351232) (w : World) : Calls Tryd.prog 143 #[.string n, .string d] w fun e w' => e = .returned (.int .i64 (ntxE n d)) ∧ Below w.heap.size w w' := by
  have hB : Below w.heap.size w w := Below.refl _ _
  go_enter Tryd.func143, Tryd.ntmps143
  go_wp2_with (first | (go_at_call 160; refine (mem_any _ (by omega) _).mono ?_; rintro e w' ⟨rfl, rfl⟩) | (go_at_call 93; refine (parse_any _ (by omega) _).mono ?_; rintro e w1 ⟨rfl, hb1⟩; obtain ⟨hc1, hf1⟩ := bcell hb1; have hz1 := hb1.size; (try simp only [World.size_alloc, World.size_setCell] at hz1); (try have hza : w.heap.size < w1.heap.size := by omega); (try have hzb : w.heap.size + 1 < w1.heap.size := by omega); (try have hzc : w.heap.size + 1 + 1 < w1.heap.size := by omega); (try have hzd : wa.heap.size < w1.heap.size := by omega); (try replace hR := (hb1.block w.heap.size (by first | exact lt_heap hR | (have := lt_heap hR; simp; omega))).trans (by first | with_reducible exact hR | with_reducible exact laid_old hR)); replace hB := below_on (w := w) ((by repeat (first | with_reducible exact hB | with_reducible exact Below.refl _ _ | with_reducible refine below_al ?_ _ | with_reducible refine below_st ?_ (by first | exact Nat.le_refl _ | exact Nat.le_add_right _ _ | (simp; omega)) _))) hb1; clear hb1) | (go_at_call 161; refine (psig_big _ hd _).mono ?_; rintro e w1 ⟨A1, c1, rfl, _, _, hb1⟩; replace hB := below_on (w := w) (by repeat (first | with_reducible exact hB | with_reducible exact Below.refl _ _ | with_reducible refine below_al ?_ _ | with_reducible refine below_st ?_ (by first | exact Nat.le_refl _ | exact Nat.le_add_right _ _ | (simp; omega)) _)) hb1; clear hb1))
  all_goals go_ret
  · exact ⟨by rw [ntx_1 (notT (by assumption))]; rfl, (by repeat (first | with_reducible exact hB | with_reducible exact Below.refl _ _ | with_reducible refine below_al ?_ _ | with_reducible refine below_st ?_ (by first | exact Nat.le_refl _ | exact Nat.le_add_right _ _ | (simp; omega)) _))⟩
  · exact ⟨by rw [ntx_2 (notF (by assumption)) (by rw [ds_1 (by assumption)]; assumption)]; rfl, (by repeat (first | with_reducible exact hB | with_reducible exact Below.refl _ _ | with_reducible refine below_al ?_ _ | with_reducible refine below_st ?_ (by first | exact Nat.le_refl _ | exact Nat.le_add_right _ _ | (simp; omega)) _))⟩
  · exact absurd (eqT (a := sgE d) (by assumption)) (pa_sg (by assumption))
  · exact ⟨by rw [ntx_3 (notF (by assumption)) (by rw [ds_1 (by assumption)]; assumption)]; rfl, (by repeat (first | with_reducible exact hB | with_reducible exact Below.refl _ _ | with_reducible refine below_al ?_ _ | with_reducible refine below_st ?_ (by first | exact Nat.le_refl _ | exact Nat.le_add_right _ _ | (simp; omega)) _))⟩
  · exact ⟨by rw [ntx_2 (notF (by assumption)) (by rw [ds_2 (by assumption)]; assumption)]; rfl, (by repeat (first | with_reducible exact hB | with_reducible exact Below.refl _ _ | with_reducible refine below_al ?_ _ | with_reducible refine below_st ?_ (by first | exact Nat.le_refl _ | exact Nat.le_add_right _ _ | (simp; omega)) _))⟩
  · exact ⟨by rw [ntx_3 (notF (by assumption)) (by rw [ds_2 (by assumption)]; assumption)]; rfl, (by repeat (first | with_reducible exact hB | with_reducible exact Below.refl _ _ | with_reducible refine below_al ?_ _ | with_reducible refine below_st ?_ (by first | exact Nat.le_refl _ | exact Nat.le_add_right _ _ | (simp; omega)) _))⟩

def mbE (t : Int) (n d : ByteArray) : Int :=
  if ((t == 9) == (sgE d == 0)) = true then 13
  else if t = 9 then (if ltB n = true then 12 else 0)
  else if clB n = true then 12
  else if inB n = true then (if t = 11 then 12 else if sgB d = 86 then 0 else 12)
  else 0
theorem mb_1 {t : Int} {n d : ByteArray} (h : ((t == 9) == (sgE d == 0)) = true) : mbE t n d = 13 := by unfold mbE; rw [if_pos h]
theorem mb_r {t : Int} {d : ByteArray} {b : Bool} (h : ((sgE d == 0) == (t == 9)) = b) : ((t == 9) == (sgE d == 0)) = b := by rw [← h]; cases (t == 9) <;> cases (sgE d == 0) <;> rfl
theorem mb_2 {t : Int} {n d : ByteArray} (h : ((t == 9) == (sgE d == 0)) = false) (h1 : (t == 9) = true) (h2 : ltB n = true) : mbE t n d = 12 := by unfold mbE; rw [h, if_neg (by decide), if_pos (eqT h1), h2]; rfl
theorem mb_3 {t : Int} {n d : ByteArray} (h : ((t == 9) == (sgE d == 0)) = false) (h1 : (t == 9) = true) (h2 : ltB n = false) : mbE t n d = 0 := by unfold mbE; rw [h, if_neg (by decide), if_pos (eqT h1), h2]; rfl
theorem mb_4 {t : Int} {n d : ByteArray} (h : ((t == 9) == (sgE d == 0)) = false) (h1 : (t == 9) = false) (h2 : clB n = true) : mbE t n d = 12 := by unfold mbE; rw [h, if_neg (by decide), if_neg (eqF h1), h2]; rfl
theorem mb_5 {t : Int} {n d : ByteArray} (h : ((t == 9) == (sgE d == 0)) = false) (h1 : (t == 9) = false) (h2 : clB n = false) (h3 : inB n = true) (h4 : t = 11) : mbE t n d = 12 := by unfold mbE; rw [h, if_neg (by decide), if_neg (eqF h1), h2, h3, if_neg (by decide), if_pos rfl, if_pos h4]
theorem mb_6 {t : Int} {n d : ByteArray} (h : ((t == 9) == (sgE d == 0)) = false) (h1 : (t == 9) = false) (h2 : clB n = false) (h3 : inB n = true) (h4 : ¬ t = 11) (h5 : (t == 11) = true ∨ (sgB d != 86) = true) : mbE t n d = 12 := by
  unfold mbE; rw [h, if_neg (by decide), if_neg (eqF h1), h2, h3, if_neg (by decide), if_pos rfl, if_neg h4, if_neg]
  rcases h5 with h5 | h5
  · exact absurd (eqT h5) h4
  · exact bneT h5
theorem mb_7 {t : Int} {n d : ByteArray} (h : ((t == 9) == (sgE d == 0)) = false) (h1 : (t == 9) = false) (h2 : clB n = false) (h3 : inB n = true) (h4 : ¬ t = 11) (h5 : (t == 11) = false ∧ (sgB d != 86) = false) : mbE t n d = 0 := by
  unfold mbE; rw [h, if_neg (by decide), if_neg (eqF h1), h2, h3, if_neg (by decide), if_pos rfl, if_neg h4, if_pos (bneF h5.2)]
theorem mb_8 {t : Int} {n d : ByteArray} (h : ((t == 9) == (sgE d == 0)) = false) (h1 : (t == 9) = false) (h2 : clB n = false) (h3 : inB n = false) : mbE t n d = 0 := by unfold mbE; rw [h, if_neg (by decide), if_neg (eqF h1), h2, h3]; rfl
theorem cl_p {n : ByteArray} (h : n.toList = [60, 99, 108, 105, 110, 105, 116, 62]) : clB n = true := by unfold clB; rw [h]; rfl
theorem cl_n {n : ByteArray} (h : ¬ n.toList = [60, 99, 108, 105, 110, 105, 116, 62]) : clB n = false := by unfold clB; simpa using h
theorem in_p {n : ByteArray} (h : n.toList = [60, 105, 110, 105, 116, 62]) : inB n = true := by unfold inB; rw [h]; rfl
theorem in_n {n : ByteArray} (h : ¬ n.toList = [60, 105, 110, 105, 116, 62]) : inB n = false := by unfold inB; simpa using h
theorem lt_is (s : ByteArray) : ltB s = true ↔ 0 < s.size ∧ bt s 0 = 60 := by
  have hl := len_data s
  unfold ltB Lib.hasPrefix
  rw [bt_data]
  cases h : s.data.toList with
  | nil => rw [h] at hl; simp at hl; simp [← hl]
  | cons c l =>
    rw [h] at hl
    simp only [List.length_cons] at hl
    simp only [List.isPrefixOf, List.getD_cons_zero]
    constructor
    · intro h; simp at h; subst h; exact ⟨by omega, rfl⟩
    · rintro ⟨_, h2⟩
      have := u8_yes (c := 60) h2
      subst this; rfl
theorem lt_p {s : ByteArray} (h : 0 < s.size) (h1 : (bt s 0 == 60) = true) : ltB s = true := (lt_is s).2 ⟨h, eqT h1⟩
theorem lt_n {s : ByteArray} (h1 : (bt s 0 == 60) = false) : ltB s = false := by
  cases e : ltB s with
  | false => rfl
  | true => exact absurd ((lt_is s).1 e).2 (eqF h1)
theorem lt_z {s : ByteArray} (h1 : ¬ 0 < s.size) : ltB s = false := by
  cases e : ltB s with
  | false => rfl
  | true => exact absurd ((lt_is s).1 e).1 h1
theorem has60_any (s : ByteArray) (w : World) :
    Calls Tryd.prog 96 #[.string s, .string ⟨#[60]⟩] w fun e w' => e = .returned (.bool (ltB s)) ∧ w = w' :=
  (Tryd.strings_HasPrefix s ⟨#[60]⟩ w).mono fun e w' h => ⟨h.1, h.2.symm⟩

theorem cmb_any (t : Int) (n d : ByteArray) (hn : n.size ≤ 140737488351232) (hd : d.size ≤ 140737488351232) (w : World) : Calls Tryd.prog 144 #[.int .i64 t, .string n, .string d] w fun e w' => e = .returned (.int .i64 (mbE t n d)) ∧ Below w.heap.size w w' := by
  have hB : Below w.heap.size w w := Below.refl _ _
  go_enter Tryd.func144, Tryd.ntmps144
  go_wp2_with (first | (go_at_call 96; refine (has60_any _ _).mono ?_; rintro e w' ⟨rfl, rfl⟩) | (go_at_call 161; refine (psig_big _ hd _).mono ?_; rintro e w1 ⟨A1, c1, rfl, _, _, hb1⟩; replace hB := below_on (w := w) (by repeat (first | with_reducible exact hB | with_reducible exact Below.refl _ _ | with_reducible refine below_al ?_ _ | with_reducible refine below_st ?_ (by first | exact Nat.le_refl _ | exact Nat.le_add_right _ _ | (simp; omega)) _)) hb1; clear hb1))
  all_goals go_ret
  · exact ⟨by rw [mb_1 (d := d) (by assumption)]; rfl, (by repeat (first | with_reducible exact hB | with_reducible exact Below.refl _ _ | with_reducible refine below_al ?_ _ | with_reducible refine below_st ?_ (by first | exact Nat.le_refl _ | exact Nat.le_add_right _ _ | (simp; omega)) _))⟩
  · exact ⟨by rw [mb_2 (d := d) (by assumption) (by assumption) (by assumption)]; rfl, (by repeat (first | with_reducible exact hB | with_reducible exact Below.refl _ _ | with_reducible refine below_al ?_ _ | with_reducible refine below_st ?_ (by first | exact Nat.le_refl _ | exact Nat.le_add_right _ _ | (simp; omega)) _))⟩
  · exact ⟨by rw [mb_3 (d := d) (by assumption) (by assumption) (by assumption)]; rfl, (by repeat (first | with_reducible exact hB | with_reducible exact Below.refl _ _ | with_reducible refine below_al ?_ _ | with_reducible refine below_st ?_ (by first | exact Nat.le_refl _ | exact Nat.le_add_right _ _ | (simp; omega)) _))⟩
  · exact ⟨by rw [mb_4 (d := d) (by assumption) (by assumption) (by assumption)]; rfl, (by repeat (first | with_reducible exact hB | with_reducible exact Below.refl _ _ | with_reducible refine below_al ?_ _ | with_reducible refine below_st ?_ (by first | exact Nat.le_refl _ | exact Nat.le_add_right _ _ | (simp; omega)) _))⟩
  · exact ⟨by rw [mb_5 (d := d) (by assumption) (by assumption) (by assumption) (by assumption) (by assumption)]; rfl, (by repeat (first | with_reducible exact hB | with_reducible exact Below.refl _ _ | with_reducible refine below_al ?_ _ | with_reducible refine below_st ?_ (by first | exact Nat.le_refl _ | exact Nat.le_add_right _ _ | (simp; omega)) _))⟩
  · exact ⟨by rw [mb_6 (d := d) (by assumption) (by assumption) (by assumption) (by assumption) (by assumption) (by assumption)]; rfl, (by repeat (first | with_reducible exact hB | with_reducible exact Below.refl _ _ | with_reducible refine below_al ?_ _ | with_reducible refine below_st ?_ (by first | exact Nat.le_refl _ | exact Nat.le_add_right _ _ | (simp; omega)) _))⟩
  · exact ⟨by rw [mb_7 (d := d) (by assumption) (by assumption) (by assumption) (by assumption) (by assumption) (by assumption)]; rfl, (by repeat (first | with_reducible exact hB | with_reducible exact Below.refl _ _ | with_reducible refine below_al ?_ _ | with_reducible refine below_st ?_ (by first | exact Nat.le_refl _ | exact Nat.le_add_right _ _ | (simp; omega)) _))⟩
  · exact ⟨by rw [mb_8 (d := d) (by assumption) (by assumption) (by assumption) (by assumption)]; rfl, (by repeat (first | with_reducible exact hB | with_reducible exact Below.refl _ _ | with_reducible refine below_al ?_ _ | with_reducible refine below_st ?_ (by first | exact Nat.le_refl _ | exact Nat.le_add_right _ _ | (simp; omega)) _))⟩

end Go.Proofs.YtdppooflbjlbcaaDoor

/- PoolTxt -/
/- Layer 5: checkTexts, contents, in the package and in its reference, tag by tag. -/
namespace Go.Proofs.YtdppooflbjlbcaaDoor
open Go.ChangeShapes Go.WideShapes Go.ChangeAt Go.RowKit Go.PlainAid
set_option linter.unusedSimpArgs false
set_option linter.unusedVariables false

def Bnd (B : Nat) (L : List Cn) : Prop := ∀ c ∈ L, c.s.size ≤ B
abbrev Short (L : List Cn) : Prop := Bnd 2000000 L
abbrev Fits (L : List Cn) : Prop := Bnd 140737488351232 L
theorem Short.fits {L : List Cn} (h : Short L) : Fits L := fun c hc => Nat.le_trans (h c hc) (by decide)
theorem at_mem (L : List Cn) (i : Int) : atC L i ∈ L ∨ atC L i = cnZ := by
  by_cases h : 1 ≤ i ∧ i ≤ L.length
  · have hk : (i - 1).toNat < L.length := by omega
    left
    unfold atC; rw [if_pos h, List.getD_eq_getElem?_getD, List.getElem?_eq_getElem hk]
    exact List.getElem_mem hk
  · right; exact (at_out h).1
theorem at_short {B : Nat} {L : List Cn} (h : Bnd B L) (i : Int) : (atC L i).s.size ≤ B := by
  rcases at_mem L i with h1 | h1
  · exact h _ h1
  · rw [h1]; exact Nat.zero_le _
theorem tg_short {B : Nat} {L : List Cn} (h : Bnd B L) (i t : Int) : (tgC L i t).s.size ≤ B := by
  unfold tgC
  split
  · split
    · exact at_short h i
    · exact Nat.zero_le _
  · exact Nat.zero_le _
theorem ntN_short {B : Nat} {L : List Cn} (h : Bnd B L) (i : Int) : (ntN L i).size ≤ B := by
  unfold ntN nt
  split
  · split
    · split
      · exact tg_short h _ _
      · exact Nat.zero_le _
    · exact Nat.zero_le _
  · exact Nat.zero_le _
theorem ntD_short {B : Nat} {L : List Cn} (h : Bnd B L) (i : Int) : (ntD L i).size ≤ B := by
  unfold ntD nt
  split
  · split
    · split
      · exact tg_short h _ _
      · exact Nat.zero_le _
    · exact Nat.zero_le _
  · exact Nat.zero_le _
theorem tg_here {L : List Cn} {i t : Int} (h : tgE L i t = 0) : ∃ (k : Nat) (p : Cn), i = (k : Int) + 1 ∧ k < L.length ∧ L[k]? = some p ∧ tgC L i t = p := by
  by_cases h1 : 1 ≤ i ∧ i ≤ L.length
  · have hk : (i - 1).toNat < L.length := by omega
    refine ⟨(i - 1).toNat, L[(i - 1).toNat], by omega, hk, List.getElem?_eq_getElem hk, ?_⟩
    have he : atE L i = 0 := by unfold atE; rw [if_pos h1]
    by_cases h2 : (atC L i).t = t
    · rw [(tg_3 he h2).1]
      unfold atC; rw [if_pos h1, List.getD_eq_getElem?_getD, List.getElem?_eq_getElem hk]; rfl
    · rw [(tg_2 he h2).2] at h; cases h
  · have he := (at_out h1).2
    rw [(tg_1 (by rw [he]; decide)).2, he] at h; cases h
def mtx (L : List Cn) (t b : Int) : Int := if ntE L b = 0 then mbE t (ntN L b) (ntD L b) else 0
theorem mtx_1 {L : List Cn} {t b : Int} (h : ¬ ntE L b = 0) : mtx L t b = 0 := by unfold mtx; rw [if_neg h]
theorem mtx_2 {L : List Cn} {t b : Int} (h : ntE L b = 0) : mtx L t b = mbE t (ntN L b) (ntD L b) := by unfold mtx; rw [if_pos h]
def txE (L : List Cn) (t a b : Int) : Int :=
  if t = 7 then pcE (tgC L a 1).s
  else if t = 12 then ntxE (tgC L a 1).s (tgC L b 1).s
  else if mtB t = true then mtx L t b
  else 0
theorem pc_e (s : ByteArray) : pcE s = 0 ∨ pcE s = 13 := by
  cases h : clsB s with
  | true => exact Or.inl (pc_cls h).2.2.2
  | false =>
    cases h1 : fst91 s with
    | true =>
      rw [(pc_arr h h1).2.2.2]
      by_cases hp : 0 < preN s.data.toList ∧ preN s.data.toList = s.size
      · exact Or.inl (pa_ok hp).2.2.2
      · exact Or.inr (pa_bad hp).2.2.2
    | false => exact Or.inr (pc_bad h h1).2.2.2
theorem pc_13 {s : ByteArray} (h : ¬ pcE s = 0) : pcE s = 13 := (pc_e s).resolve_left h

set_option maxHeartbeats 1000000 in
theorem ctx_7 {w0 : World} {A : Option Addr} {n c : Nat} {L : List Cn} (s : ByteArray) (m a b : Int) (hS : Fits L) (ha : tgE L a 1 = 0) (hn : L.length = n) (hN : n ≤ 100000) (hp : Pool w0 w0.heap.size A L) (w : World) (hb : Below w0.heap.size w0 w) :
    Calls Tryd.prog 133 #[.slice A n c, .agg #[.int .i64 7, .string s, .int .i64 m, .int .i64 a, .int .i64 b]] w fun e w' => e = .returned (.int .i64 (pcE (tgC L a 1).s)) ∧ Below w.heap.size w w' := by
  have HP := Lib.hid (hp.up hb)
  have HN := Lib.hid hn
  clear hp hb hn
  have hB : Below w.heap.size w w := Below.refl _ _
  obtain ⟨k, p, k_i, k_l, k_g, k_c⟩ := tg_here ha
  rw [HN.out] at k_l
  subst k_i
  have hz := tg_short hS ((k : Int) + 1) 1
  rw [k_c] at hz ⊢
  rcases HP.out with h0 | ⟨gg, o, rfl, hg, hcell⟩
  · rw [h0] at k_g; cases k_g
  obtain ⟨a0, a1, a2, a3, a4⟩ := hcell k _ k_g
  clear hcell
  have kq0 : (0 : Int) ≤ (k : Int) := by omega
  have kq1 : (k : Int) < (n : Int) := by omega
  go_enter Tryd.func133, Tryd.ntmps133
  go_wp2_with (go_at_call 142; refine (pcc_any _ (by omega) _).mono ?_; rintro e w1 ⟨rfl, hb1⟩; obtain ⟨hc1, hf1⟩ := bcell hb1; have hz1 := hb1.size; (try simp only [World.size_alloc, World.size_setCell] at hz1); (try have hza : w.heap.size < w1.heap.size := by omega); (try have hzb : w.heap.size + 1 < w1.heap.size := by omega); (try have hzc : w.heap.size + 1 + 1 < w1.heap.size := by omega); (try have hzd : wa.heap.size < w1.heap.size := by omega); (try replace hR := (hb1.block w.heap.size (by first | exact lt_heap hR | (have := lt_heap hR; simp; omega))).trans (by first | with_reducible exact hR | with_reducible exact laid_old hR)); replace hB := below_on (w := w) ((by repeat (first | with_reducible exact hB | with_reducible exact Below.refl _ _ | with_reducible refine below_al ?_ _ | with_reducible refine below_st ?_ (by first | exact Nat.le_refl _ | exact Nat.le_add_right _ _ | (simp; omega)) _))) hb1; clear hb1)
  go_ret
  exact ⟨rfl, (by repeat (first | with_reducible exact hB | with_reducible exact Below.refl _ _ | with_reducible refine below_al ?_ _ | with_reducible refine below_st ?_ (by first | exact Nat.le_refl _ | exact Nat.le_add_right _ _ | (simp; omega)) _))⟩

set_option maxHeartbeats 1000000 in
theorem ctx_8 {w0 : World} {A : Option Addr} {n c : Nat} {L : List Cn} (s : ByteArray) (m a b : Int) (hS : Fits L)  (hn : L.length = n) (hN : n ≤ 100000) (hp : Pool w0 w0.heap.size A L) (w : World) (hb : Below w0.heap.size w0 w) :
    Calls Tryd.prog 133 #[.slice A n c, .agg #[.int .i64 8, .string s, .int .i64 m, .int .i64 a, .int .i64 b]] w fun e w' => e = .returned (.int .i64 (0)) ∧ Below w.heap.size w w' := by
  have HP := Lib.hid (hp.up hb)
  have HN := Lib.hid hn
  clear hp hb hn
  have hB : Below w.heap.size w w := Below.refl _ _
  go_enter Tryd.func133, Tryd.ntmps133
  go_wp2
  go_ret
  exact ⟨rfl, (by repeat (first | with_reducible exact hB | with_reducible exact Below.refl _ _ | with_reducible refine below_al ?_ _ | with_reducible refine below_st ?_ (by first | exact Nat.le_refl _ | exact Nat.le_add_right _ _ | (simp; omega)) _))⟩

set_option maxHeartbeats 1000000 in
theorem ctx_12 {w0 : World} {A : Option Addr} {n c : Nat} {L : List Cn} (s : ByteArray) (m a b : Int) (hS : Fits L) (ha : tgE L a 1 = 0) (hb2 : tgE L b 1 = 0) (hn : L.length = n) (hN : n ≤ 100000) (hp : Pool w0 w0.heap.size A L) (w : World) (hb : Below w0.heap.size w0 w) :
    Calls Tryd.prog 133 #[.slice A n c, .agg #[.int .i64 12, .string s, .int .i64 m, .int .i64 a, .int .i64 b]] w fun e w' => e = .returned (.int .i64 (ntxE (tgC L a 1).s (tgC L b 1).s)) ∧ Below w.heap.size w w' := by
  have HP := Lib.hid (hp.up hb)
  have HN := Lib.hid hn
  clear hp hb hn
  have hB : Below w.heap.size w w := Below.refl _ _
  obtain ⟨k, p, k_i, k_l, k_g, k_c⟩ := tg_here ha
  rw [HN.out] at k_l
  obtain ⟨j, q, j_i, j_l, j_g, j_c⟩ := tg_here hb2
  rw [HN.out] at j_l
  subst k_i
  subst j_i
  have hz := tg_short hS ((k : Int) + 1) 1
  have hy := tg_short hS ((j : Int) + 1) 1
  rw [k_c] at hz ⊢
  rw [j_c] at hy ⊢
  rcases HP.out with h0 | ⟨gg, o, rfl, hg, hcell⟩
  · rw [h0] at k_g; cases k_g
  obtain ⟨a0, a1, a2, a3, a4⟩ := hcell k _ k_g
  obtain ⟨b0, b1, b2, b3, b4⟩ := hcell j _ j_g
  clear hcell a0 a2 a3 a4 b0 b2 b3 b4
  have kq0 : (0 : Int) ≤ (k : Int) := by omega
  have kq1 : (k : Int) < (n : Int) := by omega
  have jq0 : (0 : Int) ≤ (j : Int) := by omega
  have jq1 : (j : Int) < (n : Int) := by omega
  go_enter Tryd.func133, Tryd.ntmps133
  go_wp2_with fail
  have hB1 : Below w.heap.size w (w.alloc (.cells #[.int .i64 12, .string s, .int .i64 m, .int .i64 ((k : Int) + 1), .int .i64 ((j : Int) + 1)] 56)) := below_al hB _
  have hz1 : w.heap.size < (w.alloc (.cells #[.int .i64 12, .string s, .int .i64 m, .int .i64 ((k : Int) + 1), .int .i64 ((j : Int) + 1)] 56)).heap.size := by simp
  have K0 : (w.alloc (.cells #[.int .i64 12, .string s, .int .i64 m, .int .i64 ((k : Int) + 1), .int .i64 ((j : Int) + 1)] 56)).heap[w.heap.size]? = some (.cells #[.int .i64 12, .string s, .int .i64 m, .int .i64 ((k : Int) + 1), .int .i64 ((j : Int) + 1)] 56) := World.alloc_heap_new w _
  have x1 := (hB1.cell (p := ⟨gg, o + k * 5 + 1, none⟩) hg).trans a1
  have y1 := (hB1.cell (p := ⟨gg, o + j * 5 + 1, none⟩) hg).trans b1
  generalize w.alloc (.cells #[.int .i64 12, .string s, .int .i64 m, .int .i64 ((k : Int) + 1), .int .i64 ((j : Int) + 1)] 56) = W1 at hB1 hz1 K0 x1 y1 ⊢
  obtain ⟨c0, c1, c2, c3, c4, f0, f1, f2, f3, f4⟩ := five_cells K0
  clear f0 f1 f2 f3 f4 K0 a1 b1 c1 c2
  have hw1 : IntKind.i64.wrap (k : Int) = (k : Int) := by rw [IntKind.wrap_i64]; omega
  have hw2 : IntKind.i64.wrap (j : Int) = (j : Int) := by rw [IntKind.wrap_i64]; omega
  go_region_held3 (fun w' => w'.cell? ⟨w.heap.size, 3, none⟩ = some (.int .i64 ((k : Int) + 1)) ∧ w'.cell? ⟨w.heap.size, 4, none⟩ = some (.int .i64 ((j : Int) + 1)) ∧ w'.cell? ⟨gg, o + k * 5 + 1, none⟩ = some (.string p.s) ∧ w'.cell? ⟨gg, o + j * 5 + 1, none⟩ = some (.string q.s) ∧ w.heap.size < w'.heap.size ∧ Below w.heap.size w w') (((try go_split_ands); (repeat' apply And.intro) <;> (first | assumption | exact (Below.cell hq (by first | (dsimp only; omega) | (simp; omega))).trans (by assumption) | (have := hq.size; omega) | (simp; omega) | exact below_on (w := w) (by assumption) hq | exact Below.drew (by assumption) | exact below_al (by assumption) _ | exact below_al (Below.drew (by assumption)) _ | go_keep)))
    ((go_at_call 143; refine (cnt_any _ _ hz hy _).mono ?_; rintro e wq ⟨rfl, hq⟩))
  all_goals (go_wp2; go_ret; go_split_ands; exact ⟨rfl, by assumption⟩)

set_option maxHeartbeats 1000000 in
theorem ctx_9 {w0 : World} {A : Option Addr} {n c : Nat} {L : List Cn} (s : ByteArray) (m a b : Int) (hS : Fits L)  (hn : L.length = n) (hN : n ≤ 100000) (hp : Pool w0 w0.heap.size A L) (w : World) (hb : Below w0.heap.size w0 w) :
    Calls Tryd.prog 133 #[.slice A n c, .agg #[.int .i64 9, .string s, .int .i64 m, .int .i64 a, .int .i64 b]] w fun e w' => e = .returned (.int .i64 (mtx L 9 b)) ∧ Below w.heap.size w w' := by
  have HP := Lib.hid (hp.up hb)
  have HN := Lib.hid hn
  clear hp hb hn
  have hB : Below w.heap.size w w := Below.refl _ _
  have hz := ntN_short hS b
  have hy := ntD_short hS b
  go_enter Tryd.func133, Tryd.ntmps133
  go_wp2_with (first | (go_at_call 119; refine (nt_any _ HN.out hN HP.out _ (by repeat (first | with_reducible exact hB | with_reducible exact Below.refl _ _ | with_reducible refine below_al ?_ _ | with_reducible refine below_st ?_ (by first | exact Nat.le_refl _ | exact Nat.le_add_right _ _ | (simp; omega)) _))).mono ?_; rintro e w1 ⟨rfl, hb1⟩; obtain ⟨hc1, hf1⟩ := bcell hb1; have hz1 := hb1.size; (try simp only [World.size_alloc, World.size_setCell] at hz1); (try have hza : w.heap.size < w1.heap.size := by omega); (try have hzb : w.heap.size + 1 < w1.heap.size := by omega); (try have hzc : w.heap.size + 1 + 1 < w1.heap.size := by omega); (try have hzd : wa.heap.size < w1.heap.size := by omega); (try replace hR := (hb1.block w.heap.size (by first | exact lt_heap hR | (have := lt_heap hR; simp; omega))).trans (by first | with_reducible exact hR | with_reducible exact laid_old hR)); replace hB := below_on (w := w) ((by repeat (first | with_reducible exact hB | with_reducible exact Below.refl _ _ | with_reducible refine below_al ?_ _ | with_reducible refine below_st ?_ (by first | exact Nat.le_refl _ | exact Nat.le_add_right _ _ | (simp; omega)) _))) hb1; clear hb1) | (go_at_call 144; refine (cmb_any 9 _ _ hz hy _).mono ?_; rintro e w1 ⟨rfl, hb1⟩; obtain ⟨hc1, hf1⟩ := bcell hb1; have hz1 := hb1.size; (try simp only [World.size_alloc, World.size_setCell] at hz1); (try have hza : w.heap.size < w1.heap.size := by omega); (try have hzb : w.heap.size + 1 < w1.heap.size := by omega); (try have hzc : w.heap.size + 1 + 1 < w1.heap.size := by omega); (try have hzd : wa.heap.size < w1.heap.size := by omega); (try replace hR := (hb1.block w.heap.size (by first | exact lt_heap hR | (have := lt_heap hR; simp; omega))).trans (by first | with_reducible exact hR | with_reducible exact laid_old hR)); replace hB := below_on (w := w) ((by repeat (first | with_reducible exact hB | with_reducible exact Below.refl _ _ | with_reducible refine below_al ?_ _ | with_reducible refine below_st ?_ (by first | exact Nat.le_refl _ | exact Nat.le_add_right _ _ | (simp; omega)) _))) hb1; clear hb1))
  all_goals go_ret
  · exact ⟨by rw [mtx_1 (bneT (by assumption))]; rfl, (by repeat (first | with_reducible exact hB | with_reducible exact Below.refl _ _ | with_reducible refine below_al ?_ _ | with_reducible refine below_st ?_ (by first | exact Nat.le_refl _ | exact Nat.le_add_right _ _ | (simp; omega)) _))⟩
  · exact ⟨by rw [mtx_2 (bneF (by assumption))]; rfl, (by repeat (first | with_reducible exact hB | with_reducible exact Below.refl _ _ | with_reducible refine below_al ?_ _ | with_reducible refine below_st ?_ (by first | exact Nat.le_refl _ | exact Nat.le_add_right _ _ | (simp; omega)) _))⟩

set_option maxHeartbeats 1000000 in
theorem ctx_10 {w0 : World} {A : Option Addr} {n c : Nat} {L : List Cn} (s : ByteArray) (m a b : Int) (hS : Fits L)  (hn : L.length = n) (hN : n ≤ 100000) (hp : Pool w0 w0.heap.size A L) (w : World) (hb : Below w0.heap.size w0 w) :
    Calls Tryd.prog 133 #[.slice A n c, .agg #[.int .i64 10, .string s, .int .i64 m, .int .i64 a, .int .i64 b]] w fun e w' => e = .returned (.int .i64 (mtx L 10 b)) ∧ Below w.heap.size w w' := by
  have HP := Lib.hid (hp.up hb)
  have HN := Lib.hid hn
  clear hp hb hn
  have hB : Below w.heap.size w w := Below.refl _ _
  have hz := ntN_short hS b
  have hy := ntD_short hS b
  go_enter Tryd.func133, Tryd.ntmps133
  go_wp2_with (first | (go_at_call 119; refine (nt_any _ HN.out hN HP.out _ (by repeat (first | with_reducible exact hB | with_reducible exact Below.refl _ _ | with_reducible refine below_al ?_ _ | with_reducible refine below_st ?_ (by first | exact Nat.le_refl _ | exact Nat.le_add_right _ _ | (simp; omega)) _))).mono ?_; rintro e w1 ⟨rfl, hb1⟩; obtain ⟨hc1, hf1⟩ := bcell hb1; have hz1 := hb1.size; (try simp only [World.size_alloc, World.size_setCell] at hz1); (try have hza : w.heap.size < w1.heap.size := by omega); (try have hzb : w.heap.size + 1 < w1.heap.size := by omega); (try have hzc : w.heap.size + 1 + 1 < w1.heap.size := by omega); (try have hzd : wa.heap.size < w1.heap.size := by omega); (try replace hR := (hb1.block w.heap.size (by first | exact lt_heap hR | (have := lt_heap hR; simp; omega))).trans (by first | with_reducible exact hR | with_reducible exact laid_old hR)); replace hB := below_on (w := w) ((by repeat (first | with_reducible exact hB | with_reducible exact Below.refl _ _ | with_reducible refine below_al ?_ _ | with_reducible refine below_st ?_ (by first | exact Nat.le_refl _ | exact Nat.le_add_right _ _ | (simp; omega)) _))) hb1; clear hb1) | (go_at_call 144; refine (cmb_any 10 _ _ hz hy _).mono ?_; rintro e w1 ⟨rfl, hb1⟩; obtain ⟨hc1, hf1⟩ := bcell hb1; have hz1 := hb1.size; (try simp only [World.size_alloc, World.size_setCell] at hz1); (try have hza : w.heap.size < w1.heap.size := by omega); (try have hzb : w.heap.size + 1 < w1.heap.size := by omega); (try have hzc : w.heap.size + 1 + 1 < w1.heap.size := by omega); (try have hzd : wa.heap.size < w1.heap.size := by omega); (try replace hR := (hb1.block w.heap.size (by first | exact lt_heap hR | (have := lt_heap hR; simp; omega))).trans (by first | with_reducible exact hR | with_reducible exact laid_old hR)); replace hB := below_on (w := w) ((by repeat (first | with_reducible exact hB | with_reducible exact Below.refl _ _ | with_reducible refine below_al ?_ _ | with_reducible refine below_st ?_ (by first | exact Nat.le_refl _ | exact Nat.le_add_right _ _ | (simp; omega)) _))) hb1; clear hb1))
  all_goals go_ret
  · exact ⟨by rw [mtx_1 (bneT (by assumption))]; rfl, (by repeat (first | with_reducible exact hB | with_reducible exact Below.refl _ _ | with_reducible refine below_al ?_ _ | with_reducible refine below_st ?_ (by first | exact Nat.le_refl _ | exact Nat.le_add_right _ _ | (simp; omega)) _))⟩
  · exact ⟨by rw [mtx_2 (bneF (by assumption))]; rfl, (by repeat (first | with_reducible exact hB | with_reducible exact Below.refl _ _ | with_reducible refine below_al ?_ _ | with_reducible refine below_st ?_ (by first | exact Nat.le_refl _ | exact Nat.le_add_right _ _ | (simp; omega)) _))⟩

set_option maxHeartbeats 1000000 in
theorem ctx_11 {w0 : World} {A : Option Addr} {n c : Nat} {L : List Cn} (s : ByteArray) (m a b : Int) (hS : Fits L)  (hn : L.length = n) (hN : n ≤ 100000) (hp : Pool w0 w0.heap.size A L) (w : World) (hb : Below w0.heap.size w0 w) :
    Calls Tryd.prog 133 #[.slice A n c, .agg #[.int .i64 11, .string s, .int .i64 m, .int .i64 a, .int .i64 b]] w fun e w' => e = .returned (.int .i64 (mtx L 11 b)) ∧ Below w.heap.size w w' := by
  have HP := Lib.hid (hp.up hb)
  have HN := Lib.hid hn
  clear hp hb hn
  have hB : Below w.heap.size w w := Below.refl _ _
  have hz := ntN_short hS b
  have hy := ntD_short hS b
  go_enter Tryd.func133, Tryd.ntmps133
  go_wp2_with (first | (go_at_call 119; refine (nt_any _ HN.out hN HP.out _ (by repeat (first | with_reducible exact hB | with_reducible exact Below.refl _ _ | with_reducible refine below_al ?_ _ | with_reducible refine below_st ?_ (by first | exact Nat.le_refl _ | exact Nat.le_add_right _ _ | (simp; omega)) _))).mono ?_; rintro e w1 ⟨rfl, hb1⟩; obtain ⟨hc1, hf1⟩ := bcell hb1; have hz1 := hb1.size; (try simp only [World.size_alloc, World.size_setCell] at hz1); (try have hza : w.heap.size < w1.heap.size := by omega); (try have hzb : w.heap.size + 1 < w1.heap.size := by omega); (try have hzc : w.heap.size + 1 + 1 < w1.heap.size := by omega); (try have hzd : wa.heap.size < w1.heap.size := by omega); (try replace hR := (hb1.block w.heap.size (by first | exact lt_heap hR | (have := lt_heap hR; simp; omega))).trans (by first | with_reducible exact hR | with_reducible exact laid_old hR)); replace hB := below_on (w := w) ((by repeat (first | with_reducible exact hB | with_reducible exact Below.refl _ _ | with_reducible refine below_al ?_ _ | with_reducible refine below_st ?_ (by first | exact Nat.le_refl _ | exact Nat.le_add_right _ _ | (simp; omega)) _))) hb1; clear hb1) | (go_at_call 144; refine (cmb_any 11 _ _ hz hy _).mono ?_; rintro e w1 ⟨rfl, hb1⟩; obtain ⟨hc1, hf1⟩ := bcell hb1; have hz1 := hb1.size; (try simp only [World.size_alloc, World.size_setCell] at hz1); (try have hza : w.heap.size < w1.heap.size := by omega); (try have hzb : w.heap.size + 1 < w1.heap.size := by omega); (try have hzc : w.heap.size + 1 + 1 < w1.heap.size := by omega); (try have hzd : wa.heap.size < w1.heap.size := by omega); (try replace hR := (hb1.block w.heap.size (by first | exact lt_heap hR | (have := lt_heap hR; simp; omega))).trans (by first | with_reducible exact hR | with_reducible exact laid_old hR)); replace hB := below_on (w := w) ((by repeat (first | with_reducible exact hB | with_reducible exact Below.refl _ _ | with_reducible refine below_al ?_ _ | with_reducible refine below_st ?_ (by first | exact Nat.le_refl _ | exact Nat.le_add_right _ _ | (simp; omega)) _))) hb1; clear hb1))
  all_goals go_ret
  · exact ⟨by rw [mtx_1 (bneT (by assumption))]; rfl, (by repeat (first | with_reducible exact hB | with_reducible exact Below.refl _ _ | with_reducible refine below_al ?_ _ | with_reducible refine below_st ?_ (by first | exact Nat.le_refl _ | exact Nat.le_add_right _ _ | (simp; omega)) _))⟩
  · exact ⟨by rw [mtx_2 (bneF (by assumption))]; rfl, (by repeat (first | with_reducible exact hB | with_reducible exact Below.refl _ _ | with_reducible refine below_al ?_ _ | with_reducible refine below_st ?_ (by first | exact Nat.le_refl _ | exact Nat.le_add_right _ _ | (simp; omega)) _))⟩

end Go.Proofs.YtdppooflbjlbcaaDoor

/- PoolIx -/
/- Layer 5: checkIndexes, both, Known, formed, checkConst, in the package and in its reference, tag by tag. -/
namespace Go.Proofs.YtdppooflbjlbcaaDoor
open Go.ChangeShapes Go.WideShapes Go.ChangeAt Go.RowKit Go.PlainAid
set_option linter.unusedSimpArgs false
set_option linter.unusedVariables false

/-- what the indexes of a constant of tag t say, the texts not read -/
def bxE (L : List Cn) (t a b : Int) : Int :=
  if t = 7 ∨ t = 8 then tgE L a 1
  else if t = 12 then (if tgE L a 1 = 0 then tgE L b 1 else tgE L a 1)
  else (if tgE L a 7 = 0 then tgE L b 12 else tgE L a 7)
def ixE (L : List Cn) (t a b : Int) : Int := if bxE L t a b = 0 then txE L t a b else bxE L t a b
theorem ix_bad {L : List Cn} {t a b : Int} (h : ¬ bxE L t a b = 0) : ixE L t a b = bxE L t a b := by unfold ixE; rw [if_neg h]
theorem ix_ok {L : List Cn} {t a b : Int} (h : bxE L t a b = 0) : ixE L t a b = txE L t a b := by unfold ixE; rw [if_pos h]
theorem bx7 (L : List Cn) (a b : Int) : bxE L 7 a b = tgE L a 1 := by unfold bxE; rw [if_pos (by decide)]
theorem bx8 (L : List Cn) (a b : Int) : bxE L 8 a b = tgE L a 1 := by unfold bxE; rw [if_pos (by decide)]
theorem bx12_1 {L : List Cn} {a b : Int} (h : ¬ tgE L a 1 = 0) : bxE L 12 a b = tgE L a 1 := by unfold bxE; rw [if_neg (by decide), if_pos rfl, if_neg h]
theorem bx12_2 {L : List Cn} {a b : Int} (h : tgE L a 1 = 0) : bxE L 12 a b = tgE L b 1 := by unfold bxE; rw [if_neg (by decide), if_pos rfl, if_pos h]
theorem bxm_1 {L : List Cn} {t a b : Int} (ht : 9 ≤ t ∧ t ≤ 11) (h : ¬ tgE L a 7 = 0) : bxE L t a b = tgE L a 7 := by unfold bxE; rw [if_neg (by omega), if_neg (by omega), if_neg h]
theorem bxm_2 {L : List Cn} {t a b : Int} (ht : 9 ≤ t ∧ t ≤ 11) (h : tgE L a 7 = 0) : bxE L t a b = tgE L b 12 := by unfold bxE; rw [if_neg (by omega), if_neg (by omega), if_pos h]
theorem tx7 (L : List Cn) (a b : Int) : txE L 7 a b = pcE (tgC L a 1).s := by unfold txE; rw [if_pos rfl]
theorem tx8 (L : List Cn) (a b : Int) : txE L 8 a b = 0 := rfl
theorem tx12 (L : List Cn) (a b : Int) : txE L 12 a b = ntxE (tgC L a 1).s (tgC L b 1).s := by unfold txE; rw [if_neg (by decide), if_pos rfl]
theorem txm {L : List Cn} {t a b : Int} (ht : 9 ≤ t ∧ t ≤ 11) : txE L t a b = mtx L t b := by
  unfold txE
  rw [if_neg (by omega), if_neg (by omega), if_pos]
  rcases (by omega : t = 9 ∨ t = 10 ∨ t = 11) with rfl | rfl | rfl <;> rfl

set_option maxHeartbeats 1000000 in
theorem chx_7 {w0 : World} {A : Option Addr} {n c : Nat} {L : List Cn} (s : ByteArray) (m a b : Int) (hS : Fits L) (hn : L.length = n) (hN : n ≤ 100000) (hp : Pool w0 w0.heap.size A L) (w : World) (hb : Below w0.heap.size w0 w) :
    Calls Tryd.prog 109 #[.slice A n c, .agg #[.int .i64 7, .string s, .int .i64 m, .int .i64 a, .int .i64 b]] w fun e w' => e = .returned (.int .i64 (ixE L 7 a b)) ∧ Below w.heap.size w w' := by
  have HP := Lib.hid (hp.up hb)
  have HN := Lib.hid hn
  clear hp hb hn
  have hB : Below w.heap.size w w := Below.refl _ _
  go_enter Tryd.func109, Tryd.ntmps109
  go_wp2_with (first | (go_at_call 120; refine (tg_any _ _ HN.out hN HP.out _ (by repeat (first | with_reducible exact hB | with_reducible exact Below.refl _ _ | with_reducible refine below_al ?_ _ | with_reducible refine below_st ?_ (by first | exact Nat.le_refl _ | exact Nat.le_add_right _ _ | (simp; omega)) _))).mono ?_; rintro e w1 ⟨rfl, hb1⟩; obtain ⟨hc1, hf1⟩ := bcell hb1; have hz1 := hb1.size; (try simp only [World.size_alloc, World.size_setCell] at hz1); (try have hza : w.heap.size < w1.heap.size := by omega); (try have hzb : w.heap.size + 1 < w1.heap.size := by omega); (try have hzc : w.heap.size + 1 + 1 < w1.heap.size := by omega); (try have hzd : wa.heap.size < w1.heap.size := by omega); (try replace hR := (hb1.block w.heap.size (by first | exact lt_heap hR | (have := lt_heap hR; simp; omega))).trans (by first | with_reducible exact hR | with_reducible exact laid_old hR)); replace hB := below_on (w := w) ((by repeat (first | with_reducible exact hB | with_reducible exact Below.refl _ _ | with_reducible refine below_al ?_ _ | with_reducible refine below_st ?_ (by first | exact Nat.le_refl _ | exact Nat.le_add_right _ _ | (simp; omega)) _))) hb1; clear hb1) | (go_at_call 118; refine (mt_any _ _).mono ?_; rintro e w1 ⟨rfl, hb1⟩; obtain ⟨hc1, hf1⟩ := bcell hb1; have hz1 := hb1.size; (try simp only [World.size_alloc, World.size_setCell] at hz1); (try have hza : w.heap.size < w1.heap.size := by omega); (try have hzb : w.heap.size + 1 < w1.heap.size := by omega); (try have hzc : w.heap.size + 1 + 1 < w1.heap.size := by omega); (try have hzd : wa.heap.size < w1.heap.size := by omega); (try replace hR := (hb1.block w.heap.size (by first | exact lt_heap hR | (have := lt_heap hR; simp; omega))).trans (by first | with_reducible exact hR | with_reducible exact laid_old hR)); replace hB := below_on (w := w) ((by repeat (first | with_reducible exact hB | with_reducible exact Below.refl _ _ | with_reducible refine below_al ?_ _ | with_reducible refine below_st ?_ (by first | exact Nat.le_refl _ | exact Nat.le_add_right _ _ | (simp; omega)) _))) hb1; clear hb1) | (go_at_call 133; refine (ctx_7 _ _ _ _ hS (bneF (by with_reducible assumption)) HN.out hN HP.out _ (by repeat (first | with_reducible exact hB | with_reducible exact Below.refl _ _ | with_reducible refine below_al ?_ _ | with_reducible refine below_st ?_ (by first | exact Nat.le_refl _ | exact Nat.le_add_right _ _ | (simp; omega)) _))).mono ?_; rintro e w1 ⟨rfl, hb1⟩; obtain ⟨hc1, hf1⟩ := bcell hb1; have hz1 := hb1.size; (try simp only [World.size_alloc, World.size_setCell] at hz1); (try have hza : w.heap.size < w1.heap.size := by omega); (try have hzb : w.heap.size + 1 < w1.heap.size := by omega); (try have hzc : w.heap.size + 1 + 1 < w1.heap.size := by omega); (try have hzd : wa.heap.size < w1.heap.size := by omega); (try replace hR := (hb1.block w.heap.size (by first | exact lt_heap hR | (have := lt_heap hR; simp; omega))).trans (by first | with_reducible exact hR | with_reducible exact laid_old hR)); replace hB := below_on (w := w) ((by repeat (first | with_reducible exact hB | with_reducible exact Below.refl _ _ | with_reducible refine below_al ?_ _ | with_reducible refine below_st ?_ (by first | exact Nat.le_refl _ | exact Nat.le_add_right _ _ | (simp; omega)) _))) hb1; clear hb1))
  all_goals go_ret
  · exact ⟨by rw [ix_bad (by rw [bx7]; exact (bneT (by with_reducible assumption))), bx7]; rfl, (by repeat (first | with_reducible exact hB | with_reducible exact Below.refl _ _ | with_reducible refine below_al ?_ _ | with_reducible refine below_st ?_ (by first | exact Nat.le_refl _ | exact Nat.le_add_right _ _ | (simp; omega)) _))⟩
  · exact ⟨by rw [ix_ok (by rw [bx7]; exact (bneF (by with_reducible assumption))), tx7]; rfl, (by repeat (first | with_reducible exact hB | with_reducible exact Below.refl _ _ | with_reducible refine below_al ?_ _ | with_reducible refine below_st ?_ (by first | exact Nat.le_refl _ | exact Nat.le_add_right _ _ | (simp; omega)) _))⟩

set_option maxHeartbeats 1000000 in
theorem chx_8 {w0 : World} {A : Option Addr} {n c : Nat} {L : List Cn} (s : ByteArray) (m a b : Int) (hS : Fits L) (hn : L.length = n) (hN : n ≤ 100000) (hp : Pool w0 w0.heap.size A L) (w : World) (hb : Below w0.heap.size w0 w) :
    Calls Tryd.prog 109 #[.slice A n c, .agg #[.int .i64 8, .string s, .int .i64 m, .int .i64 a, .int .i64 b]] w fun e w' => e = .returned (.int .i64 (ixE L 8 a b)) ∧ Below w.heap.size w w' := by
  have HP := Lib.hid (hp.up hb)
  have HN := Lib.hid hn
  clear hp hb hn
  have hB : Below w.heap.size w w := Below.refl _ _
  go_enter Tryd.func109, Tryd.ntmps109
  go_wp2_with (first | (go_at_call 120; refine (tg_any _ _ HN.out hN HP.out _ (by repeat (first | with_reducible exact hB | with_reducible exact Below.refl _ _ | with_reducible refine below_al ?_ _ | with_reducible refine below_st ?_ (by first | exact Nat.le_refl _ | exact Nat.le_add_right _ _ | (simp; omega)) _))).mono ?_; rintro e w1 ⟨rfl, hb1⟩; obtain ⟨hc1, hf1⟩ := bcell hb1; have hz1 := hb1.size; (try simp only [World.size_alloc, World.size_setCell] at hz1); (try have hza : w.heap.size < w1.heap.size := by omega); (try have hzb : w.heap.size + 1 < w1.heap.size := by omega); (try have hzc : w.heap.size + 1 + 1 < w1.heap.size := by omega); (try have hzd : wa.heap.size < w1.heap.size := by omega); (try replace hR := (hb1.block w.heap.size (by first | exact lt_heap hR | (have := lt_heap hR; simp; omega))).trans (by first | with_reducible exact hR | with_reducible exact laid_old hR)); replace hB := below_on (w := w) ((by repeat (first | with_reducible exact hB | with_reducible exact Below.refl _ _ | with_reducible refine below_al ?_ _ | with_reducible refine below_st ?_ (by first | exact Nat.le_refl _ | exact Nat.le_add_right _ _ | (simp; omega)) _))) hb1; clear hb1) | (go_at_call 118; refine (mt_any _ _).mono ?_; rintro e w1 ⟨rfl, hb1⟩; obtain ⟨hc1, hf1⟩ := bcell hb1; have hz1 := hb1.size; (try simp only [World.size_alloc, World.size_setCell] at hz1); (try have hza : w.heap.size < w1.heap.size := by omega); (try have hzb : w.heap.size + 1 < w1.heap.size := by omega); (try have hzc : w.heap.size + 1 + 1 < w1.heap.size := by omega); (try have hzd : wa.heap.size < w1.heap.size := by omega); (try replace hR := (hb1.block w.heap.size (by first | exact lt_heap hR | (have := lt_heap hR; simp; omega))).trans (by first | with_reducible exact hR | with_reducible exact laid_old hR)); replace hB := below_on (w := w) ((by repeat (first | with_reducible exact hB | with_reducible exact Below.refl _ _ | with_reducible refine below_al ?_ _ | with_reducible refine below_st ?_ (by first | exact Nat.le_refl _ | exact Nat.le_add_right _ _ | (simp; omega)) _))) hb1; clear hb1) | (go_at_call 133; refine (ctx_8 _ _ _ _ hS HN.out hN HP.out _ (by repeat (first | with_reducible exact hB | with_reducible exact Below.refl _ _ | with_reducible refine below_al ?_ _ | with_reducible refine below_st ?_ (by first | exact Nat.le_refl _ | exact Nat.le_add_right _ _ | (simp; omega)) _))).mono ?_; rintro e w1 ⟨rfl, hb1⟩; obtain ⟨hc1, hf1⟩ := bcell hb1; have hz1 := hb1.size; (try simp only [World.size_alloc, World.size_setCell] at hz1); (try have hza : w.heap.size < w1.heap.size := by omega); (try have hzb : w.heap.size + 1 < w1.heap.size := by omega); (try have hzc : w.heap.size + 1 + 1 < w1.heap.size := by omega); (try have hzd : wa.heap.size < w1.heap.size := by omega); (try replace hR := (hb1.block w.heap.size (by first | exact lt_heap hR | (have := lt_heap hR; simp; omega))).trans (by first | with_reducible exact hR | with_reducible exact laid_old hR)); replace hB := below_on (w := w) ((by repeat (first | with_reducible exact hB | with_reducible exact Below.refl _ _ | with_reducible refine below_al ?_ _ | with_reducible refine below_st ?_ (by first | exact Nat.le_refl _ | exact Nat.le_add_right _ _ | (simp; omega)) _))) hb1; clear hb1))
  all_goals go_ret
  · exact ⟨by rw [ix_bad (by rw [bx8]; exact (bneT (by with_reducible assumption))), bx8]; rfl, (by repeat (first | with_reducible exact hB | with_reducible exact Below.refl _ _ | with_reducible refine below_al ?_ _ | with_reducible refine below_st ?_ (by first | exact Nat.le_refl _ | exact Nat.le_add_right _ _ | (simp; omega)) _))⟩
  · exact ⟨by rw [ix_ok (by rw [bx8]; exact (bneF (by with_reducible assumption))), tx8]; rfl, (by repeat (first | with_reducible exact hB | with_reducible exact Below.refl _ _ | with_reducible refine below_al ?_ _ | with_reducible refine below_st ?_ (by first | exact Nat.le_refl _ | exact Nat.le_add_right _ _ | (simp; omega)) _))⟩

set_option maxHeartbeats 1000000 in
theorem chx_12 {w0 : World} {A : Option Addr} {n c : Nat} {L : List Cn} (s : ByteArray) (m a b : Int) (hS : Fits L) (hn : L.length = n) (hN : n ≤ 100000) (hp : Pool w0 w0.heap.size A L) (w : World) (hb : Below w0.heap.size w0 w) :
    Calls Tryd.prog 109 #[.slice A n c, .agg #[.int .i64 12, .string s, .int .i64 m, .int .i64 a, .int .i64 b]] w fun e w' => e = .returned (.int .i64 (ixE L 12 a b)) ∧ Below w.heap.size w w' := by
  have HP := Lib.hid (hp.up hb)
  have HN := Lib.hid hn
  clear hp hb hn
  have hB : Below w.heap.size w w := Below.refl _ _
  go_enter Tryd.func109, Tryd.ntmps109
  go_wp2_with (first | (go_at_call 120; refine (tg_any _ _ HN.out hN HP.out _ (by repeat (first | with_reducible exact hB | with_reducible exact Below.refl _ _ | with_reducible refine below_al ?_ _ | with_reducible refine below_st ?_ (by first | exact Nat.le_refl _ | exact Nat.le_add_right _ _ | (simp; omega)) _))).mono ?_; rintro e w1 ⟨rfl, hb1⟩; obtain ⟨hc1, hf1⟩ := bcell hb1; have hz1 := hb1.size; (try simp only [World.size_alloc, World.size_setCell] at hz1); (try have hza : w.heap.size < w1.heap.size := by omega); (try have hzb : w.heap.size + 1 < w1.heap.size := by omega); (try have hzc : w.heap.size + 1 + 1 < w1.heap.size := by omega); (try have hzd : wa.heap.size < w1.heap.size := by omega); (try replace hR := (hb1.block w.heap.size (by first | exact lt_heap hR | (have := lt_heap hR; simp; omega))).trans (by first | with_reducible exact hR | with_reducible exact laid_old hR)); replace hB := below_on (w := w) ((by repeat (first | with_reducible exact hB | with_reducible exact Below.refl _ _ | with_reducible refine below_al ?_ _ | with_reducible refine below_st ?_ (by first | exact Nat.le_refl _ | exact Nat.le_add_right _ _ | (simp; omega)) _))) hb1; clear hb1) | (go_at_call 118; refine (mt_any _ _).mono ?_; rintro e w1 ⟨rfl, hb1⟩; obtain ⟨hc1, hf1⟩ := bcell hb1; have hz1 := hb1.size; (try simp only [World.size_alloc, World.size_setCell] at hz1); (try have hza : w.heap.size < w1.heap.size := by omega); (try have hzb : w.heap.size + 1 < w1.heap.size := by omega); (try have hzc : w.heap.size + 1 + 1 < w1.heap.size := by omega); (try have hzd : wa.heap.size < w1.heap.size := by omega); (try replace hR := (hb1.block w.heap.size (by first | exact lt_heap hR | (have := lt_heap hR; simp; omega))).trans (by first | with_reducible exact hR | with_reducible exact laid_old hR)); replace hB := below_on (w := w) ((by repeat (first | with_reducible exact hB | with_reducible exact Below.refl _ _ | with_reducible refine below_al ?_ _ | with_reducible refine below_st ?_ (by first | exact Nat.le_refl _ | exact Nat.le_add_right _ _ | (simp; omega)) _))) hb1; clear hb1) | (go_at_call 133; refine (ctx_12 _ _ _ _ hS (bneF (by with_reducible assumption)) (bneF (by with_reducible assumption)) HN.out hN HP.out _ (by repeat (first | with_reducible exact hB | with_reducible exact Below.refl _ _ | with_reducible refine below_al ?_ _ | with_reducible refine below_st ?_ (by first | exact Nat.le_refl _ | exact Nat.le_add_right _ _ | (simp; omega)) _))).mono ?_; rintro e w1 ⟨rfl, hb1⟩; obtain ⟨hc1, hf1⟩ := bcell hb1; have hz1 := hb1.size; (try simp only [World.size_alloc, World.size_setCell] at hz1); (try have hza : w.heap.size < w1.heap.size := by omega); (try have hzb : w.heap.size + 1 < w1.heap.size := by omega); (try have hzc : w.heap.size + 1 + 1 < w1.heap.size := by omega); (try have hzd : wa.heap.size < w1.heap.size := by omega); (try replace hR := (hb1.block w.heap.size (by first | exact lt_heap hR | (have := lt_heap hR; simp; omega))).trans (by first | with_reducible exact hR | with_reducible exact laid_old hR)); replace hB := below_on (w := w) ((by repeat (first | with_reducible exact hB | with_reducible exact Below.refl _ _ | with_reducible refine below_al ?_ _ | with_reducible refine below_st ?_ (by first | exact Nat.le_refl _ | exact Nat.le_add_right _ _ | (simp; omega)) _))) hb1; clear hb1))
  all_goals go_ret
  · exact ⟨by rw [ix_bad (by rw [bx12_1 (bneT (by with_reducible assumption))]; exact (bneT (by with_reducible assumption))), bx12_1 (bneT (by with_reducible assumption))]; rfl, (by repeat (first | with_reducible exact hB | with_reducible exact Below.refl _ _ | with_reducible refine below_al ?_ _ | with_reducible refine below_st ?_ (by first | exact Nat.le_refl _ | exact Nat.le_add_right _ _ | (simp; omega)) _))⟩
  · exact ⟨by rw [ix_bad (by rw [bx12_2 (bneF (by with_reducible assumption))]; exact (bneT (by with_reducible assumption))), bx12_2 (bneF (by with_reducible assumption))]; rfl, (by repeat (first | with_reducible exact hB | with_reducible exact Below.refl _ _ | with_reducible refine below_al ?_ _ | with_reducible refine below_st ?_ (by first | exact Nat.le_refl _ | exact Nat.le_add_right _ _ | (simp; omega)) _))⟩
  · exact ⟨by rw [ix_ok (by rw [bx12_2 (bneF (by with_reducible assumption))]; exact (bneF (by with_reducible assumption))), tx12]; rfl, (by repeat (first | with_reducible exact hB | with_reducible exact Below.refl _ _ | with_reducible refine below_al ?_ _ | with_reducible refine below_st ?_ (by first | exact Nat.le_refl _ | exact Nat.le_add_right _ _ | (simp; omega)) _))⟩

set_option maxHeartbeats 1000000 in
theorem chx_9 {w0 : World} {A : Option Addr} {n c : Nat} {L : List Cn} (s : ByteArray) (m a b : Int) (hS : Fits L) (hn : L.length = n) (hN : n ≤ 100000) (hp : Pool w0 w0.heap.size A L) (w : World) (hb : Below w0.heap.size w0 w) :
    Calls Tryd.prog 109 #[.slice A n c, .agg #[.int .i64 9, .string s, .int .i64 m, .int .i64 a, .int .i64 b]] w fun e w' => e = .returned (.int .i64 (ixE L 9 a b)) ∧ Below w.heap.size w w' := by
  have HP := Lib.hid (hp.up hb)
  have HN := Lib.hid hn
  clear hp hb hn
  have hB : Below w.heap.size w w := Below.refl _ _
  go_enter Tryd.func109, Tryd.ntmps109
  go_wp2_with (first | (go_at_call 120; refine (tg_any _ _ HN.out hN HP.out _ (by repeat (first | with_reducible exact hB | with_reducible exact Below.refl _ _ | with_reducible refine below_al ?_ _ | with_reducible refine below_st ?_ (by first | exact Nat.le_refl _ | exact Nat.le_add_right _ _ | (simp; omega)) _))).mono ?_; rintro e w1 ⟨rfl, hb1⟩; obtain ⟨hc1, hf1⟩ := bcell hb1; have hz1 := hb1.size; (try simp only [World.size_alloc, World.size_setCell] at hz1); (try have hza : w.heap.size < w1.heap.size := by omega); (try have hzb : w.heap.size + 1 < w1.heap.size := by omega); (try have hzc : w.heap.size + 1 + 1 < w1.heap.size := by omega); (try have hzd : wa.heap.size < w1.heap.size := by omega); (try replace hR := (hb1.block w.heap.size (by first | exact lt_heap hR | (have := lt_heap hR; simp; omega))).trans (by first | with_reducible exact hR | with_reducible exact laid_old hR)); replace hB := below_on (w := w) ((by repeat (first | with_reducible exact hB | with_reducible exact Below.refl _ _ | with_reducible refine below_al ?_ _ | with_reducible refine below_st ?_ (by first | exact Nat.le_refl _ | exact Nat.le_add_right _ _ | (simp; omega)) _))) hb1; clear hb1) | (go_at_call 118; refine (mt_any _ _).mono ?_; rintro e w1 ⟨rfl, hb1⟩; obtain ⟨hc1, hf1⟩ := bcell hb1; have hz1 := hb1.size; (try simp only [World.size_alloc, World.size_setCell] at hz1); (try have hza : w.heap.size < w1.heap.size := by omega); (try have hzb : w.heap.size + 1 < w1.heap.size := by omega); (try have hzc : w.heap.size + 1 + 1 < w1.heap.size := by omega); (try have hzd : wa.heap.size < w1.heap.size := by omega); (try replace hR := (hb1.block w.heap.size (by first | exact lt_heap hR | (have := lt_heap hR; simp; omega))).trans (by first | with_reducible exact hR | with_reducible exact laid_old hR)); replace hB := below_on (w := w) ((by repeat (first | with_reducible exact hB | with_reducible exact Below.refl _ _ | with_reducible refine below_al ?_ _ | with_reducible refine below_st ?_ (by first | exact Nat.le_refl _ | exact Nat.le_add_right _ _ | (simp; omega)) _))) hb1; clear hb1) | (go_at_call 133; refine (ctx_9 _ _ _ _ hS HN.out hN HP.out _ (by repeat (first | with_reducible exact hB | with_reducible exact Below.refl _ _ | with_reducible refine below_al ?_ _ | with_reducible refine below_st ?_ (by first | exact Nat.le_refl _ | exact Nat.le_add_right _ _ | (simp; omega)) _))).mono ?_; rintro e w1 ⟨rfl, hb1⟩; obtain ⟨hc1, hf1⟩ := bcell hb1; have hz1 := hb1.size; (try simp only [World.size_alloc, World.size_setCell] at hz1); (try have hza : w.heap.size < w1.heap.size := by omega); (try have hzb : w.heap.size + 1 < w1.heap.size := by omega); (try have hzc : w.heap.size + 1 + 1 < w1.heap.size := by omega); (try have hzd : wa.heap.size < w1.heap.size := by omega); (try replace hR := (hb1.block w.heap.size (by first | exact lt_heap hR | (have := lt_heap hR; simp; omega))).trans (by first | with_reducible exact hR | with_reducible exact laid_old hR)); replace hB := below_on (w := w) ((by repeat (first | with_reducible exact hB | with_reducible exact Below.refl _ _ | with_reducible refine below_al ?_ _ | with_reducible refine below_st ?_ (by first | exact Nat.le_refl _ | exact Nat.le_add_right _ _ | (simp; omega)) _))) hb1; clear hb1))
  all_goals go_ret
  · exact ⟨by rw [ix_bad (by rw [bxm_1 (by omega) (bneT (by with_reducible assumption))]; exact (bneT (by with_reducible assumption))), bxm_1 (by omega) (bneT (by with_reducible assumption))]; rfl, (by repeat (first | with_reducible exact hB | with_reducible exact Below.refl _ _ | with_reducible refine below_al ?_ _ | with_reducible refine below_st ?_ (by first | exact Nat.le_refl _ | exact Nat.le_add_right _ _ | (simp; omega)) _))⟩
  · exact ⟨by rw [ix_bad (by rw [bxm_2 (by omega) (bneF (by with_reducible assumption))]; exact (bneT (by with_reducible assumption))), bxm_2 (by omega) (bneF (by with_reducible assumption))]; rfl, (by repeat (first | with_reducible exact hB | with_reducible exact Below.refl _ _ | with_reducible refine below_al ?_ _ | with_reducible refine below_st ?_ (by first | exact Nat.le_refl _ | exact Nat.le_add_right _ _ | (simp; omega)) _))⟩
  · exact ⟨by rw [ix_ok (by rw [bxm_2 (by omega) (bneF (by with_reducible assumption))]; exact (bneF (by with_reducible assumption))), txm (by omega)]; rfl, (by repeat (first | with_reducible exact hB | with_reducible exact Below.refl _ _ | with_reducible refine below_al ?_ _ | with_reducible refine below_st ?_ (by first | exact Nat.le_refl _ | exact Nat.le_add_right _ _ | (simp; omega)) _))⟩

set_option maxHeartbeats 1000000 in
theorem chx_10 {w0 : World} {A : Option Addr} {n c : Nat} {L : List Cn} (s : ByteArray) (m a b : Int) (hS : Fits L) (hn : L.length = n) (hN : n ≤ 100000) (hp : Pool w0 w0.heap.size A L) (w : World) (hb : Below w0.heap.size w0 w) :
    Calls Tryd.prog 109 #[.slice A n c, .agg #[.int .i64 10, .string s, .int .i64 m, .int .i64 a, .int .i64 b]] w fun e w' => e = .returned (.int .i64 (ixE L 10 a b)) ∧ Below w.heap.size w w' := by
  have HP := Lib.hid (hp.up hb)
  have HN := Lib.hid hn
  clear hp hb hn
  have hB : Below w.heap.size w w := Below.refl _ _
  go_enter Tryd.func109, Tryd.ntmps109
  go_wp2_with (first | (go_at_call 120; refine (tg_any _ _ HN.out hN HP.out _ (by repeat (first | with_reducible exact hB | with_reducible exact Below.refl _ _ | with_reducible refine below_al ?_ _ | with_reducible refine below_st ?_ (by first | exact Nat.le_refl _ | exact Nat.le_add_right _ _ | (simp; omega)) _))).mono ?_; rintro e w1 ⟨rfl, hb1⟩; obtain ⟨hc1, hf1⟩ := bcell hb1; have hz1 := hb1.size; (try simp only [World.size_alloc, World.size_setCell] at hz1); (try have hza : w.heap.size < w1.heap.size := by omega); (try have hzb : w.heap.size + 1 < w1.heap.size := by omega); (try have hzc : w.heap.size + 1 + 1 < w1.heap.size := by omega); (try have hzd : wa.heap.size < w1.heap.size := by omega); (try replace hR := (hb1.block w.heap.size (by first | exact lt_heap hR | (have := lt_heap hR; simp; omega))).trans (by first | with_reducible exact hR | with_reducible exact laid_old hR)); replace hB := below_on (w := w) ((by repeat (first | with_reducible exact hB | with_reducible exact Below.refl _ _ | with_reducible refine below_al ?_ _ | with_reducible refine below_st ?_ (by first | exact Nat.le_refl _ | exact Nat.le_add_right _ _ | (simp; omega)) _))) hb1; clear hb1) | (go_at_call 118; refine (mt_any _ _).mono ?_; rintro e w1 ⟨rfl, hb1⟩; obtain ⟨hc1, hf1⟩ := bcell hb1; have hz1 := hb1.size; (try simp only [World.size_alloc, World.size_setCell] at hz1); (try have hza : w.heap.size < w1.heap.size := by omega); (try have hzb : w.heap.size + 1 < w1.heap.size := by omega); (try have hzc : w.heap.size + 1 + 1 < w1.heap.size := by omega); (try have hzd : wa.heap.size < w1.heap.size := by omega); (try replace hR := (hb1.block w.heap.size (by first | exact lt_heap hR | (have := lt_heap hR; simp; omega))).trans (by first | with_reducible exact hR | with_reducible exact laid_old hR)); replace hB := below_on (w := w) ((by repeat (first | with_reducible exact hB | with_reducible exact Below.refl _ _ | with_reducible refine below_al ?_ _ | with_reducible refine below_st ?_ (by first | exact Nat.le_refl _ | exact Nat.le_add_right _ _ | (simp; omega)) _))) hb1; clear hb1) | (go_at_call 133; refine (ctx_10 _ _ _ _ hS HN.out hN HP.out _ (by repeat (first | with_reducible exact hB | with_reducible exact Below.refl _ _ | with_reducible refine below_al ?_ _ | with_reducible refine below_st ?_ (by first | exact Nat.le_refl _ | exact Nat.le_add_right _ _ | (simp; omega)) _))).mono ?_; rintro e w1 ⟨rfl, hb1⟩; obtain ⟨hc1, hf1⟩ := bcell hb1; have hz1 := hb1.size; (try simp only [World.size_alloc, World.size_setCell] at hz1); (try have hza : w.heap.size < w1.heap.size := by omega); (try have hzb : w.heap.size + 1 < w1.heap.size := by omega); (try have hzc : w.heap.size + 1 + 1 < w1.heap.size := by omega); (try have hzd : wa.heap.size < w1.heap.size := by omega); (try replace hR := (hb1.block w.heap.size (by first | exact lt_heap hR | (have := lt_heap hR; simp; omega))).trans (by first | with_reducible exact hR | with_reducible exact laid_old hR)); replace hB := below_on (w := w) ((by repeat (first | with_reducible exact hB | with_reducible exact Below.refl _ _ | with_reducible refine below_al ?_ _ | with_reducible refine below_st ?_ (by first | exact Nat.le_refl _ | exact Nat.le_add_right _ _ | (simp; omega)) _))) hb1; clear hb1))
  all_goals go_ret
  · exact ⟨by rw [ix_bad (by rw [bxm_1 (by omega) (bneT (by with_reducible assumption))]; exact (bneT (by with_reducible assumption))), bxm_1 (by omega) (bneT (by with_reducible assumption))]; rfl, (by repeat (first | with_reducible exact hB | with_reducible exact Below.refl _ _ | with_reducible refine below_al ?_ _ | with_reducible refine below_st ?_ (by first | exact Nat.le_refl _ | exact Nat.le_add_right _ _ | (simp; omega)) _))⟩
  · exact ⟨by rw [ix_bad (by rw [bxm_2 (by omega) (bneF (by with_reducible assumption))]; exact (bneT (by with_reducible assumption))), bxm_2 (by omega) (bneF (by with_reducible assumption))]; rfl, (by repeat (first | with_reducible exact hB | with_reducible exact Below.refl _ _ | with_reducible refine below_al ?_ _ | with_reducible refine below_st ?_ (by first | exact Nat.le_refl _ | exact Nat.le_add_right _ _ | (simp; omega)) _))⟩
  · exact ⟨by rw [ix_ok (by rw [bxm_2 (by omega) (bneF (by with_reducible assumption))]; exact (bneF (by with_reducible assumption))), txm (by omega)]; rfl, (by repeat (first | with_reducible exact hB | with_reducible exact Below.refl _ _ | with_reducible refine below_al ?_ _ | with_reducible refine below_st ?_ (by first | exact Nat.le_refl _ | exact Nat.le_add_right _ _ | (simp; omega)) _))⟩

set_option maxHeartbeats 1000000 in
theorem chx_11 {w0 : World} {A : Option Addr} {n c : Nat} {L : List Cn} (s : ByteArray) (m a b : Int) (hS : Fits L) (hn : L.length = n) (hN : n ≤ 100000) (hp : Pool w0 w0.heap.size A L) (w : World) (hb : Below w0.heap.size w0 w) :
    Calls Tryd.prog 109 #[.slice A n c, .agg #[.int .i64 11, .string s, .int .i64 m, .int .i64 a, .int .i64 b]] w fun e w' => e = .returned (.int .i64 (ixE L 11 a b)) ∧ Below w.heap.size w w' := by
  have HP := Lib.hid (hp.up hb)
  have HN := Lib.hid hn
  clear hp hb hn
  have hB : Below w.heap.size w w := Below.refl _ _
  go_enter Tryd.func109, Tryd.ntmps109
  go_wp2_with (first | (go_at_call 120; refine (tg_any _ _ HN.out hN HP.out _ (by repeat (first | with_reducible exact hB | with_reducible exact Below.refl _ _ | with_reducible refine below_al ?_ _ | with_reducible refine below_st ?_ (by first | exact Nat.le_refl _ | exact Nat.le_add_right _ _ | (simp; omega)) _))).mono ?_; rintro e w1 ⟨rfl, hb1⟩; obtain ⟨hc1, hf1⟩ := bcell hb1; have hz1 := hb1.size; (try simp only [World.size_alloc, World.size_setCell] at hz1); (try have hza : w.heap.size < w1.heap.size := by omega); (try have hzb : w.heap.size + 1 < w1.heap.size := by omega); (try have hzc : w.heap.size + 1 + 1 < w1.heap.size := by omega); (try have hzd : wa.heap.size < w1.heap.size := by omega); (try replace hR := (hb1.block w.heap.size (by first | exact lt_heap hR | (have := lt_heap hR; simp; omega))).trans (by first | with_reducible exact hR | with_reducible exact laid_old hR)); replace hB := below_on (w := w) ((by repeat (first | with_reducible exact hB | with_reducible exact Below.refl _ _ | with_reducible refine below_al ?_ _ | with_reducible refine below_st ?_ (by first | exact Nat.le_refl _ | exact Nat.le_add_right _ _ | (simp; omega)) _))) hb1; clear hb1) | (go_at_call 118; refine (mt_any _ _).mono ?_; rintro e w1 ⟨rfl, hb1⟩; obtain ⟨hc1, hf1⟩ := bcell hb1; have hz1 := hb1.size; (try simp only [World.size_alloc, World.size_setCell] at hz1); (try have hza : w.heap.size < w1.heap.size := by omega); (try have hzb : w.heap.size + 1 < w1.heap.size := by omega); (try have hzc : w.heap.size + 1 + 1 < w1.heap.size := by omega); (try have hzd : wa.heap.size < w1.heap.size := by omega); (try replace hR := (hb1.block w.heap.size (by first | exact lt_heap hR | (have := lt_heap hR; simp; omega))).trans (by first | with_reducible exact hR | with_reducible exact laid_old hR)); replace hB := below_on (w := w) ((by repeat (first | with_reducible exact hB | with_reducible exact Below.refl _ _ | with_reducible refine below_al ?_ _ | with_reducible refine below_st ?_ (by first | exact Nat.le_refl _ | exact Nat.le_add_right _ _ | (simp; omega)) _))) hb1; clear hb1) | (go_at_call 133; refine (ctx_11 _ _ _ _ hS HN.out hN HP.out _ (by repeat (first | with_reducible exact hB | with_reducible exact Below.refl _ _ | with_reducible refine below_al ?_ _ | with_reducible refine below_st ?_ (by first | exact Nat.le_refl _ | exact Nat.le_add_right _ _ | (simp; omega)) _))).mono ?_; rintro e w1 ⟨rfl, hb1⟩; obtain ⟨hc1, hf1⟩ := bcell hb1; have hz1 := hb1.size; (try simp only [World.size_alloc, World.size_setCell] at hz1); (try have hza : w.heap.size < w1.heap.size := by omega); (try have hzb : w.heap.size + 1 < w1.heap.size := by omega); (try have hzc : w.heap.size + 1 + 1 < w1.heap.size := by omega); (try have hzd : wa.heap.size < w1.heap.size := by omega); (try replace hR := (hb1.block w.heap.size (by first | exact lt_heap hR | (have := lt_heap hR; simp; omega))).trans (by first | with_reducible exact hR | with_reducible exact laid_old hR)); replace hB := below_on (w := w) ((by repeat (first | with_reducible exact hB | with_reducible exact Below.refl _ _ | with_reducible refine below_al ?_ _ | with_reducible refine below_st ?_ (by first | exact Nat.le_refl _ | exact Nat.le_add_right _ _ | (simp; omega)) _))) hb1; clear hb1))
  all_goals go_ret
  · exact ⟨by rw [ix_bad (by rw [bxm_1 (by omega) (bneT (by with_reducible assumption))]; exact (bneT (by with_reducible assumption))), bxm_1 (by omega) (bneT (by with_reducible assumption))]; rfl, (by repeat (first | with_reducible exact hB | with_reducible exact Below.refl _ _ | with_reducible refine below_al ?_ _ | with_reducible refine below_st ?_ (by first | exact Nat.le_refl _ | exact Nat.le_add_right _ _ | (simp; omega)) _))⟩
  · exact ⟨by rw [ix_bad (by rw [bxm_2 (by omega) (bneF (by with_reducible assumption))]; exact (bneT (by with_reducible assumption))), bxm_2 (by omega) (bneF (by with_reducible assumption))]; rfl, (by repeat (first | with_reducible exact hB | with_reducible exact Below.refl _ _ | with_reducible refine below_al ?_ _ | with_reducible refine below_st ?_ (by first | exact Nat.le_refl _ | exact Nat.le_add_right _ _ | (simp; omega)) _))⟩
  · exact ⟨by rw [ix_ok (by rw [bxm_2 (by omega) (bneF (by with_reducible assumption))]; exact (bneF (by with_reducible assumption))), txm (by omega)]; rfl, (by repeat (first | with_reducible exact hB | with_reducible exact Below.refl _ _ | with_reducible refine below_al ?_ _ | with_reducible refine below_st ?_ (by first | exact Nat.le_refl _ | exact Nat.le_add_right _ _ | (simp; omega)) _))⟩

def knB (t : Int) : Bool := t == 1 || t == 3 || t == 5 || t == 7 || t == 8 || t == 12 || mtB t
def fmB (t : Int) (s : ByteArray) (m a b : Int) : Bool :=
  (t == 1 || s.toList == []) && ((t == 3 || t == 5 || m == 0) && ((t == 7 || t == 8 || t == 12 || mtB t || a == 0) && (t == 12 || mtB t || b == 0)))
end Go.Proofs.YtdppooflbjlbcaaDoor

/- PoolCk -/
/- Layer 5: checkConst, in the package and in its reference. -/
namespace Go.Proofs.YtdppooflbjlbcaaDoor
open Go.ChangeShapes Go.WideShapes Go.ChangeAt Go.RowKit Go.PlainAid
set_option linter.unusedSimpArgs false
set_option linter.unusedVariables false

def ckE (L : List Cn) (t : Int) (s : ByteArray) (m a b : Int) : Int :=
  if knB t = true then
    if fmB t s m a b = true then
      if t = 1 then (if 1024 < s.size then 8 else 0)
      else if t = 3 then (if -2147483648 ≤ m ∧ m ≤ 2147483647 then 0 else 8)
      else if t = 5 then 0
      else ixE L t a b
    else 4
  else 11
theorem ck_un {L : List Cn} {t m a b : Int} {s : ByteArray} (h : knB t = false) : ckE L t s m a b = 11 := by unfold ckE; rw [h]; rfl
theorem ck_mal {L : List Cn} {t m a b : Int} {s : ByteArray} (hk : knB t = true) (h : fmB t s m a b = false) : ckE L t s m a b = 4 := by unfold ckE; rw [hk, h]; rfl
theorem ck1_8 {L : List Cn} {m a b : Int} {s : ByteArray} (h : fmB 1 s m a b = true) (h1 : 1024 < s.size) : ckE L 1 s m a b = 8 := by unfold ckE; rw [h, show knB 1 = true from rfl, if_pos rfl, if_pos rfl, if_pos rfl, if_pos h1]
theorem ck1_0 {L : List Cn} {m a b : Int} {s : ByteArray} (h : fmB 1 s m a b = true) (h1 : ¬ 1024 < s.size) : ckE L 1 s m a b = 0 := by unfold ckE; rw [h, show knB 1 = true from rfl, if_pos rfl, if_pos rfl, if_pos rfl, if_neg h1]
theorem ck3_0 {L : List Cn} {m a b : Int} {s : ByteArray} (h : fmB 3 s m a b = true) (h1 : -2147483648 ≤ m ∧ m ≤ 2147483647) : ckE L 3 s m a b = 0 := by unfold ckE; rw [h, show knB 3 = true from rfl, if_pos rfl, if_pos rfl, if_neg (by decide), if_pos rfl, if_pos h1]
theorem ck3_8 {L : List Cn} {m a b : Int} {s : ByteArray} (h : fmB 3 s m a b = true) (h1 : ¬ (-2147483648 ≤ m ∧ m ≤ 2147483647)) : ckE L 3 s m a b = 8 := by unfold ckE; rw [h, show knB 3 = true from rfl, if_pos rfl, if_pos rfl, if_neg (by decide), if_pos rfl, if_neg h1]
theorem ck1 {L : List Cn} {m a b : Int} {s : ByteArray} (h : fmB 1 s m a b = true) : ckE L 1 s m a b = tli (decide ((1024 : Int) < s.size)) := by
  by_cases h1 : 1024 < s.size
  · rw [ck1_8 h h1, decide_eq_true (by omega)]; rfl
  · rw [ck1_0 h h1, decide_eq_false (by omega)]; rfl
theorem wr_in {m : Int} (h1 : -2147483648 ≤ m ∧ m ≤ 2147483647) : (m != wrap64 (wrap32 m)) = false := by
  have : wrap64 (wrap32 m) = m := by unfold wrap64 wrap32; omega
  rw [this]; simp
theorem wr_out {m : Int} (h1 : ¬ (-2147483648 ≤ m ∧ m ≤ 2147483647)) : (m != wrap64 (wrap32 m)) = true := by
  have : ¬ m = wrap64 (wrap32 m) := by unfold wrap64 wrap32; omega
  simpa using this
theorem ck3 {L : List Cn} {m a b : Int} {s : ByteArray} (h : fmB 3 s m a b = true) : ckE L 3 s m a b = tli (m != wrap64 (wrap32 m)) := by
  by_cases h1 : -2147483648 ≤ m ∧ m ≤ 2147483647
  · rw [ck3_0 h h1, wr_in h1]; rfl
  · rw [ck3_8 h h1, wr_out h1]; rfl
theorem ck5_0 {L : List Cn} {m a b : Int} {s : ByteArray} (h : fmB 5 s m a b = true) : ckE L 5 s m a b = 0 := by unfold ckE; rw [h, show knB 5 = true from rfl, if_pos rfl, if_pos rfl, if_neg (by decide), if_neg (by decide), if_pos rfl]
theorem ck_ix {L : List Cn} {t m a b : Int} {s : ByteArray} (ht : 7 ≤ t) (hk : knB t = true) (h : fmB t s m a b = true) : ckE L t s m a b = ixE L t a b := by unfold ckE; rw [h, hk, if_pos rfl, if_pos rfl, if_neg (by omega), if_neg (by omega), if_neg (by omega)]
theorem s_nil {s : ByteArray} : (s = ⟨#[]⟩) ↔ s.toList = [] := by
  constructor
  · rintro rfl; simp [ByteArray.toList_eq]
  · intro h; exact toList_iff.1 (h.trans (by simp [ByteArray.toList_eq]))
theorem kn_cases {t : Int} (h : knB t = true) : t = 1 ∨ t = 3 ∨ t = 5 ∨ t = 7 ∨ t = 8 ∨ t = 12 ∨ t = 9 ∨ t = 10 ∨ t = 11 := by
  simp [knB, mtB] at h; omega

set_option maxRecDepth 100000 in
set_option maxHeartbeats 1000000 in
theorem ckc_1 {w0 : World} {A : Option Addr} {n c : Nat} {L : List Cn} (s : ByteArray) (m a b : Int) (hS : Fits L) (hn : L.length = n) (hN : n ≤ 100000) (hp : Pool w0 w0.heap.size A L) (w : World) (hb : Below w0.heap.size w0 w) :
    Calls Tryd.prog 83 #[.slice A n c, .agg #[.int .i64 1, .string s, .int .i64 m, .int .i64 a, .int .i64 b]] w fun e w' => e = .returned (.int .i64 (ckE L 1 s m a b)) ∧ Below w.heap.size w w' := by
  have HP := Lib.hid (hp.up hb)
  have HN := Lib.hid hn
  clear hp hb hn
  have hB : Below w.heap.size w w := Below.refl _ _
  have e0 : cnQ ⟨0, ⟨#[]⟩, m, a, b⟩ cnZ = fmB 1 s m a b := by cases hs : s.toList <;> simp [cnQ, fmB, cnZ, s_nil, mtB, hs]
  have e1 : ∀ w, (binOp .neq 56 (.agg #[.int .i64 0, .string ⟨#[]⟩, .int .i64 m, .int .i64 a, .int .i64 b]) (.agg #[.int .i64 0, .string ⟨#[]⟩, .int .i64 0, .int .i64 0, .int .i64 0])).run Tryd.prog w = .ok (.bool (!fmB 1 s m a b)) w := fun w => by rw [← e0]; exact cn_neq ⟨0, ⟨#[]⟩, m, a, b⟩ cnZ w
  clear e0
  cases hf : fmB 1 s m a b
  all_goals
    rw [hf] at e1
    go_enter Tryd.func83, Tryd.ntmps83
    go_wp2_with (first | (go_at_call 108; refine (tli_any _ _).mono ?_; rintro e w1 ⟨rfl, hb1⟩; obtain ⟨hc1, hf1⟩ := bcell hb1; have hz1 := hb1.size; (try simp only [World.size_alloc, World.size_setCell] at hz1); (try have hza : w.heap.size < w1.heap.size := by omega); (try have hzb : w.heap.size + 1 < w1.heap.size := by omega); (try have hzc : w.heap.size + 1 + 1 < w1.heap.size := by omega); (try have hzd : wa.heap.size < w1.heap.size := by omega); (try replace hR := (hb1.block w.heap.size (by first | exact lt_heap hR | (have := lt_heap hR; simp; omega))).trans (by first | with_reducible exact hR | with_reducible exact laid_old hR)); replace hB := below_on (w := w) ((by repeat (first | with_reducible exact hB | with_reducible exact Below.refl _ _ | with_reducible refine below_al ?_ _ | with_reducible refine below_st ?_ (by first | exact Nat.le_refl _ | exact Nat.le_add_right _ _ | (simp; omega)) _))) hb1; clear hb1))
    all_goals go_ret
  · exact ⟨by rw [ck_mal rfl hf]; rfl, (by repeat (first | with_reducible exact hB | with_reducible exact Below.refl _ _ | with_reducible refine below_al ?_ _ | with_reducible refine below_st ?_ (by first | exact Nat.le_refl _ | exact Nat.le_add_right _ _ | (simp; omega)) _))⟩
  · exact ⟨by rw [ck1 hf]; rfl, (by repeat (first | with_reducible exact hB | with_reducible exact Below.refl _ _ | with_reducible refine below_al ?_ _ | with_reducible refine below_st ?_ (by first | exact Nat.le_refl _ | exact Nat.le_add_right _ _ | (simp; omega)) _))⟩

set_option maxRecDepth 100000 in
set_option maxHeartbeats 1000000 in
theorem ckc_3 {w0 : World} {A : Option Addr} {n c : Nat} {L : List Cn} (s : ByteArray) (m a b : Int) (hS : Fits L) (hn : L.length = n) (hN : n ≤ 100000) (hp : Pool w0 w0.heap.size A L) (w : World) (hb : Below w0.heap.size w0 w) :
    Calls Tryd.prog 83 #[.slice A n c, .agg #[.int .i64 3, .string s, .int .i64 m, .int .i64 a, .int .i64 b]] w fun e w' => e = .returned (.int .i64 (ckE L 3 s m a b)) ∧ Below w.heap.size w w' := by
  have HP := Lib.hid (hp.up hb)
  have HN := Lib.hid hn
  clear hp hb hn
  have hB : Below w.heap.size w w := Below.refl _ _
  have e0 : cnQ ⟨0, s, 0, a, b⟩ cnZ = fmB 3 s m a b := by cases hs : s.toList <;> simp [cnQ, fmB, cnZ, s_nil, mtB, hs]
  have e1 : ∀ w, (binOp .neq 56 (.agg #[.int .i64 0, .string s, .int .i64 0, .int .i64 a, .int .i64 b]) (.agg #[.int .i64 0, .string ⟨#[]⟩, .int .i64 0, .int .i64 0, .int .i64 0])).run Tryd.prog w = .ok (.bool (!fmB 3 s m a b)) w := fun w => by rw [← e0]; exact cn_neq ⟨0, s, 0, a, b⟩ cnZ w
  clear e0
  cases hf : fmB 3 s m a b
  all_goals
    rw [hf] at e1
    go_enter Tryd.func83, Tryd.ntmps83
    go_wp2_with (first | (go_at_call 108; refine (tli_any _ _).mono ?_; rintro e w1 ⟨rfl, hb1⟩; obtain ⟨hc1, hf1⟩ := bcell hb1; have hz1 := hb1.size; (try simp only [World.size_alloc, World.size_setCell] at hz1); (try have hza : w.heap.size < w1.heap.size := by omega); (try have hzb : w.heap.size + 1 < w1.heap.size := by omega); (try have hzc : w.heap.size + 1 + 1 < w1.heap.size := by omega); (try have hzd : wa.heap.size < w1.heap.size := by omega); (try replace hR := (hb1.block w.heap.size (by first | exact lt_heap hR | (have := lt_heap hR; simp; omega))).trans (by first | with_reducible exact hR | with_reducible exact laid_old hR)); replace hB := below_on (w := w) ((by repeat (first | with_reducible exact hB | with_reducible exact Below.refl _ _ | with_reducible refine below_al ?_ _ | with_reducible refine below_st ?_ (by first | exact Nat.le_refl _ | exact Nat.le_add_right _ _ | (simp; omega)) _))) hb1; clear hb1))
    all_goals go_ret
  · exact ⟨by rw [ck_mal rfl hf]; rfl, (by repeat (first | with_reducible exact hB | with_reducible exact Below.refl _ _ | with_reducible refine below_al ?_ _ | with_reducible refine below_st ?_ (by first | exact Nat.le_refl _ | exact Nat.le_add_right _ _ | (simp; omega)) _))⟩
  · exact ⟨by rw [ck3 hf]; rfl, (by repeat (first | with_reducible exact hB | with_reducible exact Below.refl _ _ | with_reducible refine below_al ?_ _ | with_reducible refine below_st ?_ (by first | exact Nat.le_refl _ | exact Nat.le_add_right _ _ | (simp; omega)) _))⟩

set_option maxRecDepth 100000 in
set_option maxHeartbeats 1000000 in
theorem ckc_5 {w0 : World} {A : Option Addr} {n c : Nat} {L : List Cn} (s : ByteArray) (m a b : Int) (hS : Fits L) (hn : L.length = n) (hN : n ≤ 100000) (hp : Pool w0 w0.heap.size A L) (w : World) (hb : Below w0.heap.size w0 w) :
    Calls Tryd.prog 83 #[.slice A n c, .agg #[.int .i64 5, .string s, .int .i64 m, .int .i64 a, .int .i64 b]] w fun e w' => e = .returned (.int .i64 (ckE L 5 s m a b)) ∧ Below w.heap.size w w' := by
  have HP := Lib.hid (hp.up hb)
  have HN := Lib.hid hn
  clear hp hb hn
  have hB : Below w.heap.size w w := Below.refl _ _
  have e0 : cnQ ⟨0, s, 0, a, b⟩ cnZ = fmB 5 s m a b := by cases hs : s.toList <;> simp [cnQ, fmB, cnZ, s_nil, mtB, hs]
  have e1 : ∀ w, (binOp .neq 56 (.agg #[.int .i64 0, .string s, .int .i64 0, .int .i64 a, .int .i64 b]) (.agg #[.int .i64 0, .string ⟨#[]⟩, .int .i64 0, .int .i64 0, .int .i64 0])).run Tryd.prog w = .ok (.bool (!fmB 5 s m a b)) w := fun w => by rw [← e0]; exact cn_neq ⟨0, s, 0, a, b⟩ cnZ w
  clear e0
  cases hf : fmB 5 s m a b
  all_goals
    rw [hf] at e1
    go_enter Tryd.func83, Tryd.ntmps83
    go_wp2_with (first | (go_at_call 108; refine (tli_any _ _).mono ?_; rintro e w1 ⟨rfl, hb1⟩; obtain ⟨hc1, hf1⟩ := bcell hb1; have hz1 := hb1.size; (try simp only [World.size_alloc, World.size_setCell] at hz1); (try have hza : w.heap.size < w1.heap.size := by omega); (try have hzb : w.heap.size + 1 < w1.heap.size := by omega); (try have hzc : w.heap.size + 1 + 1 < w1.heap.size := by omega); (try have hzd : wa.heap.size < w1.heap.size := by omega); (try replace hR := (hb1.block w.heap.size (by first | exact lt_heap hR | (have := lt_heap hR; simp; omega))).trans (by first | with_reducible exact hR | with_reducible exact laid_old hR)); replace hB := below_on (w := w) ((by repeat (first | with_reducible exact hB | with_reducible exact Below.refl _ _ | with_reducible refine below_al ?_ _ | with_reducible refine below_st ?_ (by first | exact Nat.le_refl _ | exact Nat.le_add_right _ _ | (simp; omega)) _))) hb1; clear hb1))
    all_goals go_ret
  · exact ⟨by rw [ck_mal rfl hf]; rfl, (by repeat (first | with_reducible exact hB | with_reducible exact Below.refl _ _ | with_reducible refine below_al ?_ _ | with_reducible refine below_st ?_ (by first | exact Nat.le_refl _ | exact Nat.le_add_right _ _ | (simp; omega)) _))⟩
  · exact ⟨by rw [ck5_0 hf]; rfl, (by repeat (first | with_reducible exact hB | with_reducible exact Below.refl _ _ | with_reducible refine below_al ?_ _ | with_reducible refine below_st ?_ (by first | exact Nat.le_refl _ | exact Nat.le_add_right _ _ | (simp; omega)) _))⟩

set_option maxRecDepth 100000 in
set_option maxHeartbeats 1000000 in
theorem ckc_7 {w0 : World} {A : Option Addr} {n c : Nat} {L : List Cn} (s : ByteArray) (m a b : Int) (hS : Fits L) (hn : L.length = n) (hN : n ≤ 100000) (hp : Pool w0 w0.heap.size A L) (w : World) (hb : Below w0.heap.size w0 w) :
    Calls Tryd.prog 83 #[.slice A n c, .agg #[.int .i64 7, .string s, .int .i64 m, .int .i64 a, .int .i64 b]] w fun e w' => e = .returned (.int .i64 (ckE L 7 s m a b)) ∧ Below w.heap.size w w' := by
  have HP := Lib.hid (hp.up hb)
  have HN := Lib.hid hn
  clear hp hb hn
  have hB : Below w.heap.size w w := Below.refl _ _
  have e0 : cnQ ⟨0, s, m, 0, b⟩ cnZ = fmB 7 s m a b := by cases hs : s.toList <;> simp [cnQ, fmB, cnZ, s_nil, mtB, hs]
  have e1 : ∀ w, (binOp .neq 56 (.agg #[.int .i64 0, .string s, .int .i64 m, .int .i64 0, .int .i64 b]) (.agg #[.int .i64 0, .string ⟨#[]⟩, .int .i64 0, .int .i64 0, .int .i64 0])).run Tryd.prog w = .ok (.bool (!fmB 7 s m a b)) w := fun w => by rw [← e0]; exact cn_neq ⟨0, s, m, 0, b⟩ cnZ w
  clear e0
  cases hf : fmB 7 s m a b
  all_goals
    rw [hf] at e1
    go_enter Tryd.func83, Tryd.ntmps83
    go_wp2_with (first | (go_at_call 108; refine (tli_any _ _).mono ?_; rintro e w1 ⟨rfl, hb1⟩; obtain ⟨hc1, hf1⟩ := bcell hb1; have hz1 := hb1.size; (try simp only [World.size_alloc, World.size_setCell] at hz1); (try have hza : w.heap.size < w1.heap.size := by omega); (try have hzb : w.heap.size + 1 < w1.heap.size := by omega); (try have hzc : w.heap.size + 1 + 1 < w1.heap.size := by omega); (try have hzd : wa.heap.size < w1.heap.size := by omega); (try replace hR := (hb1.block w.heap.size (by first | exact lt_heap hR | (have := lt_heap hR; simp; omega))).trans (by first | with_reducible exact hR | with_reducible exact laid_old hR)); replace hB := below_on (w := w) ((by repeat (first | with_reducible exact hB | with_reducible exact Below.refl _ _ | with_reducible refine below_al ?_ _ | with_reducible refine below_st ?_ (by first | exact Nat.le_refl _ | exact Nat.le_add_right _ _ | (simp; omega)) _))) hb1; clear hb1) | (go_at_call 109; refine (chx_7 _ _ _ _ hS HN.out hN HP.out _ (by repeat (first | with_reducible exact hB | with_reducible exact Below.refl _ _ | with_reducible refine below_al ?_ _ | with_reducible refine below_st ?_ (by first | exact Nat.le_refl _ | exact Nat.le_add_right _ _ | (simp; omega)) _))).mono ?_; rintro e w1 ⟨rfl, hb1⟩; obtain ⟨hc1, hf1⟩ := bcell hb1; have hz1 := hb1.size; (try simp only [World.size_alloc, World.size_setCell] at hz1); (try have hza : w.heap.size < w1.heap.size := by omega); (try have hzb : w.heap.size + 1 < w1.heap.size := by omega); (try have hzc : w.heap.size + 1 + 1 < w1.heap.size := by omega); (try have hzd : wa.heap.size < w1.heap.size := by omega); (try replace hR := (hb1.block w.heap.size (by first | exact lt_heap hR | (have := lt_heap hR; simp; omega))).trans (by first | with_reducible exact hR | with_reducible exact laid_old hR)); replace hB := below_on (w := w) ((by repeat (first | with_reducible exact hB | with_reducible exact Below.refl _ _ | with_reducible refine below_al ?_ _ | with_reducible refine below_st ?_ (by first | exact Nat.le_refl _ | exact Nat.le_add_right _ _ | (simp; omega)) _))) hb1; clear hb1))
    all_goals go_ret
  · exact ⟨by rw [ck_mal rfl hf]; rfl, (by repeat (first | with_reducible exact hB | with_reducible exact Below.refl _ _ | with_reducible refine below_al ?_ _ | with_reducible refine below_st ?_ (by first | exact Nat.le_refl _ | exact Nat.le_add_right _ _ | (simp; omega)) _))⟩
  · exact ⟨by rw [ck_ix (by omega) rfl hf]; rfl, (by repeat (first | with_reducible exact hB | with_reducible exact Below.refl _ _ | with_reducible refine below_al ?_ _ | with_reducible refine below_st ?_ (by first | exact Nat.le_refl _ | exact Nat.le_add_right _ _ | (simp; omega)) _))⟩

set_option maxRecDepth 100000 in
set_option maxHeartbeats 1000000 in
theorem ckc_8 {w0 : World} {A : Option Addr} {n c : Nat} {L : List Cn} (s : ByteArray) (m a b : Int) (hS : Fits L) (hn : L.length = n) (hN : n ≤ 100000) (hp : Pool w0 w0.heap.size A L) (w : World) (hb : Below w0.heap.size w0 w) :
    Calls Tryd.prog 83 #[.slice A n c, .agg #[.int .i64 8, .string s, .int .i64 m, .int .i64 a, .int .i64 b]] w fun e w' => e = .returned (.int .i64 (ckE L 8 s m a b)) ∧ Below w.heap.size w w' := by
  have HP := Lib.hid (hp.up hb)
  have HN := Lib.hid hn
  clear hp hb hn
  have hB : Below w.heap.size w w := Below.refl _ _
  have e0 : cnQ ⟨0, s, m, 0, b⟩ cnZ = fmB 8 s m a b := by cases hs : s.toList <;> simp [cnQ, fmB, cnZ, s_nil, mtB, hs]
  have e1 : ∀ w, (binOp .neq 56 (.agg #[.int .i64 0, .string s, .int .i64 m, .int .i64 0, .int .i64 b]) (.agg #[.int .i64 0, .string ⟨#[]⟩, .int .i64 0, .int .i64 0, .int .i64 0])).run Tryd.prog w = .ok (.bool (!fmB 8 s m a b)) w := fun w => by rw [← e0]; exact cn_neq ⟨0, s, m, 0, b⟩ cnZ w
  clear e0
  cases hf : fmB 8 s m a b
  all_goals
    rw [hf] at e1
    go_enter Tryd.func83, Tryd.ntmps83
    go_wp2_with (first | (go_at_call 108; refine (tli_any _ _).mono ?_; rintro e w1 ⟨rfl, hb1⟩; obtain ⟨hc1, hf1⟩ := bcell hb1; have hz1 := hb1.size; (try simp only [World.size_alloc, World.size_setCell] at hz1); (try have hza : w.heap.size < w1.heap.size := by omega); (try have hzb : w.heap.size + 1 < w1.heap.size := by omega); (try have hzc : w.heap.size + 1 + 1 < w1.heap.size := by omega); (try have hzd : wa.heap.size < w1.heap.size := by omega); (try replace hR := (hb1.block w.heap.size (by first | exact lt_heap hR | (have := lt_heap hR; simp; omega))).trans (by first | with_reducible exact hR | with_reducible exact laid_old hR)); replace hB := below_on (w := w) ((by repeat (first | with_reducible exact hB | with_reducible exact Below.refl _ _ | with_reducible refine below_al ?_ _ | with_reducible refine below_st ?_ (by first | exact Nat.le_refl _ | exact Nat.le_add_right _ _ | (simp; omega)) _))) hb1; clear hb1) | (go_at_call 109; refine (chx_8 _ _ _ _ hS HN.out hN HP.out _ (by repeat (first | with_reducible exact hB | with_reducible exact Below.refl _ _ | with_reducible refine below_al ?_ _ | with_reducible refine below_st ?_ (by first | exact Nat.le_refl _ | exact Nat.le_add_right _ _ | (simp; omega)) _))).mono ?_; rintro e w1 ⟨rfl, hb1⟩; obtain ⟨hc1, hf1⟩ := bcell hb1; have hz1 := hb1.size; (try simp only [World.size_alloc, World.size_setCell] at hz1); (try have hza : w.heap.size < w1.heap.size := by omega); (try have hzb : w.heap.size + 1 < w1.heap.size := by omega); (try have hzc : w.heap.size + 1 + 1 < w1.heap.size := by omega); (try have hzd : wa.heap.size < w1.heap.size := by omega); (try replace hR := (hb1.block w.heap.size (by first | exact lt_heap hR | (have := lt_heap hR; simp; omega))).trans (by first | with_reducible exact hR | with_reducible exact laid_old hR)); replace hB := below_on (w := w) ((by repeat (first | with_reducible exact hB | with_reducible exact Below.refl _ _ | with_reducible refine below_al ?_ _ | with_reducible refine below_st ?_ (by first | exact Nat.le_refl _ | exact Nat.le_add_right _ _ | (simp; omega)) _))) hb1; clear hb1))
    all_goals go_ret
  · exact ⟨by rw [ck_mal rfl hf]; rfl, (by repeat (first | with_reducible exact hB | with_reducible exact Below.refl _ _ | with_reducible refine below_al ?_ _ | with_reducible refine below_st ?_ (by first | exact Nat.le_refl _ | exact Nat.le_add_right _ _ | (simp; omega)) _))⟩
  · exact ⟨by rw [ck_ix (by omega) rfl hf]; rfl, (by repeat (first | with_reducible exact hB | with_reducible exact Below.refl _ _ | with_reducible refine below_al ?_ _ | with_reducible refine below_st ?_ (by first | exact Nat.le_refl _ | exact Nat.le_add_right _ _ | (simp; omega)) _))⟩

set_option maxRecDepth 100000 in
set_option maxHeartbeats 1000000 in
theorem ckc_12 {w0 : World} {A : Option Addr} {n c : Nat} {L : List Cn} (s : ByteArray) (m a b : Int) (hS : Fits L) (hn : L.length = n) (hN : n ≤ 100000) (hp : Pool w0 w0.heap.size A L) (w : World) (hb : Below w0.heap.size w0 w) :
    Calls Tryd.prog 83 #[.slice A n c, .agg #[.int .i64 12, .string s, .int .i64 m, .int .i64 a, .int .i64 b]] w fun e w' => e = .returned (.int .i64 (ckE L 12 s m a b)) ∧ Below w.heap.size w w' := by
  have HP := Lib.hid (hp.up hb)
  have HN := Lib.hid hn
  clear hp hb hn
  have hB : Below w.heap.size w w := Below.refl _ _
  have e0 : cnQ ⟨0, s, m, 0, 0⟩ cnZ = fmB 12 s m a b := by cases hs : s.toList <;> simp [cnQ, fmB, cnZ, s_nil, mtB, hs]
  have e1 : ∀ w, (binOp .neq 56 (.agg #[.int .i64 0, .string s, .int .i64 m, .int .i64 0, .int .i64 0]) (.agg #[.int .i64 0, .string ⟨#[]⟩, .int .i64 0, .int .i64 0, .int .i64 0])).run Tryd.prog w = .ok (.bool (!fmB 12 s m a b)) w := fun w => by rw [← e0]; exact cn_neq ⟨0, s, m, 0, 0⟩ cnZ w
  clear e0
  cases hf : fmB 12 s m a b
  all_goals
    rw [hf] at e1
    go_enter Tryd.func83, Tryd.ntmps83
    go_wp2_with (first | (go_at_call 108; refine (tli_any _ _).mono ?_; rintro e w1 ⟨rfl, hb1⟩; obtain ⟨hc1, hf1⟩ := bcell hb1; have hz1 := hb1.size; (try simp only [World.size_alloc, World.size_setCell] at hz1); (try have hza : w.heap.size < w1.heap.size := by omega); (try have hzb : w.heap.size + 1 < w1.heap.size := by omega); (try have hzc : w.heap.size + 1 + 1 < w1.heap.size := by omega); (try have hzd : wa.heap.size < w1.heap.size := by omega); (try replace hR := (hb1.block w.heap.size (by first | exact lt_heap hR | (have := lt_heap hR; simp; omega))).trans (by first | with_reducible exact hR | with_reducible exact laid_old hR)); replace hB := below_on (w := w) ((by repeat (first | with_reducible exact hB | with_reducible exact Below.refl _ _ | with_reducible refine below_al ?_ _ | with_reducible refine below_st ?_ (by first | exact Nat.le_refl _ | exact Nat.le_add_right _ _ | (simp; omega)) _))) hb1; clear hb1) | (go_at_call 109; refine (chx_12 _ _ _ _ hS HN.out hN HP.out _ (by repeat (first | with_reducible exact hB | with_reducible exact Below.refl _ _ | with_reducible refine below_al ?_ _ | with_reducible refine below_st ?_ (by first | exact Nat.le_refl _ | exact Nat.le_add_right _ _ | (simp; omega)) _))).mono ?_; rintro e w1 ⟨rfl, hb1⟩; obtain ⟨hc1, hf1⟩ := bcell hb1; have hz1 := hb1.size; (try simp only [World.size_alloc, World.size_setCell] at hz1); (try have hza : w.heap.size < w1.heap.size := by omega); (try have hzb : w.heap.size + 1 < w1.heap.size := by omega); (try have hzc : w.heap.size + 1 + 1 < w1.heap.size := by omega); (try have hzd : wa.heap.size < w1.heap.size := by omega); (try replace hR := (hb1.block w.heap.size (by first | exact lt_heap hR | (have := lt_heap hR; simp; omega))).trans (by first | with_reducible exact hR | with_reducible exact laid_old hR)); replace hB := below_on (w := w) ((by repeat (first | with_reducible exact hB | with_reducible exact Below.refl _ _ | with_reducible refine below_al ?_ _ | with_reducible refine below_st ?_ (by first | exact Nat.le_refl _ | exact Nat.le_add_right _ _ | (simp; omega)) _))) hb1; clear hb1))
    all_goals go_ret
  · exact ⟨by rw [ck_mal rfl hf]; rfl, (by repeat (first | with_reducible exact hB | with_reducible exact Below.refl _ _ | with_reducible refine below_al ?_ _ | with_reducible refine below_st ?_ (by first | exact Nat.le_refl _ | exact Nat.le_add_right _ _ | (simp; omega)) _))⟩
  · exact ⟨by rw [ck_ix (by omega) rfl hf]; rfl, (by repeat (first | with_reducible exact hB | with_reducible exact Below.refl _ _ | with_reducible refine below_al ?_ _ | with_reducible refine below_st ?_ (by first | exact Nat.le_refl _ | exact Nat.le_add_right _ _ | (simp; omega)) _))⟩

set_option maxRecDepth 100000 in
set_option maxHeartbeats 1000000 in
theorem ckc_9 {w0 : World} {A : Option Addr} {n c : Nat} {L : List Cn} (s : ByteArray) (m a b : Int) (hS : Fits L) (hn : L.length = n) (hN : n ≤ 100000) (hp : Pool w0 w0.heap.size A L) (w : World) (hb : Below w0.heap.size w0 w) :
    Calls Tryd.prog 83 #[.slice A n c, .agg #[.int .i64 9, .string s, .int .i64 m, .int .i64 a, .int .i64 b]] w fun e w' => e = .returned (.int .i64 (ckE L 9 s m a b)) ∧ Below w.heap.size w w' := by
  have HP := Lib.hid (hp.up hb)
  have HN := Lib.hid hn
  clear hp hb hn
  have hB : Below w.heap.size w w := Below.refl _ _
  have e0 : cnQ ⟨0, s, m, 0, 0⟩ cnZ = fmB 9 s m a b := by cases hs : s.toList <;> simp [cnQ, fmB, cnZ, s_nil, mtB, hs]
  have e1 : ∀ w, (binOp .neq 56 (.agg #[.int .i64 0, .string s, .int .i64 m, .int .i64 0, .int .i64 0]) (.agg #[.int .i64 0, .string ⟨#[]⟩, .int .i64 0, .int .i64 0, .int .i64 0])).run Tryd.prog w = .ok (.bool (!fmB 9 s m a b)) w := fun w => by rw [← e0]; exact cn_neq ⟨0, s, m, 0, 0⟩ cnZ w
  clear e0
  cases hf : fmB 9 s m a b
  all_goals
    rw [hf] at e1
    go_enter Tryd.func83, Tryd.ntmps83
    go_wp2_with (first | (go_at_call 108; refine (tli_any _ _).mono ?_; rintro e w1 ⟨rfl, hb1⟩; obtain ⟨hc1, hf1⟩ := bcell hb1; have hz1 := hb1.size; (try simp only [World.size_alloc, World.size_setCell] at hz1); (try have hza : w.heap.size < w1.heap.size := by omega); (try have hzb : w.heap.size + 1 < w1.heap.size := by omega); (try have hzc : w.heap.size + 1 + 1 < w1.heap.size := by omega); (try have hzd : wa.heap.size < w1.heap.size := by omega); (try replace hR := (hb1.block w.heap.size (by first | exact lt_heap hR | (have := lt_heap hR; simp; omega))).trans (by first | with_reducible exact hR | with_reducible exact laid_old hR)); replace hB := below_on (w := w) ((by repeat (first | with_reducible exact hB | with_reducible exact Below.refl _ _ | with_reducible refine below_al ?_ _ | with_reducible refine below_st ?_ (by first | exact Nat.le_refl _ | exact Nat.le_add_right _ _ | (simp; omega)) _))) hb1; clear hb1) | (go_at_call 109; refine (chx_9 _ _ _ _ hS HN.out hN HP.out _ (by repeat (first | with_reducible exact hB | with_reducible exact Below.refl _ _ | with_reducible refine below_al ?_ _ | with_reducible refine below_st ?_ (by first | exact Nat.le_refl _ | exact Nat.le_add_right _ _ | (simp; omega)) _))).mono ?_; rintro e w1 ⟨rfl, hb1⟩; obtain ⟨hc1, hf1⟩ := bcell hb1; have hz1 := hb1.size; (try simp only [World.size_alloc, World.size_setCell] at hz1); (try have hza : w.heap.size < w1.heap.size := by omega); (try have hzb : w.heap.size + 1 < w1.heap.size := by omega); (try have hzc : w.heap.size + 1 + 1 < w1.heap.size := by omega); (try have hzd : wa.heap.size < w1.heap.size := by omega); (try replace hR := (hb1.block w.heap.size (by first | exact lt_heap hR | (have := lt_heap hR; simp; omega))).trans (by first | with_reducible exact hR | with_reducible exact laid_old hR)); replace hB := below_on (w := w) ((by repeat (first | with_reducible exact hB | with_reducible exact Below.refl _ _ | with_reducible refine below_al ?_ _ | with_reducible refine below_st ?_ (by first | exact Nat.le_refl _ | exact Nat.le_add_right _ _ | (simp; omega)) _))) hb1; clear hb1))
    all_goals go_ret
  · exact ⟨by rw [ck_mal rfl hf]; rfl, (by repeat (first | with_reducible exact hB | with_reducible exact Below.refl _ _ | with_reducible refine below_al ?_ _ | with_reducible refine below_st ?_ (by first | exact Nat.le_refl _ | exact Nat.le_add_right _ _ | (simp; omega)) _))⟩
  · exact ⟨by rw [ck_ix (by omega) rfl hf]; rfl, (by repeat (first | with_reducible exact hB | with_reducible exact Below.refl _ _ | with_reducible refine below_al ?_ _ | with_reducible refine below_st ?_ (by first | exact Nat.le_refl _ | exact Nat.le_add_right _ _ | (simp; omega)) _))⟩

set_option maxRecDepth 100000 in
set_option maxHeartbeats 1000000 in
theorem ckc_10 {w0 : World} {A : Option Addr} {n c : Nat} {L : List Cn} (s : ByteArray) (m a b : Int) (hS : Fits L) (hn : L.length = n) (hN : n ≤ 100000) (hp : Pool w0 w0.heap.size A L) (w : World) (hb : Below w0.heap.size w0 w) :
    Calls Tryd.prog 83 #[.slice A n c, .agg #[.int .i64 10, .string s, .int .i64 m, .int .i64 a, .int .i64 b]] w fun e w' => e = .returned (.int .i64 (ckE L 10 s m a b)) ∧ Below w.heap.size w w' := by
  have HP := Lib.hid (hp.up hb)
  have HN := Lib.hid hn
  clear hp hb hn
  have hB : Below w.heap.size w w := Below.refl _ _
  have e0 : cnQ ⟨0, s, m, 0, 0⟩ cnZ = fmB 10 s m a b := by cases hs : s.toList <;> simp [cnQ, fmB, cnZ, s_nil, mtB, hs]
  have e1 : ∀ w, (binOp .neq 56 (.agg #[.int .i64 0, .string s, .int .i64 m, .int .i64 0, .int .i64 0]) (.agg #[.int .i64 0, .string ⟨#[]⟩, .int .i64 0, .int .i64 0, .int .i64 0])).run Tryd.prog w = .ok (.bool (!fmB 10 s m a b)) w := fun w => by rw [← e0]; exact cn_neq ⟨0, s, m, 0, 0⟩ cnZ w
  clear e0
  cases hf : fmB 10 s m a b
  all_goals
    rw [hf] at e1
    go_enter Tryd.func83, Tryd.ntmps83
    go_wp2_with (first | (go_at_call 108; refine (tli_any _ _).mono ?_; rintro e w1 ⟨rfl, hb1⟩; obtain ⟨hc1, hf1⟩ := bcell hb1; have hz1 := hb1.size; (try simp only [World.size_alloc, World.size_setCell] at hz1); (try have hza : w.heap.size < w1.heap.size := by omega); (try have hzb : w.heap.size + 1 < w1.heap.size := by omega); (try have hzc : w.heap.size + 1 + 1 < w1.heap.size := by omega); (try have hzd : wa.heap.size < w1.heap.size := by omega); (try replace hR := (hb1.block w.heap.size (by first | exact lt_heap hR | (have := lt_heap hR; simp; omega))).trans (by first | with_reducible exact hR | with_reducible exact laid_old hR)); replace hB := below_on (w := w) ((by repeat (first | with_reducible exact hB | with_reducible exact Below.refl _ _ | with_reducible refine below_al ?_ _ | with_reducible refine below_st ?_ (by first | exact Nat.le_refl _ | exact Nat.le_add_right _ _ | (simp; omega)) _))) hb1; clear hb1) | (go_at_call 109; refine (chx_10 _ _ _ _ hS HN.out hN HP.out _ (by repeat (first | with_reducible exact hB | with_reducible exact Below.refl _ _ | with_reducible refine below_al ?_ _ | with_reducible refine below_st ?_ (by first | exact Nat.le_refl _ | exact Nat.le_add_right _ _ | (simp; omega)) _))).mono ?_; rintro e w1 ⟨rfl, hb1⟩; obtain ⟨hc1, hf1⟩ := bcell hb1; have hz1 := hb1.size; (try simp only [World.size_alloc, World.size_setCell] at hz1); (try have hza : w.heap.size < w1.heap.size := by omega); (try have hzb : w.heap.size + 1 < w1.heap.size := by omega); (try have hzc : w.heap.size + 1 + 1 < w1.heap.size := by omega); (try have hzd : wa.heap.size < w1.heap.size := by omega); (try replace hR := (hb1.block w.heap.size (by first | exact lt_heap hR | (have := lt_heap hR; simp; omega))).trans (by first | with_reducible exact hR | with_reducible exact laid_old hR)); replace hB := below_on (w := w) ((by repeat (first | with_reducible exact hB | with_reducible exact Below.refl _ _ | with_reducible refine below_al ?_ _ | with_reducible refine below_st ?_ (by first | exact Nat.le_refl _ | exact Nat.le_add_right _ _ | (simp; omega)) _))) hb1; clear hb1))
    all_goals go_ret
  · exact ⟨by rw [ck_mal rfl hf]; rfl, (by repeat (first | with_reducible exact hB | with_reducible exact Below.refl _ _ | with_reducible refine below_al ?_ _ | with_reducible refine below_st ?_ (by first | exact Nat.le_refl _ | exact Nat.le_add_right _ _ | (simp; omega)) _))⟩
  · exact ⟨by rw [ck_ix (by omega) rfl hf]; rfl, (by repeat (first | with_reducible exact hB | with_reducible exact Below.refl _ _ | with_reducible refine below_al ?_ _ | with_reducible refine below_st ?_ (by first | exact Nat.le_refl _ | exact Nat.le_add_right _ _ | (simp; omega)) _))⟩

set_option maxRecDepth 100000 in
set_option maxHeartbeats 1000000 in
theorem ckc_11 {w0 : World} {A : Option Addr} {n c : Nat} {L : List Cn} (s : ByteArray) (m a b : Int) (hS : Fits L) (hn : L.length = n) (hN : n ≤ 100000) (hp : Pool w0 w0.heap.size A L) (w : World) (hb : Below w0.heap.size w0 w) :
    Calls Tryd.prog 83 #[.slice A n c, .agg #[.int .i64 11, .string s, .int .i64 m, .int .i64 a, .int .i64 b]] w fun e w' => e = .returned (.int .i64 (ckE L 11 s m a b)) ∧ Below w.heap.size w w' := by
  have HP := Lib.hid (hp.up hb)
  have HN := Lib.hid hn
  clear hp hb hn
  have hB : Below w.heap.size w w := Below.refl _ _
  have e0 : cnQ ⟨0, s, m, 0, 0⟩ cnZ = fmB 11 s m a b := by cases hs : s.toList <;> simp [cnQ, fmB, cnZ, s_nil, mtB, hs]
  have e1 : ∀ w, (binOp .neq 56 (.agg #[.int .i64 0, .string s, .int .i64 m, .int .i64 0, .int .i64 0]) (.agg #[.int .i64 0, .string ⟨#[]⟩, .int .i64 0, .int .i64 0, .int .i64 0])).run Tryd.prog w = .ok (.bool (!fmB 11 s m a b)) w := fun w => by rw [← e0]; exact cn_neq ⟨0, s, m, 0, 0⟩ cnZ w
  clear e0
  cases hf : fmB 11 s m a b
  all_goals
    rw [hf] at e1
    go_enter Tryd.func83, Tryd.ntmps83
    go_wp2_with (first | (go_at_call 108; refine (tli_any _ _).mono ?_; rintro e w1 ⟨rfl, hb1⟩; obtain ⟨hc1, hf1⟩ := bcell hb1; have hz1 := hb1.size; (try simp only [World.size_alloc, World.size_setCell] at hz1); (try have hza : w.heap.size < w1.heap.size := by omega); (try have hzb : w.heap.size + 1 < w1.heap.size := by omega); (try have hzc : w.heap.size + 1 + 1 < w1.heap.size := by omega); (try have hzd : wa.heap.size < w1.heap.size := by omega); (try replace hR := (hb1.block w.heap.size (by first | exact lt_heap hR | (have := lt_heap hR; simp; omega))).trans (by first | with_reducible exact hR | with_reducible exact laid_old hR)); replace hB := below_on (w := w) ((by repeat (first | with_reducible exact hB | with_reducible exact Below.refl _ _ | with_reducible refine below_al ?_ _ | with_reducible refine below_st ?_ (by first | exact Nat.le_refl _ | exact Nat.le_add_right _ _ | (simp; omega)) _))) hb1; clear hb1) | (go_at_call 109; refine (chx_11 _ _ _ _ hS HN.out hN HP.out _ (by repeat (first | with_reducible exact hB | with_reducible exact Below.refl _ _ | with_reducible refine below_al ?_ _ | with_reducible refine below_st ?_ (by first | exact Nat.le_refl _ | exact Nat.le_add_right _ _ | (simp; omega)) _))).mono ?_; rintro e w1 ⟨rfl, hb1⟩; obtain ⟨hc1, hf1⟩ := bcell hb1; have hz1 := hb1.size; (try simp only [World.size_alloc, World.size_setCell] at hz1); (try have hza : w.heap.size < w1.heap.size := by omega); (try have hzb : w.heap.size + 1 < w1.heap.size := by omega); (try have hzc : w.heap.size + 1 + 1 < w1.heap.size := by omega); (try have hzd : wa.heap.size < w1.heap.size := by omega); (try replace hR := (hb1.block w.heap.size (by first | exact lt_heap hR | (have := lt_heap hR; simp; omega))).trans (by first | with_reducible exact hR | with_reducible exact laid_old hR)); replace hB := below_on (w := w) ((by repeat (first | with_reducible exact hB | with_reducible exact Below.refl _ _ | with_reducible refine below_al ?_ _ | with_reducible refine below_st ?_ (by first | exact Nat.le_refl _ | exact Nat.le_add_right _ _ | (simp; omega)) _))) hb1; clear hb1))
    all_goals go_ret
  · exact ⟨by rw [ck_mal rfl hf]; rfl, (by repeat (first | with_reducible exact hB | with_reducible exact Below.refl _ _ | with_reducible refine below_al ?_ _ | with_reducible refine below_st ?_ (by first | exact Nat.le_refl _ | exact Nat.le_add_right _ _ | (simp; omega)) _))⟩
  · exact ⟨by rw [ck_ix (by omega) rfl hf]; rfl, (by repeat (first | with_reducible exact hB | with_reducible exact Below.refl _ _ | with_reducible refine below_al ?_ _ | with_reducible refine below_st ?_ (by first | exact Nat.le_refl _ | exact Nat.le_add_right _ _ | (simp; omega)) _))⟩

set_option maxRecDepth 100000 in
set_option maxHeartbeats 1000000 in
theorem ckc_u {w0 : World} {A : Option Addr} {n c : Nat} {L : List Cn} (t : Int) (hk : knB t = false) (s : ByteArray) (m a b : Int) (hS : Fits L) (hn : L.length = n) (hN : n ≤ 100000) (hp : Pool w0 w0.heap.size A L) (w : World) (hb : Below w0.heap.size w0 w) :
    Calls Tryd.prog 83 #[.slice A n c, .agg #[.int .i64 t, .string s, .int .i64 m, .int .i64 a, .int .i64 b]] w fun e w' => e = .returned (.int .i64 (ckE L t s m a b)) ∧ Below w.heap.size w w' := by
  have HP := Lib.hid (hp.up hb)
  have HN := Lib.hid hn
  clear hp hb hn
  have hB : Below w.heap.size w w := Below.refl _ _
  have hne : ¬ t = 1 ∧ ¬ t = 3 ∧ ¬ t = 5 ∧ ¬ t = 7 ∧ ¬ t = 8 ∧ ¬ t = 12 ∧ ¬ t = 9 ∧ ¬ t = 10 ∧ ¬ t = 11 := by
    refine ⟨?_, ?_, ?_, ?_, ?_, ?_, ?_, ?_, ?_⟩ <;> (rintro rfl; revert hk; decide)
  obtain ⟨h1, h3, h5, h7, h8, h12, h9, h10, h11⟩ := hne
  have g1 := beqF h1
  have g3 := beqF h3
  have g5 := beqF h5
  have g7 := beqF h7
  have g8 := beqF h8
  have g12 := beqF h12
  have g9 := beqF h9
  have g10 := beqF h10
  have g11 := beqF h11
  clear h1 h3 h5 h7 h8 h12 h9 h10 h11
  go_enter Tryd.func83, Tryd.ntmps83
  go_wp2
  go_ret
  exact ⟨by rw [ck_un hk]; rfl, (by repeat (first | with_reducible exact hB | with_reducible exact Below.refl _ _ | with_reducible refine below_al ?_ _ | with_reducible refine below_st ?_ (by first | exact Nat.le_refl _ | exact Nat.le_add_right _ _ | (simp; omega)) _))⟩

set_option maxRecDepth 100000 in
set_option maxHeartbeats 1000000 in
theorem cck_any {w0 : World} {A : Option Addr} {n c : Nat} {L : List Cn} (t : Int) (s : ByteArray) (m a b : Int) (hS : Fits L) (hn : L.length = n) (hN : n ≤ 100000) (hp : Pool w0 w0.heap.size A L) (w : World) (hb : Below w0.heap.size w0 w) :
    Calls Tryd.prog 83 #[.slice A n c, .agg #[.int .i64 t, .string s, .int .i64 m, .int .i64 a, .int .i64 b]] w fun e w' => e = .returned (.int .i64 (ckE L t s m a b)) ∧ Below w.heap.size w w' := by
  cases hk : knB t with
  | false => exact ckc_u t hk s m a b hS hn hN hp w hb
  | true =>
    rcases kn_cases hk with rfl | rfl | rfl | rfl | rfl | rfl | rfl | rfl | rfl
    · exact ckc_1 s m a b hS hn hN hp w hb
    · exact ckc_3 s m a b hS hn hN hp w hb
    · exact ckc_5 s m a b hS hn hN hp w hb
    · exact ckc_7 s m a b hS hn hN hp w hb
    · exact ckc_8 s m a b hS hn hN hp w hb
    · exact ckc_12 s m a b hS hn hN hp w hb
    · exact ckc_9 s m a b hS hn hN hp w hb
    · exact ckc_10 s m a b hS hn hN hp w hb
    · exact ckc_11 s m a b hS hn hN hp w hb

end Go.Proofs.YtdppooflbjlbcaaDoor

/- PoolCheck -/
/- Layer 5: Check, in the package and in its reference. -/
namespace Go.Proofs.YtdppooflbjlbcaaDoor
open Go.ChangeShapes Go.WideShapes Go.ChangeAt Go.RowKit Go.PlainAid
set_option linter.unusedSimpArgs false
set_option linter.unusedVariables false

def ck (L : List Cn) (c : Cn) : Int := ckE L c.t c.s c.n c.a c.b
def badN (L : List Cn) : Nat := L.findIdx (fun c => ck L c != 0)
def ch (L : List Cn) : Int × Int := if 1000 < L.length then (0, 5) else if badN L < L.length then ((badN L : Int) + 1, ck L (L.getD (badN L) cnZ)) else (0, 0)
def chI (L : List Cn) : Int := (ch L).1
def chE (L : List Cn) : Int := (ch L).2
theorem ch_1 {L : List Cn} (h : 1000 < L.length) : chI L = 0 ∧ chE L = 5 := by unfold chI chE ch; rw [if_pos h]; exact ⟨rfl, rfl⟩
theorem ch_2 {L : List Cn} (h : ¬ 1000 < L.length) (h1 : badN L < L.length) : chI L = (badN L : Int) + 1 ∧ chE L = ck L (L.getD (badN L) cnZ) := by unfold chI chE ch; rw [if_neg h, if_pos h1]; exact ⟨rfl, rfl⟩
theorem ch_3 {L : List Cn} (h : ¬ 1000 < L.length) (h1 : ¬ badN L < L.length) : chI L = 0 ∧ chE L = 0 := by unfold chI chE ch; rw [if_neg h, if_neg h1]; exact ⟨rfl, rfl⟩
theorem bad_le (L : List Cn) : badN L ≤ L.length := List.findIdx_le_length
theorem bad_here {L : List Cn} {k : Nat} {p : Cn} (h : k ≤ badN L) (hk : L[k]? = some p) (hp : ¬ ck L p = 0) : badN L = k := by
  have hl : k < L.length := by
    rcases Nat.lt_or_ge k L.length with h1 | h1
    · exact h1
    · rw [List.getElem?_eq_none h1] at hk; cases hk
  rcases Nat.lt_or_ge k (badN L) with h1 | h1
  · exfalso
    have := List.not_of_lt_findIdx (p := fun c => ck L c != 0) h1
    rw [List.getElem?_eq_getElem hl] at hk
    have hx := Option.some.inj hk
    simp only [hx] at this
    simp at this
    exact hp this
  · exact Nat.le_antisymm h1 h
theorem bad_next {L : List Cn} {k : Nat} {p : Cn} (h : k ≤ badN L) (hk : L[k]? = some p) (hp : ck L p = 0) : k + 1 ≤ badN L := by
  have hl : k < L.length := by
    rcases Nat.lt_or_ge k L.length with h1 | h1
    · exact h1
    · rw [List.getElem?_eq_none h1] at hk; cases hk
  rcases Nat.lt_or_ge k (badN L) with h1 | h1
  · exact h1
  · exfalso
    have e : badN L = k := Nat.le_antisymm h1 h
    have hlt : badN L < L.length := by rw [e]; exact hl
    have := List.findIdx_getElem (p := fun c => ck L c != 0) (w := hlt)
    rw [List.getElem?_eq_getElem hl] at hk
    have hx := Option.some.inj hk
    have e' : List.findIdx (fun c => ck L c != 0) L = k := e
    simp only [e'] at this
    rw [hx, hp] at this
    cases this

set_option maxRecDepth 100000 in
set_option maxHeartbeats 1000000 in
theorem check_any {w0 : World} {A : Option Addr} {n c : Nat} {L : List Cn} (hS : Fits L) (hn : L.length = n) (hN : n ≤ 100000) (hp : Pool w0 w0.heap.size A L) (w : World) (hb : Below w0.heap.size w0 w) :
    Calls Tryd.prog 62 #[.slice A n c] w fun e w' => e = .returned (.tuple #[.int .i64 (chI L), .int .i64 (chE L)]) ∧ Below w.heap.size w w' := by
  have HP := Lib.hid (hp.up hb)
  have HN := Lib.hid hn
  clear hp hb hn
  have hB : Below w.heap.size w w := Below.refl _ _
  by_cases h1 : 1000 < L.length
  · have g := ch_1 h1
    rw [HN.out] at h1
    rw [g.1, g.2]
    go_enter Tryd.func62, Tryd.ntmps62
    go_wp2
    go_ret2
    exact ⟨rfl, (by repeat (first | with_reducible exact hB | with_reducible exact Below.refl _ _ | with_reducible refine below_al ?_ _ | with_reducible refine below_st ?_ (by first | exact Nat.le_refl _ | exact Nat.le_add_right _ _ | (simp; omega)) _))⟩
  · have H1 := Lib.hid h1
    rw [HN.out] at h1
    go_enter Tryd.func62, Tryd.ntmps62
    go_wp2
    go_loopw [12] (fun i wr => ∃ k : Nat, k ≤ badN L ∧ i = .int .i64 k ∧ Below w.heap.size w wr) (fun i _ => n - (intOf i).toNat)
    case atStart => exact ⟨0, Nat.zero_le _, rfl, hB⟩
    case round =>
      obtain ⟨k, hk, rfl, hBr⟩ := hrel
      have hle := bad_le L
      rw [HN.out] at hle
      by_cases hlt : k < n
      · have hp : ∃ p, L[k]? = some p := ⟨L[k]'(by rw [HN.out]; exact hlt), List.getElem?_eq_getElem _⟩
        obtain ⟨p, hp⟩ := hp
        have HPW := Lib.hid (HP.out.up hBr)
        rcases HPW.out with h0 | ⟨b, o, rfl, hg, hcell⟩
        · rw [h0] at hp; cases hp
        · obtain ⟨a0, a1, a2, a3, a4⟩ := hcell k _ hp
          clear hcell
          have hk0 : (0 : Int) ≤ (k : Int) := by omega
          have hk1 : (k : Int) < (n : Int) := by omega
          have HK := Lib.hid hk
          have HPK := Lib.hid hp
          clear hle hk hp
          go_wp2_with (go_at_call 83; refine (cck_any p.t p.s p.n p.a p.b hS HN.out hN HPW.out _ (by first | exact Below.refl _ _ | exact below_al (Below.refl _ _) _)).mono ?_; rintro e w1 ⟨rfl, hb1⟩; have hB2 := below_on (w := w) (by first | exact hBr | exact below_al hBr _) hb1; clear hb1)
          · have hck : ¬ ck L p = 0 := bneT (by assumption)
            have hI := bad_here HK.out HPK.out hck
            have g := Lib.hid (ch_2 H1.out (by rw [hI, HN.out]; exact hlt))
            go_ret2
            exact ⟨by rw [g.out.1, g.out.2, hI, List.getD_eq_getElem?_getD, HPK.out]; rfl, hB2⟩
          · have hck : ck L p = 0 := bneF (by assumption)
            go_roundw
            case rel => exact ⟨k + 1, bad_next HK.out HPK.out hck, by go_num, hB2⟩
            case measure => simp [intOf]; omega
      · obtain rfl : k = n := by omega
        have g := Lib.hid (ch_3 H1.out (by rw [HN.out]; omega))
        go_wp2
        go_ret2
        exact ⟨by rw [g.out.1, g.out.2]; rfl, hBr⟩

end Go.Proofs.YtdppooflbjlbcaaDoor

/- PoolHas -/
/- Layer 5: what was added can be read; adding it again changes nothing. No walk. -/
namespace Go.Proofs.YtdppooflbjlbcaaDoor
set_option linter.unusedSimpArgs false
set_option linter.unusedVariables false

/-- x stands first at the index i -/
def Has (L : List Cn) (x : Cn) (i : Int) : Prop := ixN L x < L.length ∧ i = (ixN L x : Int) + 1
def Pre (L M : List Cn) : Prop := ∃ t, M = L ++ t
theorem Pre.refl (L : List Cn) : Pre L L := ⟨[], by simp⟩
theorem Pre.trans {L M K : List Cn} (h : Pre L M) (k : Pre M K) : Pre L K := by
  obtain ⟨t, rfl⟩ := h
  obtain ⟨u, rfl⟩ := k
  exact ⟨t ++ u, by rw [List.append_assoc]⟩
theorem Pre.len {L M : List Cn} (h : Pre L M) : L.length ≤ M.length := by obtain ⟨t, rfl⟩ := h; simp
theorem Has.pre {L M : List Cn} {x : Cn} {i : Int} (h : Has L x i) (k : Pre L M) : Has M x i := by
  obtain ⟨t, rfl⟩ := k
  have e : ixN (L ++ t) x = ixN L x := by
    unfold ixN
    rw [List.findIdx_append]
    exact if_pos h.1
  refine ⟨by rw [e, List.length_append]; have := h.1; omega, by rw [e]; exact h.2⟩
theorem Has.again {L : List Cn} {x : Cn} {i : Int} (h : Has L x i) : adL L x = L ∧ adI L x = i ∧ adE L x = 0 := by
  obtain ⟨a, b, c⟩ := ad_1 h.1
  exact ⟨a, by rw [b, h.2], c⟩
theorem Has.at {L : List Cn} {x : Cn} {i : Int} (h : Has L x i) : atC L i = x ∧ atE L i = 0 := by
  have hg := List.findIdx_getElem (p := fun c => cnQ c x) (xs := L) (w := h.1)
  have e : L[ixN L x]? = some x := by
    rw [List.getElem?_eq_getElem h.1]
    congr 1
    exact cnQ_iff.1 hg
  have := at_in e
  rw [h.2]
  exact this
theorem pre_ad (L : List Cn) (x : Cn) : Pre L (adL L x) := by
  by_cases h : ixN L x < L.length
  · rw [(ad_1 h).1]; exact Pre.refl _
  · by_cases h2 : 1000 ≤ L.length
    · rw [(ad_2 h h2).1]; exact Pre.refl _
    · rw [(ad_3 h h2).1]; exact ⟨[x], rfl⟩
theorem has_ad {L : List Cn} {x : Cn} (h : adE L x = 0) : Has (adL L x) x (adI L x) := by
  by_cases h1 : ixN L x < L.length
  · rw [(ad_1 h1).1, (ad_1 h1).2.1]; exact ⟨h1, rfl⟩
  · by_cases h2 : 1000 ≤ L.length
    · rw [(ad_2 h1 h2).2.2] at h; cases h
    · rw [(ad_3 h1 h2).1, (ad_3 h1 h2).2.1]
      have e0 : ixN L x = L.length := Nat.le_antisymm (ix_le L x) (by omega)
      have e : ixN (L ++ [x]) x = L.length := by
        have e1 : List.findIdx (fun c => cnQ c x) L = L.length := e0
        unfold ixN
        rw [List.findIdx_append, e1, if_neg (by omega)]
        simp [cnQ_self]
      exact ⟨by rw [e]; simp, by rw [e]⟩
theorem ad_le (L : List Cn) (x : Cn) : (adL L x).length ≤ L.length + 1 := by
  by_cases h1 : ixN L x < L.length
  · rw [(ad_1 h1).1]; omega
  · by_cases h2 : 1000 ≤ L.length
    · rw [(ad_2 h1 h2).1]; omega
    · rw [(ad_3 h1 h2).1]; simp
theorem ad_full {L : List Cn} {x : Cn} (h : ¬ adE L x = 0) : 1000 ≤ L.length := by
  by_cases h1 : ixN L x < L.length
  · exact absurd (ad_1 h1).2.2 h
  · by_cases h2 : 1000 ≤ L.length
    · exact h2
    · exact absurd (ad_3 h1 h2).2.2 h

/-! ### a text and a constant that refers to it -/
theorem an_has {L : List Cn} {t : Int} {s : ByteArray} (h : anE L t s = 0) : ∃ i, Has (anL L t s) (cu s) i ∧ Has (anL L t s) (ct t i 0) (anI L t s) ∧ Pre L (anL L t s) := by
  by_cases h1 : adE L (cu s) = 0
  · by_cases h2 : adE (adL L (cu s)) (ct t (adI L (cu s)) 0) = 0
    · obtain ⟨a, b, _⟩ := an_3 h1 h2
      rw [a, b]
      exact ⟨adI L (cu s), (has_ad h1).pre (pre_ad _ _), has_ad h2, (pre_ad _ _).trans (pre_ad _ _)⟩
    · exact absurd ((an_2 h1 h2).2.2.symm.trans h) h2
  · exact absurd ((an_1 (t := t) h1).2.2.symm.trans h) h1
theorem an_again {L : List Cn} {t i k : Int} {s : ByteArray} (h1 : Has L (cu s) i) (h2 : Has L (ct t i 0) k) : anL L t s = L ∧ anI L t s = k ∧ anE L t s = 0 := by
  obtain ⟨a, b, c⟩ := h1.again
  have e2 : adE (adL L (cu s)) (ct t (adI L (cu s)) 0) = 0 := by rw [a, b]; exact h2.again.2.2
  obtain ⟨x, y, z⟩ := an_3 c e2
  rw [x, y, z, a, b]
  exact ⟨h2.again.1, h2.again.2.1, rfl⟩
theorem pre_an (L : List Cn) (t : Int) (s : ByteArray) : Pre L (anL L t s) := by
  by_cases h : anE L t s = 0
  · obtain ⟨_, _, _, h3⟩ := an_has h; exact h3
  · by_cases h1 : adE L (cu s) = 0
    · by_cases h2 : adE (adL L (cu s)) (ct t (adI L (cu s)) 0) = 0
      · exact absurd (an_3 h1 h2).2.2 h
      · rw [(an_2 h1 h2).1]; exact Pre.refl _
    · rw [(an_1 (t := t) h1).1]; exact Pre.refl _
theorem an_le (L : List Cn) (t : Int) (s : ByteArray) : (anL L t s).length ≤ L.length + 2 := by
  by_cases h1 : adE L (cu s) = 0
  · by_cases h2 : adE (adL L (cu s)) (ct t (adI L (cu s)) 0) = 0
    · rw [(an_3 h1 h2).1]
      have := ad_le L (cu s)
      have := ad_le (adL L (cu s)) (ct t (adI L (cu s)) 0)
      omega
    · rw [(an_2 h1 h2).1]; omega
  · rw [(an_1 (t := t) h1).1]; omega
theorem an_le1 {L : List Cn} {t i : Int} {s : ByteArray} (h : Has L (cu s) i) : (anL L t s).length ≤ L.length + 1 := by
  obtain ⟨a, b, c⟩ := h.again
  by_cases h2 : adE (adL L (cu s)) (ct t (adI L (cu s)) 0) = 0
  · rw [(an_3 c h2).1, a]
    exact ad_le _ _
  · rw [(an_2 c h2).1]; omega
theorem an_full {L : List Cn} {t : Int} {s : ByteArray} (h : ¬ anE L t s = 0) : 999 ≤ L.length := by
  by_cases h1 : adE L (cu s) = 0
  · by_cases h2 : adE (adL L (cu s)) (ct t (adI L (cu s)) 0) = 0
    · exact absurd (an_3 h1 h2).2.2 h
    · have := ad_full h2
      have := ad_le L (cu s)
      omega
  · have := ad_full h1; omega

/-! ### a member reference -/
theorem am_has {L : List Cn} {t : Int} {a b d : ByteArray} (h : amE L t a b d = 0) :
    ∃ i c j k m, Has (amL L t a b d) (cu a) i ∧ Has (amL L t a b d) (ct 7 i 0) c ∧ Has (amL L t a b d) (cu b) j ∧ Has (amL L t a b d) (cu d) k ∧ Has (amL L t a b d) (ct 12 j k) m ∧ Has (amL L t a b d) (ct t c m) (amI L t a b d) ∧ Pre L (amL L t a b d) := by
  by_cases h1 : anE L 7 a = 0
  rotate_left
  · exact absurd ((am_1 (t := t) (b := b) (d := d) h1).2.2.symm.trans h) h1
  by_cases h2 : am2E L a b = 0
  rotate_left
  · exact absurd ((am_2 (t := t) (d := d) h1 h2).2.2.symm.trans h) h2
  by_cases h3 : am3E L a b d = 0
  rotate_left
  · exact absurd ((am_3 (t := t) h1 h2 h3).2.2.symm.trans h) h3
  by_cases h4 : am4E L a b d = 0
  rotate_left
  · exact absurd ((am_4 (t := t) h1 h2 h3 h4).2.2.symm.trans h) h4
  by_cases h5 : am5E L t a b d = 0
  rotate_left
  · exact absurd ((am_5 h1 h2 h3 h4 h5).2.2.symm.trans h) h5
  obtain ⟨eL, eI, _⟩ := am_6 h1 h2 h3 h4 h5
  obtain ⟨i, p1, p2, p3⟩ := an_has h1
  have q2 : Pre (anL L 7 a) (am2 L a b) := pre_ad _ _
  have q3 : Pre (am2 L a b) (am3 L a b d) := pre_ad _ _
  have q4 : Pre (am3 L a b d) (am4 L a b d) := pre_ad _ _
  have q5 : Pre (am4 L a b d) (am5 L t a b d) := pre_ad _ _
  rw [eL, eI]
  refine ⟨i, anI L 7 a, am2I L a b, am3I L a b d, am4I L a b d, ?_, ?_, ?_, ?_, ?_, ?_, ?_⟩
  · exact p1.pre (q2.trans (q3.trans (q4.trans q5)))
  · exact p2.pre (q2.trans (q3.trans (q4.trans q5)))
  · exact (has_ad h2).pre (q3.trans (q4.trans q5))
  · exact (has_ad h3).pre (q4.trans q5)
  · exact (has_ad h4).pre q5
  · exact has_ad h5
  · exact p3.trans (q2.trans (q3.trans (q4.trans q5)))
theorem am_again {L : List Cn} {t i c j k m q : Int} {a b d : ByteArray} (p1 : Has L (cu a) i) (p2 : Has L (ct 7 i 0) c) (p3 : Has L (cu b) j) (p4 : Has L (cu d) k) (p5 : Has L (ct 12 j k) m) (p6 : Has L (ct t c m) q) :
    amL L t a b d = L ∧ amI L t a b d = q ∧ amE L t a b d = 0 := by
  obtain ⟨a1, b1, c1⟩ := an_again p1 p2
  have a2 : am2 L a b = L := by unfold am2; rw [a1]; exact p3.again.1
  have b2 : am2I L a b = j := by unfold am2I; rw [a1]; exact p3.again.2.1
  have c2 : am2E L a b = 0 := by unfold am2E; rw [a1]; exact p3.again.2.2
  have a3 : am3 L a b d = L := by unfold am3; rw [a2]; exact p4.again.1
  have b3 : am3I L a b d = k := by unfold am3I; rw [a2]; exact p4.again.2.1
  have c3 : am3E L a b d = 0 := by unfold am3E; rw [a2]; exact p4.again.2.2
  have a4 : am4 L a b d = L := by unfold am4; rw [a3, b2, b3]; exact p5.again.1
  have b4 : am4I L a b d = m := by unfold am4I; rw [a3, b2, b3]; exact p5.again.2.1
  have c4 : am4E L a b d = 0 := by unfold am4E; rw [a3, b2, b3]; exact p5.again.2.2
  have a5 : am5 L t a b d = L := by unfold am5; rw [a4, b1, b4]; exact p6.again.1
  have b5 : am5I L t a b d = q := by unfold am5I; rw [a4, b1, b4]; exact p6.again.2.1
  have c5 : am5E L t a b d = 0 := by unfold am5E; rw [a4, b1, b4]; exact p6.again.2.2
  obtain ⟨x, y, z⟩ := am_6 c1 c2 c3 c4 c5
  rw [x, y, z]
  exact ⟨a5, b5, rfl⟩
theorem am_le (L : List Cn) (t : Int) (a b d : ByteArray) : (amL L t a b d).length ≤ L.length + 6 ∧ (¬ amE L t a b d = 0 → 995 ≤ L.length) := by
  have l1 := an_le L 7 a
  have l2 : (am2 L a b).length ≤ (anL L 7 a).length + 1 := ad_le _ _
  have l3 : (am3 L a b d).length ≤ (am2 L a b).length + 1 := ad_le _ _
  have l4 : (am4 L a b d).length ≤ (am3 L a b d).length + 1 := ad_le _ _
  have l5 : (am5 L t a b d).length ≤ (am4 L a b d).length + 1 := ad_le _ _
  by_cases h1 : anE L 7 a = 0
  rotate_left
  · have := an_full h1
    exact ⟨by rw [(am_1 h1).1]; omega, fun _ => by omega⟩
  by_cases h2 : am2E L a b = 0
  rotate_left
  · have := ad_full h2
    exact ⟨by rw [(am_2 h1 h2).1]; omega, fun _ => by omega⟩
  by_cases h3 : am3E L a b d = 0
  rotate_left
  · have := ad_full h3
    exact ⟨by rw [(am_3 h1 h2 h3).1]; omega, fun _ => by omega⟩
  by_cases h4 : am4E L a b d = 0
  rotate_left
  · have := ad_full h4
    exact ⟨by rw [(am_4 h1 h2 h3 h4).1]; omega, fun _ => by omega⟩
  by_cases h5 : am5E L t a b d = 0
  rotate_left
  · have := ad_full h5
    exact ⟨by rw [(am_5 h1 h2 h3 h4 h5).1]; omega, fun _ => by omega⟩
  exact ⟨by rw [(am_6 h1 h2 h3 h4 h5).1]; omega, fun h => absurd (am_6 h1 h2 h3 h4 h5).2.2 h⟩

/-! ### what is read -/
theorem tg_has {L : List Cn} {x : Cn} {i : Int} (h : Has L x i) : tgC L i x.t = x ∧ tgE L i x.t = 0 := by
  obtain ⟨a, b⟩ := h.at
  obtain ⟨c, d⟩ := tg_3 b (by rw [a])
  exact ⟨by rw [c, a], d⟩
theorem nm_has {L : List Cn} {t i k : Int} {s : ByteArray} (h1 : Has L (cu s) i) (h2 : Has L (ct t i 0) k) : nmS L k t = s ∧ nmE L k t = 0 := by
  obtain ⟨a, b⟩ := tg_has h1
  obtain ⟨c, d⟩ := tg_has h2
  have c' : tgC L k t = ct t i 0 := c
  have d' : tgE L k t = 0 := d
  obtain ⟨x, y⟩ := nm_2 d'
  rw [x, y, c']
  exact ⟨by show (tgC L i 1).s = s; rw [show tgC L i 1 = cu s from a], b⟩
theorem nt_has {L : List Cn} {j k m : Int} {b d : ByteArray} (h1 : Has L (cu b) j) (h2 : Has L (cu d) k) (h3 : Has L (ct 12 j k) m) : ntN L m = b ∧ ntD L m = d ∧ ntE L m = 0 := by
  obtain ⟨a1, b1⟩ := tg_has h1
  obtain ⟨a2, b2⟩ := tg_has h2
  obtain ⟨a3, b3⟩ := tg_has h3
  have a3' : tgC L m 12 = ct 12 j k := a3
  obtain ⟨x, y, z⟩ := nt_4 (L := L) (i := m) b3 (by rw [a3']; exact b1) (by rw [a3']; exact b2)
  rw [a3'] at x y
  refine ⟨?_, ?_, z⟩
  · rw [x, show tgC L (ct 12 j k).a 1 = cu b from a1]
  · rw [y, show tgC L (ct 12 j k).b 1 = cu d from a2]
theorem mr_has {L : List Cn} {t i c j k m q : Int} {a b d : ByteArray} (ht : mtB t = true) (p1 : Has L (cu a) i) (p2 : Has L (ct 7 i 0) c) (p3 : Has L (cu b) j) (p4 : Has L (cu d) k) (p5 : Has L (ct 12 j k) m) (p6 : Has L (ct t c m) q) :
    mrC L q t = a ∧ mrN L q t = b ∧ mrD L q t = d ∧ mrE L q t = 0 := by
  obtain ⟨x, y⟩ := p6.at
  obtain ⟨n1, n2⟩ := nm_has p1 p2
  obtain ⟨o1, o2, o3⟩ := nt_has p3 p4 p5
  have g := mr_5 (L := L) (i := q) (t := t) y ⟨ht, by rw [x]⟩ (by rw [x]; exact n2) (by rw [x]; exact o3)
  rw [x] at g
  rw [g.1, g.2.1, g.2.2.1, g.2.2.2]
  exact ⟨n1, o1, o2, rfl⟩
theorem mr_not {L : List Cn} {t t' c m q : Int} (ht : ¬ t = t') (p6 : Has L (ct t c m) q) : mrC L q t' = ⟨#[]⟩ ∧ mrN L q t' = ⟨#[]⟩ ∧ mrD L q t' = ⟨#[]⟩ ∧ mrE L q t' = 11 := by
  obtain ⟨x, y⟩ := p6.at
  exact mr_2 y (fun h => ht (by have := h.2; rw [x] at this; exact this))
theorem Pool.front {w : World} {B : Nat} {A : Option Addr} {L M : List Cn} (h : Pool w B A M) (k : Pre L M) : Pool w B A L := by
  obtain ⟨t, rfl⟩ := k
  rcases h with h | ⟨g, o, hA, hg, hc⟩
  · exact Or.inl (List.append_eq_nil_iff.1 h).1
  · refine Or.inr ⟨g, o, hA, hg, fun i c hi => hc i c ?_⟩
    have hl : i < L.length := by
      rcases Nat.lt_or_ge i L.length with h1 | h1
      · exact h1
      · rw [List.getElem?_eq_none h1] at hi; cases hi
    rw [List.getElem?_append_left hl]; exact hi

end Go.Proofs.YtdppooflbjlbcaaDoor

/- PoolValid -/
/- Layer 5: what holds in a valid pool. No walk. -/
namespace Go.Proofs.YtdppooflbjlbcaaDoor
set_option linter.unusedSimpArgs false
set_option linter.unusedVariables false

def Valid (L : List Cn) : Prop := ∀ c ∈ L, ck L c = 0
theorem bad_none {L : List Cn} (h : Valid L) : badN L = L.length := by
  unfold badN
  rw [List.findIdx_eq_length]
  intro c hc
  simp [h c hc]
theorem bad_all {L : List Cn} (h : ¬ badN L < L.length) : Valid L := by
  have e : badN L = L.length := Nat.le_antisymm (bad_le L) (by omega)
  unfold badN at e
  rw [List.findIdx_eq_length] at e
  intro c hc
  have := e c hc
  simpa using this
theorem ch_valid {L : List Cn} (h : L.length ≤ 1000) (hv : Valid L) : chI L = 0 ∧ chE L = 0 := ch_3 (by omega) (by rw [bad_none hv]; omega)
theorem ch_zero {L : List Cn} (h : chE L = 0) : L.length ≤ 1000 ∧ Valid L := by
  by_cases h1 : 1000 < L.length
  · rw [(ch_1 h1).2] at h; cases h
  · refine ⟨by omega, ?_⟩
    by_cases h2 : badN L < L.length
    · rw [(ch_2 h1 h2).2] at h
      have hg := List.findIdx_getElem (p := fun c => ck L c != 0) (xs := L) (w := h2)
      rw [List.getD_eq_getElem?_getD, List.getElem?_eq_getElem h2] at h
      have h' : ck L (L[badN L]'h2) = 0 := h
      have hg' : (ck L (L[badN L]'h2) != 0) = true := hg
      rw [h'] at hg'
      cases hg'
    · exact bad_all h2
/-- no constant is too many -/
theorem tg_not5 (L : List Cn) (i t : Int) : ¬ tgE L i t = 5 := by
  unfold tgE
  rcases at_e L i with h | h <;> rw [h]
  · rw [if_pos rfl]; split <;> decide
  · rw [if_neg (by decide)]; decide
theorem ntx_not5 (n d : ByteArray) : ¬ ntxE n d = 5 := by unfold ntxE; split <;> (try split) <;> decide
theorem mb_not5 (t : Int) (n d : ByteArray) : ¬ mbE t n d = 5 := by
  unfold mbE
  repeat' split
  all_goals decide
theorem mtx_not5 (L : List Cn) (t b : Int) : ¬ mtx L t b = 5 := by
  unfold mtx
  split
  · exact mb_not5 _ _ _
  · decide
theorem tx_not5 (L : List Cn) (t a b : Int) : ¬ txE L t a b = 5 := by
  unfold txE
  split
  · rcases pc_e (tgC L a 1).s with h | h <;> rw [h] <;> decide
  · split
    · exact ntx_not5 _ _
    · split
      · exact mtx_not5 _ _ _
      · decide
theorem bx_not5 (L : List Cn) (t a b : Int) : ¬ bxE L t a b = 5 := by
  unfold bxE
  repeat' split
  all_goals exact tg_not5 _ _ _
theorem ck_not5 (L : List Cn) (c : Cn) : ¬ ck L c = 5 := by
  unfold ck ckE ixE
  repeat' split
  all_goals first | decide | exact tx_not5 _ _ _ _ | exact bx_not5 _ _ _ _

/-! ### a longer pool reads the same -/
theorem at_range {L : List Cn} {i : Int} (h : atE L i = 0) : 1 ≤ i ∧ i ≤ L.length := by
  by_cases h1 : 1 ≤ i ∧ i ≤ L.length
  · exact h1
  · rw [(at_out h1).2] at h; cases h
theorem at_pre {L M : List Cn} {i : Int} (k : Pre L M) (h : atE L i = 0) : atE M i = 0 ∧ atC M i = atC L i := by
  have hr := at_range h
  obtain ⟨t, rfl⟩ := k
  have hr' : 1 ≤ i ∧ i ≤ (L ++ t).length := ⟨hr.1, by rw [List.length_append]; omega⟩
  unfold atE atC
  rw [if_pos hr', if_pos hr', if_pos hr, List.getD_eq_getElem?_getD, List.getD_eq_getElem?_getD, List.getElem?_append_left (by omega)]
  exact ⟨rfl, rfl⟩
theorem tg_pre {L M : List Cn} {i t : Int} (k : Pre L M) (h : tgE L i t = 0) : tgE M i t = 0 ∧ tgC M i t = tgC L i t := by
  have ha : atE L i = 0 := by
    rcases at_e L i with h1 | h1
    · exact h1
    · rw [(tg_1 (by rw [h1]; decide)).2, h1] at h; cases h
  obtain ⟨e1, e2⟩ := at_pre k ha
  have ht : (atC L i).t = t := by
    by_cases h2 : (atC L i).t = t
    · exact h2
    · rw [(tg_2 ha h2).2] at h; cases h
  obtain ⟨a, b⟩ := tg_3 ha ht
  obtain ⟨a', b'⟩ := tg_3 (L := M) (i := i) (t := t) e1 (by rw [e2]; exact ht)
  exact ⟨b', by rw [a', a, e2]⟩
theorem nt_tg {L : List Cn} {i : Int} (h : ntE L i = 0) : tgE L i 12 = 0 ∧ tgE L (tgC L i 12).a 1 = 0 ∧ tgE L (tgC L i 12).b 1 = 0 := by
  by_cases h1 : tgE L i 12 = 0
  · by_cases h2 : tgE L (tgC L i 12).a 1 = 0
    · by_cases h3 : tgE L (tgC L i 12).b 1 = 0
      · exact ⟨h1, h2, h3⟩
      · rw [(nt_3 h1 h2 h3).2.2] at h; exact absurd h h3
    · rw [(nt_2 h1 h2).2.2] at h; exact absurd h h2
  · rw [(nt_1 h1).2.2] at h; exact absurd h h1
theorem nt_pre {L M : List Cn} {i : Int} (k : Pre L M) (h : ntE L i = 0) : ntE M i = 0 ∧ ntN M i = ntN L i ∧ ntD M i = ntD L i := by
  obtain ⟨h1, h2, h3⟩ := nt_tg h
  obtain ⟨a1, b1⟩ := tg_pre k h1
  obtain ⟨a2, b2⟩ := tg_pre k h2
  obtain ⟨a3, b3⟩ := tg_pre k h3
  obtain ⟨x, y, z⟩ := nt_4 h1 h2 h3
  obtain ⟨x', y', z'⟩ := nt_4 (L := M) (i := i) a1 (by rw [b1]; exact a2) (by rw [b1]; exact a3)
  exact ⟨z', by rw [x', x, b1, b2], by rw [y', y, b1, b3]⟩

/-! ### what a sound constant says -/
theorem ck_parts {L : List Cn} {c : Cn} (h : ck L c = 0) : knB c.t = true ∧ fmB c.t c.s c.n c.a c.b = true := by
  unfold ck at h
  cases hk : knB c.t with
  | false => rw [ck_un hk] at h; cases h
  | true =>
    cases hf : fmB c.t c.s c.n c.a c.b with
    | false => rw [ck_mal hk hf] at h; cases h
    | true => exact ⟨rfl, rfl⟩
theorem ck_idx {L : List Cn} {c : Cn} (h : ck L c = 0) (ht : 7 ≤ c.t) : bxE L c.t c.a c.b = 0 ∧ txE L c.t c.a c.b = 0 := by
  obtain ⟨hk, hf⟩ := ck_parts h
  unfold ck at h
  rw [ck_ix ht hk hf] at h
  by_cases hb : bxE L c.t c.a c.b = 0
  · rw [ix_ok hb] at h; exact ⟨hb, h⟩
  · rw [ix_bad hb] at h; exact absurd h hb
theorem bx12 {L : List Cn} {a b : Int} (h : bxE L 12 a b = 0) : tgE L a 1 = 0 ∧ tgE L b 1 = 0 := by
  by_cases h1 : tgE L a 1 = 0
  · rw [bx12_2 h1] at h; exact ⟨h1, h⟩
  · rw [bx12_1 h1] at h; exact absurd h h1
theorem bxm {L : List Cn} {t a b : Int} (ht : 9 ≤ t ∧ t ≤ 11) (h : bxE L t a b = 0) : tgE L a 7 = 0 ∧ tgE L b 12 = 0 := by
  by_cases h1 : tgE L a 7 = 0
  · rw [bxm_2 ht h1] at h; exact ⟨h1, h⟩
  · rw [bxm_1 ht h1] at h; exact absurd h h1
theorem tg_mem {L : List Cn} {i t : Int} (h : tgE L i t = 0) : tgC L i t ∈ L ∧ (tgC L i t).t = t := by
  obtain ⟨k, p, hi, hl, hg, hc⟩ := tg_here h
  rw [hc]
  refine ⟨List.mem_of_getElem? hg, ?_⟩
  have ha : atE L i = 0 := by
    rcases at_e L i with h1 | h1
    · exact h1
    · rw [(tg_1 (by rw [h1]; decide)).2, h1] at h; cases h
  by_cases h2 : (atC L i).t = t
  · rw [← hc, (tg_3 ha h2).1]; exact h2
  · rw [(tg_2 ha h2).2] at h; cases h
/-- in a valid pool a name and type that stands can be read -/
theorem v_nt {L : List Cn} (hv : Valid L) {i : Int} (h : tgE L i 12 = 0) : ntE L i = 0 := by
  obtain ⟨hm, ht⟩ := tg_mem h
  have hc := ck_idx (hv _ hm) (by rw [ht]; decide)
  rw [ht] at hc
  obtain ⟨h1, h2⟩ := bx12 hc.1
  exact (nt_4 h h1 h2).2.2
theorem v_nm {L : List Cn} (hv : Valid L) {i t : Int} (htt : t = 7 ∨ t = 8) (h : tgE L i t = 0) : nmE L i t = 0 := by
  obtain ⟨hm, ht⟩ := tg_mem h
  have hc := ck_idx (hv _ hm) (by rw [ht]; omega)
  rw [ht] at hc
  have h1 : tgE L (tgC L i t).a 1 = 0 := by
    rcases htt with rfl | rfl
    · have := hc.1; rwa [bx7] at this
    · have := hc.1; rwa [bx8] at this
  rw [(nm_2 h).2]; exact h1
theorem ck_keep {L M : List Cn} (hv : Valid L) (k : Pre L M) {c : Cn} (hc : c ∈ L) : ck M c = 0 := by
  have h := hv c hc
  obtain ⟨hk, hf⟩ := ck_parts h
  have keep : ∀ t, c.t = t → 7 ≤ t → bxE M t c.a c.b = 0 → txE M t c.a c.b = 0 → ck M c = 0 := by
    intro t ht h7 hb hx
    unfold ck
    rw [ck_ix (by omega) hk hf, ht, ix_ok hb, hx]
  rcases kn_cases hk with ht | ht | ht | ht | ht | ht | ht | ht | ht
  · unfold ck at h ⊢; rw [ht] at h hf ⊢; rw [ck1 hf] at h ⊢; exact h
  · unfold ck at h ⊢; rw [ht] at h hf ⊢; rw [ck3 hf] at h ⊢; exact h
  · unfold ck at h ⊢; rw [ht] at h hf ⊢; rw [ck5_0 hf]
  · have hi := ck_idx h (by omega)
    rw [ht, bx7, tx7] at hi
    obtain ⟨a, b⟩ := tg_pre k hi.1
    exact keep 7 ht (by decide) (by rw [bx7]; exact a) (by rw [tx7, b]; exact hi.2)
  · have hi := ck_idx h (by omega)
    rw [ht, bx8] at hi
    obtain ⟨a, b⟩ := tg_pre k hi.1
    exact keep 8 ht (by decide) (by rw [bx8]; exact a) rfl
  · have hi := ck_idx h (by omega)
    rw [ht, tx12] at hi
    obtain ⟨h1, h2⟩ := bx12 hi.1
    obtain ⟨a, b⟩ := tg_pre k h1
    obtain ⟨a', b'⟩ := tg_pre k h2
    exact keep 12 ht (by decide) (by rw [bx12_2 a]; exact a') (by rw [tx12, b, b']; exact hi.2)
  all_goals
    have hi := ck_idx h (by omega)
    rw [ht, txm (by decide)] at hi
    obtain ⟨h1, h2⟩ := bxm (by decide) hi.1
    obtain ⟨a, b⟩ := tg_pre k h1
    obtain ⟨a', b'⟩ := tg_pre k h2
    have hn := v_nt hv h2
    obtain ⟨n1, n2, n3⟩ := nt_pre k hn
    refine keep _ ht (by decide) (by rw [bxm_2 (by decide) a]; exact a') (by rw [txm (by decide), mtx_2 n1, n2, n3]; rw [mtx_2 hn] at hi; exact hi.2)
/-- a string added to a valid pool -/
theorem v_add {L : List Cn} {s : ByteArray} (hl : L.length ≤ 1000) (hv : Valid L) (he : anE L 8 s = 0) :
    (anL L 8 s).length ≤ 1000 ∧ (s.size ≤ 1024 → Valid (anL L 8 s)) ∧ (¬ s.size ≤ 1024 → ¬ Valid (anL L 8 s)) := by
  have e1 : adE L (cu s) = 0 := by
    by_cases h1 : adE L (cu s) = 0
    · exact h1
    · exact absurd ((an_1 (t := 8) h1).2.2.symm.trans he) h1
  have e2 : adE (adL L (cu s)) (ct 8 (adI L (cu s)) 0) = 0 := by
    by_cases h2 : adE (adL L (cu s)) (ct 8 (adI L (cu s)) 0) = 0
    · exact h2
    · exact absurd ((an_2 e1 h2).2.2.symm.trans he) h2
  have step : ∀ (K : List Cn) (x : Cn), K.length ≤ 1000 → adE K x = 0 → (adL K x).length ≤ 1000 ∧ ∀ c ∈ adL K x, c ∈ K ∨ c = x := by
    intro K x hK hx
    by_cases h1 : ixN K x < K.length
    · rw [(ad_1 h1).1]; exact ⟨hK, fun c hc => Or.inl hc⟩
    · by_cases h2 : 1000 ≤ K.length
      · rw [(ad_2 h1 h2).2.2] at hx; cases hx
      · rw [(ad_3 h1 h2).1]
        refine ⟨by rw [List.length_append]; simp; omega, fun c hc => ?_⟩
        rcases List.mem_append.1 hc with h | h
        · exact Or.inl h
        · exact Or.inr (by simpa using h)
  obtain ⟨l1, m1⟩ := step L (cu s) hl e1
  obtain ⟨l2, m2⟩ := step (adL L (cu s)) (ct 8 (adI L (cu s)) 0) l1 e2
  have eL := (an_3 e1 e2).1
  obtain ⟨i, h1, h2, h3⟩ := an_has he
  have hin := h1.at
  have hmem : cu s ∈ anL L 8 s := by
    rcases at_mem (anL L 8 s) i with h | h
    · rw [hin.1] at h; exact h
    · rw [hin.1] at h; exact absurd (show (1 : Int) = 0 from congrArg Cn.t h) (show ¬ (1 : Int) = 0 by decide)
  refine ⟨by rw [eL]; exact l2, fun hs c hc => ?_, fun hs hv' => ?_⟩
  · have hc' := hc
    rw [eL] at hc'
    rcases m2 c hc' with hc2 | rfl
    · rcases m1 c hc2 with hc3 | rfl
      · exact ck_keep hv h3 hc3
      · exact ck1_0 (s := s) rfl (by omega)
    · have h4 := tg_has ((has_ad e1).pre (pre_ad _ (ct 8 (adI L (cu s)) 0)))
      rw [← eL] at h4
      have hb : bxE (anL L 8 s) 8 (adI L (cu s)) 0 = 0 := by rw [bx8]; exact h4.2
      show ckE (anL L 8 s) 8 ⟨#[]⟩ 0 (adI L (cu s)) 0 = 0
      rw [ck_ix (by decide) rfl (by simp [fmB, ByteArray.toList_eq, mtB]), ix_ok hb]; rfl
  · have := hv' _ hmem
    have e : ck (anL L 8 s) (cu s) = 8 := ck1_8 (s := s) rfl (by omega)
    rw [e] at this; cases this

end Go.Proofs.YtdppooflbjlbcaaDoor
