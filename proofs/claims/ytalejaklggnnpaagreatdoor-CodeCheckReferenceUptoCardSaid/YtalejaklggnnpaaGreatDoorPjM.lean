import Derived.Test.YtalejaklggnnpaaGreatDoorDsM
import Derived.Deep.Cut
import Derived.Deep.QuietTactic
import Derived.BigQuiet
import Derived.ArgAppend
import Derived.Deep.AppendLies
import Derived.Deep.RegionHeld3
/- Pool -/
/- Layer 5: a pool in memory; At, in the package and in its reference. -/
namespace Go.Proofs.YtalejaklggnnpaaGreatDoor
open Go.ChangeShapes Go.WideShapes Go.ChangeAt Go.RowKit Go.PlainAid
set_option linter.unusedSimpArgs false
set_option linter.unusedVariables false
structure Cn where
 t : Int
 s : ByteArray
 n : Int
 a : Int
 b : Int
def cnZ : Cn := ⟨0, ⟨#[]⟩, 0, 0, 0⟩
theorem cnZ_t : cnZ.t = 0 := rfl
theorem cnZ_s : cnZ.s = ⟨#[]⟩ := rfl
theorem cnZ_n : cnZ.n = 0 := rfl
theorem cnZ_a : cnZ.a = 0 := rfl
theorem cnZ_b : cnZ.b = 0 := rfl
/-- the constants of a slice, at their places: below block B -/
def Pool (w : World) (B : Nat) (A : Option Addr) (L : List Cn) : Prop :=
 L = [] ∨ ∃ g o, A = some ⟨g, o, none⟩ ∧ g < B ∧ ∀ (i : Nat) (c : Cn), L[i]? = some c → w.cell? ⟨g, o + i * 5, none⟩ = some (.int .i64 c.t) ∧ w.cell? ⟨g, o + i * 5 + 1, none⟩ = some (.string c.s) ∧ w.cell? ⟨g, o + i * 5 + 2, none⟩ = some (.int .i64 c.n) ∧ w.cell? ⟨g, o + i * 5 + 3, none⟩ = some (.int .i64 c.a) ∧ w.cell? ⟨g, o + i * 5 + 4, none⟩ = some (.int .i64 c.b)
theorem Pool.below {w w' : World} {B : Nat} {A : Option Addr} {L : List Cn} (h : Pool w B A L) (hb : Below B w w') : Pool w' B A L := by
 rcases h with h | ⟨g, o, hA, hg, hc⟩
 ·
  exact Or.inl h
 ·
  refine Or.inr ⟨g, o, hA, hg, fun i p hi => ?_⟩
  obtain ⟨a, b, c, d, e⟩ := hc i p hi
  exact ⟨(hb.cell (p := ⟨g, _, none⟩) hg).trans a, (hb.cell (p := ⟨g, _, none⟩) hg).trans b, (hb.cell (p := ⟨g, _, none⟩) hg).trans c, (hb.cell (p := ⟨g, _, none⟩) hg).trans d, (hb.cell (p := ⟨g, _, none⟩) hg).trans e⟩
theorem Pool.more {w : World} {B B' : Nat} {A : Option Addr} {L : List Cn} (h : Pool w B A L) (hB : B ≤ B') : Pool w B' A L := by
 rcases h with h | ⟨g, o, hA, hg, hc⟩
 ·
  exact Or.inl h
 ·
  exact Or.inr ⟨g, o, hA, by omega, hc⟩
theorem Pool.up {w w' : World} {A : Option Addr} {L : List Cn} (h : Pool w w.heap.size A L) (hb : Below w.heap.size w w') : Pool w' w'.heap.size A L := (h.below hb).more hb.size
/-- what At says -/
def atC (L : List Cn) (i : Int) : Cn := if 1 ≤ i ∧ i ≤ L.length then L.getD (i - 1).toNat cnZ else cnZ
def atE (L : List Cn) (i : Int) : Int := if 1 ≤ i ∧ i ≤ L.length then 0 else 2
theorem at_out {L : List Cn} {i : Int} (h : ¬ (1 ≤ i ∧ i ≤ L.length)) : atC L i = cnZ ∧ atE L i = 2 := by unfold atC atE; rw [if_neg h, if_neg h]; exact ⟨rfl, rfl⟩
theorem at_in {L : List Cn} {k : Nat} {c : Cn} (h : L[k]? = some c) : atC L ((k : Int) + 1) = c ∧ atE L ((k : Int) + 1) = 0 := by
 have hk : k < L.length := by
  rcases Nat.lt_or_ge k L.length with h1 | h1
  ·
   exact h1
  ·
   rw [List.getElem?_eq_none h1] at h; cases h
 unfold atC atE
 rw [if_pos (by omega), if_pos (by omega), show ((k : Int) + 1 - 1).toNat = k by omega, List.getD_eq_getElem?_getD, h]
 exact ⟨rfl, rfl⟩
theorem at_e (L : List Cn) (i : Int) : atE L i = 0 ∨ atE L i = 2 := by unfold atE; split <;> simp
theorem at_any {w0 : World} {A : Option Addr} {n c : Nat} {L : List Cn} (i : Int) (hn : L.length = n) (hN : n ≤ 100000) (hp : Pool w0 w0.heap.size A L) (w : World) (hb : Below w0.heap.size w0 w) :
  Calls Tryz.prog 107 #[.slice A n c, .int .i64 i] w fun e w' => e = .returned (.tuple #[(Value.agg #[Value.int IntKind.i64 (Cn.t (atC L i)), Value.string (Cn.s (atC L i)), Value.int IntKind.i64 (Cn.n (atC L i)), Value.int IntKind.i64 (Cn.a (atC L i)), Value.int IntKind.i64 (Cn.b (atC L i))]), .int .i64 (atE L i)]) ∧ Below w.heap.size w w' := by
 have hp' := hp.up hb
 clear hp hb
 have hB : Below w.heap.size w w := Below.refl _ _
 by_cases h1 : i < 1
 ·
  have g := at_out (L := L) (i := i) (by omega)
  rw [g.1, g.2]
  clear g
  go_enter Tryz.func107, Tryz.ntmps107
  go_wp2
  refine bodyPost_ret (v := .tuple #[(Value.agg #[Value.int IntKind.i64 (Cn.t cnZ), Value.string (Cn.s cnZ), Value.int IntKind.i64 (Cn.n cnZ), Value.int IntKind.i64 (Cn.a cnZ), Value.int IntKind.i64 (Cn.b cnZ)]), .int .i64 2]) ?_ rfl ⟨rfl, (by repeat (first | with_reducible exact hB | with_reducible exact Below.refl _ _ | with_reducible refine below_al ?_ _ | with_reducible refine below_st ?_ (by first | exact Nat.le_refl _ | exact Nat.le_add_right _ _ | (simp; omega)) _))⟩
  simp [results, Tryz.f107, go_sem, set_same, cnZ_t, cnZ_s, cnZ_n, cnZ_a, cnZ_b, *]
 ·
  by_cases h2 : n < i
  ·
   have g := at_out (L := L) (i := i) (by omega)
   rw [g.1, g.2]
   clear g
   go_enter Tryz.func107, Tryz.ntmps107
   go_wp2
   refine bodyPost_ret (v := .tuple #[(Value.agg #[Value.int IntKind.i64 (Cn.t cnZ), Value.string (Cn.s cnZ), Value.int IntKind.i64 (Cn.n cnZ), Value.int IntKind.i64 (Cn.a cnZ), Value.int IntKind.i64 (Cn.b cnZ)]), .int .i64 2]) ?_ rfl ⟨rfl, (by repeat (first | with_reducible exact hB | with_reducible exact Below.refl _ _ | with_reducible refine below_al ?_ _ | with_reducible refine below_st ?_ (by first | exact Nat.le_refl _ | exact Nat.le_add_right _ _ | (simp; omega)) _))⟩
   simp [results, Tryz.f107, go_sem, set_same, cnZ_t, cnZ_s, cnZ_n, cnZ_a, cnZ_b, *]
  ·
   obtain ⟨k, rfl⟩ : ∃ k : Nat, i = (k : Int) + 1 := ⟨(i - 1).toNat, by omega⟩
   have hk : k < n := by omega
   have hc : ∃ p, L[k]? = some p := ⟨L[k]'(by omega), List.getElem?_eq_getElem _⟩
   obtain ⟨p, hc⟩ := hc
   have g := at_in hc
   rw [g.1, g.2]
   rcases hp' with h0 | ⟨b, o, rfl, hg, hcell⟩
   ·
    rw [h0] at hc; cases hc
   ·
    obtain ⟨a0, a1, a2, a3, a4⟩ := hcell k _ hc
    clear hcell hc g hn
    go_enter Tryz.func107, Tryz.ntmps107
    go_wp2
    refine bodyPost_ret (v := .tuple #[(Value.agg #[Value.int IntKind.i64 (Cn.t p), Value.string (Cn.s p), Value.int IntKind.i64 (Cn.n p), Value.int IntKind.i64 (Cn.a p), Value.int IntKind.i64 (Cn.b p)]), .int .i64 0]) ?_ rfl ⟨rfl, (by repeat (first | with_reducible exact hB | with_reducible exact Below.refl _ _ | with_reducible refine below_al ?_ _ | with_reducible refine below_st ?_ (by first | exact Nat.le_refl _ | exact Nat.le_add_right _ _ | (simp; omega)) _))⟩
    simp [results, Tryz.f107, go_sem, set_same, *]
theorem rat_any {w0 : World} {A : Option Addr} {n c : Nat} {L : List Cn} (i : Int) (hn : L.length = n) (hN : n ≤ 100000) (hp : Pool w0 w0.heap.size A L) (w : World) (hb : Below w0.heap.size w0 w) :
  Calls Tryz.prog 121 #[.slice A n c, .int .i64 i] w fun e w' => e = .returned (.tuple #[(Value.agg #[Value.int IntKind.i64 (Cn.t (atC L i)), Value.string (Cn.s (atC L i)), Value.int IntKind.i64 (Cn.n (atC L i)), Value.int IntKind.i64 (Cn.a (atC L i)), Value.int IntKind.i64 (Cn.b (atC L i))]), .int .i64 (atE L i)]) ∧ Below w.heap.size w w' := by
 have hp' := hp.up hb
 clear hp hb
 have hB : Below w.heap.size w w := Below.refl _ _
 by_cases h1 : i < 1
 ·
  have g := at_out (L := L) (i := i) (by omega)
  rw [g.1, g.2]
  clear g
  go_enter Tryz.func121, Tryz.ntmps121
  go_wp2
  refine bodyPost_ret (v := .tuple #[(Value.agg #[Value.int IntKind.i64 (Cn.t cnZ), Value.string (Cn.s cnZ), Value.int IntKind.i64 (Cn.n cnZ), Value.int IntKind.i64 (Cn.a cnZ), Value.int IntKind.i64 (Cn.b cnZ)]), .int .i64 2]) ?_ rfl ⟨rfl, (by repeat (first | with_reducible exact hB | with_reducible exact Below.refl _ _ | with_reducible refine below_al ?_ _ | with_reducible refine below_st ?_ (by first | exact Nat.le_refl _ | exact Nat.le_add_right _ _ | (simp; omega)) _))⟩
  simp [results, Tryz.f121, go_sem, set_same, cnZ_t, cnZ_s, cnZ_n, cnZ_a, cnZ_b, *]
 ·
  by_cases h2 : n < i
  ·
   have g := at_out (L := L) (i := i) (by omega)
   rw [g.1, g.2]
   clear g
   go_enter Tryz.func121, Tryz.ntmps121
   go_wp2
   refine bodyPost_ret (v := .tuple #[(Value.agg #[Value.int IntKind.i64 (Cn.t cnZ), Value.string (Cn.s cnZ), Value.int IntKind.i64 (Cn.n cnZ), Value.int IntKind.i64 (Cn.a cnZ), Value.int IntKind.i64 (Cn.b cnZ)]), .int .i64 2]) ?_ rfl ⟨rfl, (by repeat (first | with_reducible exact hB | with_reducible exact Below.refl _ _ | with_reducible refine below_al ?_ _ | with_reducible refine below_st ?_ (by first | exact Nat.le_refl _ | exact Nat.le_add_right _ _ | (simp; omega)) _))⟩
   simp [results, Tryz.f121, go_sem, set_same, cnZ_t, cnZ_s, cnZ_n, cnZ_a, cnZ_b, *]
  ·
   obtain ⟨k, rfl⟩ : ∃ k : Nat, i = (k : Int) + 1 := ⟨(i - 1).toNat, by omega⟩
   have hk : k < n := by omega
   have hc : ∃ p, L[k]? = some p := ⟨L[k]'(by omega), List.getElem?_eq_getElem _⟩
   obtain ⟨p, hc⟩ := hc
   have g := at_in hc
   rw [g.1, g.2]
   rcases hp' with h0 | ⟨b, o, rfl, hg, hcell⟩
   ·
    rw [h0] at hc; cases hc
   ·
    obtain ⟨a0, a1, a2, a3, a4⟩ := hcell k _ hc
    clear hcell hc g hn
    go_enter Tryz.func121, Tryz.ntmps121
    go_wp2
    refine bodyPost_ret (v := .tuple #[(Value.agg #[Value.int IntKind.i64 (Cn.t p), Value.string (Cn.s p), Value.int IntKind.i64 (Cn.n p), Value.int IntKind.i64 (Cn.a p), Value.int IntKind.i64 (Cn.b p)]), .int .i64 0]) ?_ rfl ⟨rfl, (by repeat (first | with_reducible exact hB | with_reducible exact Below.refl _ _ | with_reducible refine below_al ?_ _ | with_reducible refine below_st ?_ (by first | exact Nat.le_refl _ | exact Nat.le_add_right _ _ | (simp; omega)) _))⟩
    simp [results, Tryz.f121, go_sem, set_same, *]
end Go.Proofs.YtalejaklggnnpaaGreatDoor
/- PoolTwo -/
/- Layer 5: the reading functions, in the package and in its reference. -/
namespace Go.Proofs.YtalejaklggnnpaaGreatDoor
open Go.ChangeShapes Go.WideShapes Go.ChangeAt Go.RowKit Go.PlainAid
set_option linter.unusedSimpArgs false
set_option linter.unusedVariables false
theorem five_cells {W : World} {B : Nat} {x y z u v : Value} {t : TypeId} (h : W.heap[B]? = some (.cells #[x, y, z, u, v] t)) :
  W.cell? ⟨B, 0, none⟩ = some x ∧ W.cell? ⟨B, 1, none⟩ = some y ∧ W.cell? ⟨B, 2, none⟩ = some z ∧ W.cell? ⟨B, 3, none⟩ = some u ∧ W.cell? ⟨B, 4, none⟩ = some v ∧ W.frozen? ⟨B, 0, none⟩ = false ∧ W.frozen? ⟨B, 1, none⟩ = false ∧ W.frozen? ⟨B, 2, none⟩ = false ∧ W.frozen? ⟨B, 3, none⟩ = false ∧ W.frozen? ⟨B, 4, none⟩ = false := by
 refine ⟨?_, ?_, ?_, ?_, ?_, ?_, ?_, ?_, ?_, ?_⟩ <;> simp [World.cell?, World.frozen?, h]
theorem lt_heap {W : World} {B : Nat} {o : Obj} (h : W.heap[B]? = some o) : B < W.heap.size := by
 rcases Nat.lt_or_ge B W.heap.size with h1 | h1
 ·
  exact h1
 ·
  rw [Array.getElem?_eq_none h1] at h; cases h
theorem first_box {w w1 : World} {o : Obj} (h : Below (w.alloc o).heap.size (w.alloc o) w1) : w1.heap[w.heap.size]? = some o :=
 (h.block w.heap.size (by simp)).trans (by simpa using World.alloc_heap_new w o)
theorem laid_old {w : World} {B : Nat} {o o' : Obj} (h : w.heap[B]? = some o) : (w.alloc o').heap[B]? = some o := (Below.heap_alloc _ _ _ (lt_heap h)).trans h
def tgE (L : List Cn) (i t : Int) : Int := if atE L i = 0 then (if (atC L i).t = t then 0 else 11) else atE L i
def tgC (L : List Cn) (i t : Int) : Cn := if atE L i = 0 then (if (atC L i).t = t then atC L i else cnZ) else cnZ
theorem tg_1 {L : List Cn} {i t : Int} (h : ¬ atE L i = 0) : tgC L i t = cnZ ∧ tgE L i t = atE L i := by unfold tgC tgE; rw [if_neg h, if_neg h]; exact ⟨rfl, rfl⟩
theorem tg_2 {L : List Cn} {i t : Int} (h : atE L i = 0) (h2 : ¬ (atC L i).t = t) : tgC L i t = cnZ ∧ tgE L i t = 11 := by unfold tgC tgE; rw [if_pos h, if_pos h, if_neg h2, if_neg h2]; exact ⟨rfl, rfl⟩
theorem tg_3 {L : List Cn} {i t : Int} (h : atE L i = 0) (h2 : (atC L i).t = t) : tgC L i t = atC L i ∧ tgE L i t = 0 := by unfold tgC tgE; rw [if_pos h, if_pos h, if_pos h2, if_pos h2]; exact ⟨rfl, rfl⟩
def nmE (L : List Cn) (i t : Int) : Int := if tgE L i t = 0 then tgE L (tgC L i t).a 1 else tgE L i t
def nmS (L : List Cn) (i t : Int) : ByteArray := if tgE L i t = 0 then (tgC L (tgC L i t).a 1).s else ⟨#[]⟩
theorem nm_1 {L : List Cn} {i t : Int} (h : ¬ tgE L i t = 0) : nmS L i t = ⟨#[]⟩ ∧ nmE L i t = tgE L i t := by unfold nmS nmE; rw [if_neg h, if_neg h]; exact ⟨rfl, rfl⟩
theorem nm_2 {L : List Cn} {i t : Int} (h : tgE L i t = 0) : nmS L i t = (tgC L (tgC L i t).a 1).s ∧ nmE L i t = tgE L (tgC L i t).a 1 := by unfold nmS nmE; rw [if_pos h, if_pos h]; exact ⟨rfl, rfl⟩
set_option maxHeartbeats 400000 in
theorem tg_any {w0 : World} {A : Option Addr} {n c : Nat} {L : List Cn} (i t : Int) (hn : L.length = n) (hN : n ≤ 100000) (hp : Pool w0 w0.heap.size A L) (w : World) (hb : Below w0.heap.size w0 w) :
  Calls Tryz.prog 152 #[.slice A n c, .int .i64 i, .int .i64 t] w fun e w' => e = .returned (.tuple #[(Value.agg #[Value.int IntKind.i64 (Cn.t (tgC L i t)), Value.string (Cn.s (tgC L i t)), Value.int IntKind.i64 (Cn.n (tgC L i t)), Value.int IntKind.i64 (Cn.a (tgC L i t)), Value.int IntKind.i64 (Cn.b (tgC L i t))]), .int .i64 (tgE L i t)]) ∧ Below w.heap.size w w' := by
 have HP := Lib.hid (hp.up hb)
 have HN := Lib.hid hn
 clear hp hb hn
 have hB : Below w.heap.size w w := Below.refl _ _
 go_enter Tryz.func152, Tryz.ntmps152
 go_upto_region 2 with (go_at_call 107; refine (at_any _ HN.out hN HP.out _ (below_al hB _)).mono ?_; rintro e w1 ⟨rfl, hb1⟩; have k1 := first_box hb1; replace hB := below_on (below_al hB _) hb1; clear hb1)
 have R := laid_old (o' := (.cells #[Value.int .i64 (atC L i).t, .string (atC L i).s, .int .i64 (atC L i).n, .int .i64 (atC L i).a, .int .i64 (atC L i).b] 155)) k1
 have C := World.alloc_heap_new w1 (.cells #[Value.int .i64 (atC L i).t, .string (atC L i).s, .int .i64 (atC L i).n, .int .i64 (atC L i).a, .int .i64 (atC L i).b] 155)
 replace hB := below_al hB (.cells #[Value.int .i64 (atC L i).t, .string (atC L i).s, .int .i64 (atC L i).n, .int .i64 (atC L i).a, .int .i64 (atC L i).b] 155)
 have z1 := lt_heap k1
 clear k1
 generalize w1.alloc (.cells #[Value.int .i64 (atC L i).t, .string (atC L i).s, .int .i64 (atC L i).n, .int .i64 (atC L i).a, .int .i64 (atC L i).b] 155) = W2 at R C hB ⊢
 obtain ⟨r0, r1, r2, r3, r4, q0, q1, q2, q3, q4⟩ := five_cells R
 obtain ⟨c0, c1, c2, c3, c4, f0, f1, f2, f3, f4⟩ := five_cells C
 have y1 := lt_heap R
 have y2 := lt_heap C
 clear R C
 go_wp2_with fail
 ·
  have g := tg_1 (L := L) (i := i) (t := t) (bneT (by assumption))
  refine bodyPost_ret (v := .tuple #[(Value.agg #[Value.int IntKind.i64 (Cn.t cnZ), Value.string (Cn.s cnZ), Value.int IntKind.i64 (Cn.n cnZ), Value.int IntKind.i64 (Cn.a cnZ), Value.int IntKind.i64 (Cn.b cnZ)]), .int .i64 (atE L i)]) ?_ rfl ⟨by rw [g.1, g.2], (by repeat (first | with_reducible exact hB | with_reducible exact Below.refl _ _ | with_reducible refine below_al ?_ _ | with_reducible refine below_st ?_ (by first | exact Nat.le_refl _ | exact Nat.le_add_right _ _ | (simp; omega)) _))⟩
  simp [results, Tryz.f152, go_sem, set_same, cnZ_t, cnZ_s, cnZ_n, cnZ_a, cnZ_b, *]
 ·
  have g := tg_2 (L := L) (i := i) (t := t) (bneF (by assumption)) (bneT (by assumption))
  refine bodyPost_ret (v := .tuple #[(Value.agg #[Value.int IntKind.i64 (Cn.t cnZ), Value.string (Cn.s cnZ), Value.int IntKind.i64 (Cn.n cnZ), Value.int IntKind.i64 (Cn.a cnZ), Value.int IntKind.i64 (Cn.b cnZ)]), .int .i64 11]) ?_ rfl ⟨by rw [g.1, g.2], (by repeat (first | with_reducible exact hB | with_reducible exact Below.refl _ _ | with_reducible refine below_al ?_ _ | with_reducible refine below_st ?_ (by first | exact Nat.le_refl _ | exact Nat.le_add_right _ _ | (simp; omega)) _))⟩
  simp [results, Tryz.f152, go_sem, set_same, cnZ_t, cnZ_s, cnZ_n, cnZ_a, cnZ_b, *]
 ·
  have g := tg_3 (L := L) (i := i) (t := t) (bneF (by assumption)) (bneF (by assumption))
  refine bodyPost_ret (v := .tuple #[(Value.agg #[Value.int IntKind.i64 (Cn.t (atC L i)), Value.string (Cn.s (atC L i)), Value.int IntKind.i64 (Cn.n (atC L i)), Value.int IntKind.i64 (Cn.a (atC L i)), Value.int IntKind.i64 (Cn.b (atC L i))]), .int .i64 0]) ?_ rfl ⟨by rw [g.1, g.2], (by repeat (first | with_reducible exact hB | with_reducible exact Below.refl _ _ | with_reducible refine below_al ?_ _ | with_reducible refine below_st ?_ (by first | exact Nat.le_refl _ | exact Nat.le_add_right _ _ | (simp; omega)) _))⟩
  simp [results, Tryz.f152, go_sem, set_same, *]
theorem utf_any {w0 : World} {A : Option Addr} {n c : Nat} {L : List Cn} (i : Int) (hn : L.length = n) (hN : n ≤ 100000) (hp : Pool w0 w0.heap.size A L) (w : World) (hb : Below w0.heap.size w0 w) :
  Calls Tryz.prog 153 #[.slice A n c, .int .i64 i] w fun e w' => e = .returned (.tuple #[.string (tgC L i 1).s, .int .i64 (tgE L i 1)]) ∧ Below w.heap.size w w' := by
 have HP := Lib.hid (hp.up hb)
 have HN := Lib.hid hn
 clear hp hb hn
 have hB : Below w.heap.size w w := Below.refl _ _
 go_enter Tryz.func153, Tryz.ntmps153
 go_wp2_with (go_at_call 152; refine (tg_any _ _ HN.out hN HP.out _ (by repeat (first | with_reducible exact hB | with_reducible exact Below.refl _ _ | with_reducible refine below_al ?_ _ | with_reducible refine below_st ?_ (by first | exact Nat.le_refl _ | exact Nat.le_add_right _ _ | (simp; omega)) _))).mono ?_; rintro e w1 ⟨rfl, hb1⟩; obtain ⟨hc1, hf1⟩ := bcell hb1; have hz1 := hb1.size; (try simp only [World.size_alloc, World.size_setCell] at hz1); (try have hza : w.heap.size < w1.heap.size := by omega); (try have hzb : w.heap.size + 1 < w1.heap.size := by omega); (try have hzc : w.heap.size + 1 + 1 < w1.heap.size := by omega); (try have hzd : wa.heap.size < w1.heap.size := by omega); (try replace hR := (hb1.block w.heap.size (by first | exact lt_heap hR | (have := lt_heap hR; simp; omega))).trans (by first | with_reducible exact hR | with_reducible exact laid_old hR)); replace hB := below_on (w := w) ((by repeat (first | with_reducible exact hB | with_reducible exact Below.refl _ _ | with_reducible refine below_al ?_ _ | with_reducible refine below_st ?_ (by first | exact Nat.le_refl _ | exact Nat.le_add_right _ _ | (simp; omega)) _))) hb1; clear hb1)
 go_ret2
 exact ⟨rfl, (by repeat (first | with_reducible exact hB | with_reducible exact Below.refl _ _ | with_reducible refine below_al ?_ _ | with_reducible refine below_st ?_ (by first | exact Nat.le_refl _ | exact Nat.le_add_right _ _ | (simp; omega)) _))⟩
theorem named_any {w0 : World} {A : Option Addr} {n c : Nat} {L : List Cn} (i t : Int) (hn : L.length = n) (hN : n ≤ 100000) (hp : Pool w0 w0.heap.size A L) (w : World) (hb : Below w0.heap.size w0 w) :
  Calls Tryz.prog 112 #[.slice A n c, .int .i64 i, .int .i64 t] w fun e w' => e = .returned (.tuple #[.string (nmS L i t), .int .i64 (nmE L i t)]) ∧ Below w.heap.size w w' := by
 have HP := Lib.hid (hp.up hb)
 have HN := Lib.hid hn
 clear hp hb hn
 have hB : Below w.heap.size w w := Below.refl _ _
 go_enter Tryz.func112, Tryz.ntmps112
 go_wp2_with (first | (go_at_call 152; refine (tg_any _ _ HN.out hN HP.out _ (by repeat (first | with_reducible exact hB | with_reducible exact Below.refl _ _ | with_reducible refine below_al ?_ _ | with_reducible refine below_st ?_ (by first | exact Nat.le_refl _ | exact Nat.le_add_right _ _ | (simp; omega)) _))).mono ?_; rintro e w1 ⟨rfl, hb1⟩; obtain ⟨hc1, hf1⟩ := bcell hb1; have hz1 := hb1.size; (try simp only [World.size_alloc, World.size_setCell] at hz1); (try have hza : w.heap.size < w1.heap.size := by omega); (try have hzb : w.heap.size + 1 < w1.heap.size := by omega); (try have hzc : w.heap.size + 1 + 1 < w1.heap.size := by omega); (try have hzd : wa.heap.size < w1.heap.size := by omega); (try replace hR := (hb1.block w.heap.size (by first | exact lt_heap hR | (have := lt_heap hR; simp; omega))).trans (by first | with_reducible exact hR | with_reducible exact laid_old hR)); replace hB := below_on (w := w) ((by repeat (first | with_reducible exact hB | with_reducible exact Below.refl _ _ | with_reducible refine below_al ?_ _ | with_reducible refine below_st ?_ (by first | exact Nat.le_refl _ | exact Nat.le_add_right _ _ | (simp; omega)) _))) hb1; clear hb1) | (go_at_call 153; refine (utf_any _ HN.out hN HP.out _ (by repeat (first | with_reducible exact hB | with_reducible exact Below.refl _ _ | with_reducible refine below_al ?_ _ | with_reducible refine below_st ?_ (by first | exact Nat.le_refl _ | exact Nat.le_add_right _ _ | (simp; omega)) _))).mono ?_; rintro e w1 ⟨rfl, hb1⟩; obtain ⟨hc1, hf1⟩ := bcell hb1; have hz1 := hb1.size; (try simp only [World.size_alloc, World.size_setCell] at hz1); (try have hza : w.heap.size < w1.heap.size := by omega); (try have hzb : w.heap.size + 1 < w1.heap.size := by omega); (try have hzc : w.heap.size + 1 + 1 < w1.heap.size := by omega); (try have hzd : wa.heap.size < w1.heap.size := by omega); (try replace hR := (hb1.block w.heap.size (by first | exact lt_heap hR | (have := lt_heap hR; simp; omega))).trans (by first | with_reducible exact hR | with_reducible exact laid_old hR)); replace hB := below_on (w := w) ((by repeat (first | with_reducible exact hB | with_reducible exact Below.refl _ _ | with_reducible refine below_al ?_ _ | with_reducible refine below_st ?_ (by first | exact Nat.le_refl _ | exact Nat.le_add_right _ _ | (simp; omega)) _))) hb1; clear hb1))
 all_goals go_ret2
 ·
  have g := nm_1 (L := L) (i := i) (t := t) (bneT (by assumption))
  exact ⟨by rw [g.1, g.2]; rfl, (by repeat (first | with_reducible exact hB | with_reducible exact Below.refl _ _ | with_reducible refine below_al ?_ _ | with_reducible refine below_st ?_ (by first | exact Nat.le_refl _ | exact Nat.le_add_right _ _ | (simp; omega)) _))⟩
 ·
  have g := nm_2 (L := L) (i := i) (t := t) (bneF (by assumption))
  exact ⟨by rw [g.1, g.2]; rfl, (by repeat (first | with_reducible exact hB | with_reducible exact Below.refl _ _ | with_reducible refine below_al ?_ _ | with_reducible refine below_st ?_ (by first | exact Nat.le_refl _ | exact Nat.le_add_right _ _ | (simp; omega)) _))⟩
theorem cn_any {w0 : World} {A : Option Addr} {n c : Nat} {L : List Cn} (i : Int) (hn : L.length = n) (hN : n ≤ 100000) (hp : Pool w0 w0.heap.size A L) (w : World) (hb : Below w0.heap.size w0 w) :
  Calls Tryz.prog 62 #[.slice A n c, .int .i64 i] w fun e w' => e = .returned (.tuple #[.string (nmS L i 7), .int .i64 (nmE L i 7)]) ∧ Below w.heap.size w w' := by
 have HP := Lib.hid (hp.up hb)
 have HN := Lib.hid hn
 clear hp hb hn
 have hB : Below w.heap.size w w := Below.refl _ _
 go_enter Tryz.func62, Tryz.ntmps62
 go_wp2_with (go_at_call 112; refine (named_any _ _ HN.out hN HP.out _ (by repeat (first | with_reducible exact hB | with_reducible exact Below.refl _ _ | with_reducible refine below_al ?_ _ | with_reducible refine below_st ?_ (by first | exact Nat.le_refl _ | exact Nat.le_add_right _ _ | (simp; omega)) _))).mono ?_; rintro e w1 ⟨rfl, hb1⟩; obtain ⟨hc1, hf1⟩ := bcell hb1; have hz1 := hb1.size; (try simp only [World.size_alloc, World.size_setCell] at hz1); (try have hza : w.heap.size < w1.heap.size := by omega); (try have hzb : w.heap.size + 1 < w1.heap.size := by omega); (try have hzc : w.heap.size + 1 + 1 < w1.heap.size := by omega); (try have hzd : wa.heap.size < w1.heap.size := by omega); (try replace hR := (hb1.block w.heap.size (by first | exact lt_heap hR | (have := lt_heap hR; simp; omega))).trans (by first | with_reducible exact hR | with_reducible exact laid_old hR)); replace hB := below_on (w := w) ((by repeat (first | with_reducible exact hB | with_reducible exact Below.refl _ _ | with_reducible refine below_al ?_ _ | with_reducible refine below_st ?_ (by first | exact Nat.le_refl _ | exact Nat.le_add_right _ _ | (simp; omega)) _))) hb1; clear hb1)
 go_ret2
 exact ⟨rfl, (by repeat (first | with_reducible exact hB | with_reducible exact Below.refl _ _ | with_reducible refine below_al ?_ _ | with_reducible refine below_st ?_ (by first | exact Nat.le_refl _ | exact Nat.le_add_right _ _ | (simp; omega)) _))⟩
set_option maxHeartbeats 400000 in
theorem rtg_any {w0 : World} {A : Option Addr} {n c : Nat} {L : List Cn} (i t : Int) (hn : L.length = n) (hN : n ≤ 100000) (hp : Pool w0 w0.heap.size A L) (w : World) (hb : Below w0.heap.size w0 w) :
  Calls Tryz.prog 179 #[.slice A n c, .int .i64 i, .int .i64 t] w fun e w' => e = .returned (.tuple #[(Value.agg #[Value.int IntKind.i64 (Cn.t (tgC L i t)), Value.string (Cn.s (tgC L i t)), Value.int IntKind.i64 (Cn.n (tgC L i t)), Value.int IntKind.i64 (Cn.a (tgC L i t)), Value.int IntKind.i64 (Cn.b (tgC L i t))]), .int .i64 (tgE L i t)]) ∧ Below w.heap.size w w' := by
 have HP := Lib.hid (hp.up hb)
 have HN := Lib.hid hn
 clear hp hb hn
 have hB : Below w.heap.size w w := Below.refl _ _
 go_enter Tryz.func179, Tryz.ntmps179
 go_upto_region 2 with (go_at_call 121; refine (rat_any _ HN.out hN HP.out _ (below_al hB _)).mono ?_; rintro e w1 ⟨rfl, hb1⟩; have k1 := first_box hb1; replace hB := below_on (below_al hB _) hb1; clear hb1)
 have R := laid_old (o' := (.cells #[Value.int .i64 (atC L i).t, .string (atC L i).s, .int .i64 (atC L i).n, .int .i64 (atC L i).a, .int .i64 (atC L i).b] 155)) k1
 have C := World.alloc_heap_new w1 (.cells #[Value.int .i64 (atC L i).t, .string (atC L i).s, .int .i64 (atC L i).n, .int .i64 (atC L i).a, .int .i64 (atC L i).b] 155)
 replace hB := below_al hB (.cells #[Value.int .i64 (atC L i).t, .string (atC L i).s, .int .i64 (atC L i).n, .int .i64 (atC L i).a, .int .i64 (atC L i).b] 155)
 have z1 := lt_heap k1
 clear k1
 generalize w1.alloc (.cells #[Value.int .i64 (atC L i).t, .string (atC L i).s, .int .i64 (atC L i).n, .int .i64 (atC L i).a, .int .i64 (atC L i).b] 155) = W2 at R C hB ⊢
 obtain ⟨r0, r1, r2, r3, r4, q0, q1, q2, q3, q4⟩ := five_cells R
 obtain ⟨c0, c1, c2, c3, c4, f0, f1, f2, f3, f4⟩ := five_cells C
 have y1 := lt_heap R
 have y2 := lt_heap C
 clear R C
 go_wp2_with fail
 ·
  have g := tg_1 (L := L) (i := i) (t := t) (bneT (by assumption))
  refine bodyPost_ret (v := .tuple #[(Value.agg #[Value.int IntKind.i64 (Cn.t cnZ), Value.string (Cn.s cnZ), Value.int IntKind.i64 (Cn.n cnZ), Value.int IntKind.i64 (Cn.a cnZ), Value.int IntKind.i64 (Cn.b cnZ)]), .int .i64 (atE L i)]) ?_ rfl ⟨by rw [g.1, g.2], (by repeat (first | with_reducible exact hB | with_reducible exact Below.refl _ _ | with_reducible refine below_al ?_ _ | with_reducible refine below_st ?_ (by first | exact Nat.le_refl _ | exact Nat.le_add_right _ _ | (simp; omega)) _))⟩
  simp [results, Tryz.f179, go_sem, set_same, cnZ_t, cnZ_s, cnZ_n, cnZ_a, cnZ_b, *]
 ·
  have g := tg_2 (L := L) (i := i) (t := t) (bneF (by assumption)) (bneT (by assumption))
  refine bodyPost_ret (v := .tuple #[(Value.agg #[Value.int IntKind.i64 (Cn.t cnZ), Value.string (Cn.s cnZ), Value.int IntKind.i64 (Cn.n cnZ), Value.int IntKind.i64 (Cn.a cnZ), Value.int IntKind.i64 (Cn.b cnZ)]), .int .i64 11]) ?_ rfl ⟨by rw [g.1, g.2], (by repeat (first | with_reducible exact hB | with_reducible exact Below.refl _ _ | with_reducible refine below_al ?_ _ | with_reducible refine below_st ?_ (by first | exact Nat.le_refl _ | exact Nat.le_add_right _ _ | (simp; omega)) _))⟩
  simp [results, Tryz.f179, go_sem, set_same, cnZ_t, cnZ_s, cnZ_n, cnZ_a, cnZ_b, *]
 ·
  have g := tg_3 (L := L) (i := i) (t := t) (bneF (by assumption)) (bneF (by assumption))
  refine bodyPost_ret (v := .tuple #[(Value.agg #[Value.int IntKind.i64 (Cn.t (atC L i)), Value.string (Cn.s (atC L i)), Value.int IntKind.i64 (Cn.n (atC L i)), Value.int IntKind.i64 (Cn.a (atC L i)), Value.int IntKind.i64 (Cn.b (atC L i))]), .int .i64 0]) ?_ rfl ⟨by rw [g.1, g.2], (by repeat (first | with_reducible exact hB | with_reducible exact Below.refl _ _ | with_reducible refine below_al ?_ _ | with_reducible refine below_st ?_ (by first | exact Nat.le_refl _ | exact Nat.le_add_right _ _ | (simp; omega)) _))⟩
  simp [results, Tryz.f179, go_sem, set_same, *]
theorem rutf_any {w0 : World} {A : Option Addr} {n c : Nat} {L : List Cn} (i : Int) (hn : L.length = n) (hN : n ≤ 100000) (hp : Pool w0 w0.heap.size A L) (w : World) (hb : Below w0.heap.size w0 w) :
  Calls Tryz.prog 173 #[.slice A n c, .int .i64 i] w fun e w' => e = .returned (.tuple #[.string (tgC L i 1).s, .int .i64 (tgE L i 1)]) ∧ Below w.heap.size w w' := by
 have HP := Lib.hid (hp.up hb)
 have HN := Lib.hid hn
 clear hp hb hn
 have hB : Below w.heap.size w w := Below.refl _ _
 go_enter Tryz.func173, Tryz.ntmps173
 go_wp2_with (go_at_call 179; refine (rtg_any _ _ HN.out hN HP.out _ (by repeat (first | with_reducible exact hB | with_reducible exact Below.refl _ _ | with_reducible refine below_al ?_ _ | with_reducible refine below_st ?_ (by first | exact Nat.le_refl _ | exact Nat.le_add_right _ _ | (simp; omega)) _))).mono ?_; rintro e w1 ⟨rfl, hb1⟩; obtain ⟨hc1, hf1⟩ := bcell hb1; have hz1 := hb1.size; (try simp only [World.size_alloc, World.size_setCell] at hz1); (try have hza : w.heap.size < w1.heap.size := by omega); (try have hzb : w.heap.size + 1 < w1.heap.size := by omega); (try have hzc : w.heap.size + 1 + 1 < w1.heap.size := by omega); (try have hzd : wa.heap.size < w1.heap.size := by omega); (try replace hR := (hb1.block w.heap.size (by first | exact lt_heap hR | (have := lt_heap hR; simp; omega))).trans (by first | with_reducible exact hR | with_reducible exact laid_old hR)); replace hB := below_on (w := w) ((by repeat (first | with_reducible exact hB | with_reducible exact Below.refl _ _ | with_reducible refine below_al ?_ _ | with_reducible refine below_st ?_ (by first | exact Nat.le_refl _ | exact Nat.le_add_right _ _ | (simp; omega)) _))) hb1; clear hb1)
 go_ret2
 exact ⟨rfl, (by repeat (first | with_reducible exact hB | with_reducible exact Below.refl _ _ | with_reducible refine below_al ?_ _ | with_reducible refine below_st ?_ (by first | exact Nat.le_refl _ | exact Nat.le_add_right _ _ | (simp; omega)) _))⟩
theorem rcn_any {w0 : World} {A : Option Addr} {n c : Nat} {L : List Cn} (i : Int) (hn : L.length = n) (hN : n ≤ 100000) (hp : Pool w0 w0.heap.size A L) (w : World) (hb : Below w0.heap.size w0 w) :
  Calls Tryz.prog 160 #[.slice A n c, .int .i64 i] w fun e w' => e = .returned (.tuple #[.string (nmS L i 7), .int .i64 (nmE L i 7)]) ∧ Below w.heap.size w w' := by
 have HP := Lib.hid (hp.up hb)
 have HN := Lib.hid hn
 clear hp hb hn
 have hB : Below w.heap.size w w := Below.refl _ _
 go_enter Tryz.func160, Tryz.ntmps160
 go_wp2_with (first | (go_at_call 179; refine (rtg_any _ _ HN.out hN HP.out _ (by repeat (first | with_reducible exact hB | with_reducible exact Below.refl _ _ | with_reducible refine below_al ?_ _ | with_reducible refine below_st ?_ (by first | exact Nat.le_refl _ | exact Nat.le_add_right _ _ | (simp; omega)) _))).mono ?_; rintro e w1 ⟨rfl, hb1⟩; obtain ⟨hc1, hf1⟩ := bcell hb1; have hz1 := hb1.size; (try simp only [World.size_alloc, World.size_setCell] at hz1); (try have hza : w.heap.size < w1.heap.size := by omega); (try have hzb : w.heap.size + 1 < w1.heap.size := by omega); (try have hzc : w.heap.size + 1 + 1 < w1.heap.size := by omega); (try have hzd : wa.heap.size < w1.heap.size := by omega); (try replace hR := (hb1.block w.heap.size (by first | exact lt_heap hR | (have := lt_heap hR; simp; omega))).trans (by first | with_reducible exact hR | with_reducible exact laid_old hR)); replace hB := below_on (w := w) ((by repeat (first | with_reducible exact hB | with_reducible exact Below.refl _ _ | with_reducible refine below_al ?_ _ | with_reducible refine below_st ?_ (by first | exact Nat.le_refl _ | exact Nat.le_add_right _ _ | (simp; omega)) _))) hb1; clear hb1) | (go_at_call 173; refine (rutf_any _ HN.out hN HP.out _ (by repeat (first | with_reducible exact hB | with_reducible exact Below.refl _ _ | with_reducible refine below_al ?_ _ | with_reducible refine below_st ?_ (by first | exact Nat.le_refl _ | exact Nat.le_add_right _ _ | (simp; omega)) _))).mono ?_; rintro e w1 ⟨rfl, hb1⟩; obtain ⟨hc1, hf1⟩ := bcell hb1; have hz1 := hb1.size; (try simp only [World.size_alloc, World.size_setCell] at hz1); (try have hza : w.heap.size < w1.heap.size := by omega); (try have hzb : w.heap.size + 1 < w1.heap.size := by omega); (try have hzc : w.heap.size + 1 + 1 < w1.heap.size := by omega); (try have hzd : wa.heap.size < w1.heap.size := by omega); (try replace hR := (hb1.block w.heap.size (by first | exact lt_heap hR | (have := lt_heap hR; simp; omega))).trans (by first | with_reducible exact hR | with_reducible exact laid_old hR)); replace hB := below_on (w := w) ((by repeat (first | with_reducible exact hB | with_reducible exact Below.refl _ _ | with_reducible refine below_al ?_ _ | with_reducible refine below_st ?_ (by first | exact Nat.le_refl _ | exact Nat.le_add_right _ _ | (simp; omega)) _))) hb1; clear hb1))
 all_goals go_ret2
 ·
  have g := nm_1 (L := L) (i := i) (t := 7) (bneT (by assumption))
  exact ⟨by rw [g.1, g.2]; rfl, (by repeat (first | with_reducible exact hB | with_reducible exact Below.refl _ _ | with_reducible refine below_al ?_ _ | with_reducible refine below_st ?_ (by first | exact Nat.le_refl _ | exact Nat.le_add_right _ _ | (simp; omega)) _))⟩
 ·
  have g := nm_2 (L := L) (i := i) (t := 7) (bneF (by assumption))
  exact ⟨by rw [g.1, g.2]; rfl, (by repeat (first | with_reducible exact hB | with_reducible exact Below.refl _ _ | with_reducible refine below_al ?_ _ | with_reducible refine below_st ?_ (by first | exact Nat.le_refl _ | exact Nat.le_add_right _ _ | (simp; omega)) _))⟩
end Go.Proofs.YtalejaklggnnpaaGreatDoor
/- PoolThree -/
/- Layer 5: NameAndType, MemberRef, in the package and in its reference. -/
namespace Go.Proofs.YtalejaklggnnpaaGreatDoor
open Go.ChangeShapes Go.WideShapes Go.ChangeAt Go.RowKit Go.PlainAid
set_option linter.unusedSimpArgs false
set_option linter.unusedVariables false
def nt (L : List Cn) (i : Int) : ByteArray × ByteArray × Int :=
 if tgE L i 12 = 0 then
  if tgE L (tgC L i 12).a 1 = 0 then
   if tgE L (tgC L i 12).b 1 = 0 then ((tgC L (tgC L i 12).a 1).s, (tgC L (tgC L i 12).b 1).s, 0) else (⟨#[]⟩, ⟨#[]⟩, tgE L (tgC L i 12).b 1)
  else (⟨#[]⟩, ⟨#[]⟩, tgE L (tgC L i 12).a 1)
 else (⟨#[]⟩, ⟨#[]⟩, tgE L i 12)
def ntN (L : List Cn) (i : Int) : ByteArray := (nt L i).1
def ntD (L : List Cn) (i : Int) : ByteArray := (nt L i).2.1
def ntE (L : List Cn) (i : Int) : Int := (nt L i).2.2
theorem nt_1 {L : List Cn} {i : Int} (h : ¬ tgE L i 12 = 0) : ntN L i = ⟨#[]⟩ ∧ ntD L i = ⟨#[]⟩ ∧ ntE L i = tgE L i 12 := by unfold ntN ntD ntE nt; rw [if_neg h]; exact ⟨rfl, rfl, rfl⟩
theorem nt_2 {L : List Cn} {i : Int} (h : tgE L i 12 = 0) (h2 : ¬ tgE L (tgC L i 12).a 1 = 0) : ntN L i = ⟨#[]⟩ ∧ ntD L i = ⟨#[]⟩ ∧ ntE L i = tgE L (tgC L i 12).a 1 := by unfold ntN ntD ntE nt; rw [if_pos h, if_neg h2]; exact ⟨rfl, rfl, rfl⟩
theorem nt_3 {L : List Cn} {i : Int} (h : tgE L i 12 = 0) (h2 : tgE L (tgC L i 12).a 1 = 0) (h3 : ¬ tgE L (tgC L i 12).b 1 = 0) : ntN L i = ⟨#[]⟩ ∧ ntD L i = ⟨#[]⟩ ∧ ntE L i = tgE L (tgC L i 12).b 1 := by unfold ntN ntD ntE nt; rw [if_pos h, if_pos h2, if_neg h3]; exact ⟨rfl, rfl, rfl⟩
theorem nt_4 {L : List Cn} {i : Int} (h : tgE L i 12 = 0) (h2 : tgE L (tgC L i 12).a 1 = 0) (h3 : tgE L (tgC L i 12).b 1 = 0) : ntN L i = (tgC L (tgC L i 12).a 1).s ∧ ntD L i = (tgC L (tgC L i 12).b 1).s ∧ ntE L i = 0 := by unfold ntN ntD ntE nt; rw [if_pos h, if_pos h2, if_pos h3]; exact ⟨rfl, rfl, rfl⟩
def mtB (t : Int) : Bool := t == 9 || t == 10 || t == 11
def mr (L : List Cn) (i t : Int) : ByteArray × ByteArray × ByteArray × Int :=
 if atE L i = 0 then
  if mtB t = true ∧ (atC L i).t = t then
   if nmE L (atC L i).a 7 = 0 then
    if ntE L (atC L i).b = 0 then (nmS L (atC L i).a 7, ntN L (atC L i).b, ntD L (atC L i).b, 0) else (⟨#[]⟩, ⟨#[]⟩, ⟨#[]⟩, ntE L (atC L i).b)
   else (⟨#[]⟩, ⟨#[]⟩, ⟨#[]⟩, nmE L (atC L i).a 7)
  else (⟨#[]⟩, ⟨#[]⟩, ⟨#[]⟩, 11)
 else (⟨#[]⟩, ⟨#[]⟩, ⟨#[]⟩, atE L i)
def mrC (L : List Cn) (i t : Int) : ByteArray := (mr L i t).1
def mrN (L : List Cn) (i t : Int) : ByteArray := (mr L i t).2.1
def mrD (L : List Cn) (i t : Int) : ByteArray := (mr L i t).2.2.1
def mrE (L : List Cn) (i t : Int) : Int := (mr L i t).2.2.2
theorem mr_1 {L : List Cn} {i t : Int} (h : ¬ atE L i = 0) : mrC L i t = ⟨#[]⟩ ∧ mrN L i t = ⟨#[]⟩ ∧ mrD L i t = ⟨#[]⟩ ∧ mrE L i t = atE L i := by unfold mrC mrN mrD mrE mr; rw [if_neg h]; exact ⟨rfl, rfl, rfl, rfl⟩
theorem mr_2 {L : List Cn} {i t : Int} (h : atE L i = 0) (h2 : ¬ (mtB t = true ∧ (atC L i).t = t)) : mrC L i t = ⟨#[]⟩ ∧ mrN L i t = ⟨#[]⟩ ∧ mrD L i t = ⟨#[]⟩ ∧ mrE L i t = 11 := by unfold mrC mrN mrD mrE mr; rw [if_pos h, if_neg h2]; exact ⟨rfl, rfl, rfl, rfl⟩
theorem mr_3 {L : List Cn} {i t : Int} (h : atE L i = 0) (h2 : mtB t = true ∧ (atC L i).t = t) (h3 : ¬ nmE L (atC L i).a 7 = 0) : mrC L i t = ⟨#[]⟩ ∧ mrN L i t = ⟨#[]⟩ ∧ mrD L i t = ⟨#[]⟩ ∧ mrE L i t = nmE L (atC L i).a 7 := by unfold mrC mrN mrD mrE mr; rw [if_pos h, if_pos h2, if_neg h3]; exact ⟨rfl, rfl, rfl, rfl⟩
theorem mr_4 {L : List Cn} {i t : Int} (h : atE L i = 0) (h2 : mtB t = true ∧ (atC L i).t = t) (h3 : nmE L (atC L i).a 7 = 0) (h4 : ¬ ntE L (atC L i).b = 0) : mrC L i t = ⟨#[]⟩ ∧ mrN L i t = ⟨#[]⟩ ∧ mrD L i t = ⟨#[]⟩ ∧ mrE L i t = ntE L (atC L i).b := by unfold mrC mrN mrD mrE mr; rw [if_pos h, if_pos h2, if_pos h3, if_neg h4]; exact ⟨rfl, rfl, rfl, rfl⟩
theorem mr_5 {L : List Cn} {i t : Int} (h : atE L i = 0) (h2 : mtB t = true ∧ (atC L i).t = t) (h3 : nmE L (atC L i).a 7 = 0) (h4 : ntE L (atC L i).b = 0) : mrC L i t = nmS L (atC L i).a 7 ∧ mrN L i t = ntN L (atC L i).b ∧ mrD L i t = ntD L (atC L i).b ∧ mrE L i t = 0 := by unfold mrC mrN mrD mrE mr; rw [if_pos h, if_pos h2, if_pos h3, if_pos h4]; exact ⟨rfl, rfl, rfl, rfl⟩
theorem nt_any {w0 : World} {A : Option Addr} {n c : Nat} {L : List Cn} (i : Int) (hn : L.length = n) (hN : n ≤ 100000) (hp : Pool w0 w0.heap.size A L) (w : World) (hb : Below w0.heap.size w0 w) :
  Calls Tryz.prog 151 #[.slice A n c, .int .i64 i] w fun e w' => e = .returned (.tuple #[.string (ntN L i), .string (ntD L i), .int .i64 (ntE L i)]) ∧ Below w.heap.size w w' := by
 have HP := Lib.hid (hp.up hb)
 have HN := Lib.hid hn
 clear hp hb hn
 have hB : Below w.heap.size w w := Below.refl _ _
 go_enter Tryz.func151, Tryz.ntmps151
 go_wp2_with (first | (go_at_call 152; refine (tg_any _ _ HN.out hN HP.out _ (by repeat (first | with_reducible exact hB | with_reducible exact Below.refl _ _ | with_reducible refine below_al ?_ _ | with_reducible refine below_st ?_ (by first | exact Nat.le_refl _ | exact Nat.le_add_right _ _ | (simp; omega)) _))).mono ?_; rintro e w1 ⟨rfl, hb1⟩; obtain ⟨hc1, hf1⟩ := bcell hb1; have hz1 := hb1.size; (try simp only [World.size_alloc, World.size_setCell] at hz1); (try have hza : w.heap.size < w1.heap.size := by omega); (try have hzb : w.heap.size + 1 < w1.heap.size := by omega); (try have hzc : w.heap.size + 1 + 1 < w1.heap.size := by omega); (try have hzd : wa.heap.size < w1.heap.size := by omega); (try replace hR := (hb1.block w.heap.size (by first | exact lt_heap hR | (have := lt_heap hR; simp; omega))).trans (by first | with_reducible exact hR | with_reducible exact laid_old hR)); replace hB := below_on (w := w) ((by repeat (first | with_reducible exact hB | with_reducible exact Below.refl _ _ | with_reducible refine below_al ?_ _ | with_reducible refine below_st ?_ (by first | exact Nat.le_refl _ | exact Nat.le_add_right _ _ | (simp; omega)) _))) hb1; clear hb1) | (go_at_call 153; refine (utf_any _ HN.out hN HP.out _ (by repeat (first | with_reducible exact hB | with_reducible exact Below.refl _ _ | with_reducible refine below_al ?_ _ | with_reducible refine below_st ?_ (by first | exact Nat.le_refl _ | exact Nat.le_add_right _ _ | (simp; omega)) _))).mono ?_; rintro e w1 ⟨rfl, hb1⟩; obtain ⟨hc1, hf1⟩ := bcell hb1; have hz1 := hb1.size; (try simp only [World.size_alloc, World.size_setCell] at hz1); (try have hza : w.heap.size < w1.heap.size := by omega); (try have hzb : w.heap.size + 1 < w1.heap.size := by omega); (try have hzc : w.heap.size + 1 + 1 < w1.heap.size := by omega); (try have hzd : wa.heap.size < w1.heap.size := by omega); (try replace hR := (hb1.block w.heap.size (by first | exact lt_heap hR | (have := lt_heap hR; simp; omega))).trans (by first | with_reducible exact hR | with_reducible exact laid_old hR)); replace hB := below_on (w := w) ((by repeat (first | with_reducible exact hB | with_reducible exact Below.refl _ _ | with_reducible refine below_al ?_ _ | with_reducible refine below_st ?_ (by first | exact Nat.le_refl _ | exact Nat.le_add_right _ _ | (simp; omega)) _))) hb1; clear hb1))
 all_goals go_ret3
 ·
  have g := nt_1 (L := L) (i := i) (bneT (by assumption))
  exact ⟨by rw [g.1, g.2.1, g.2.2]; rfl, (by repeat (first | with_reducible exact hB | with_reducible exact Below.refl _ _ | with_reducible refine below_al ?_ _ | with_reducible refine below_st ?_ (by first | exact Nat.le_refl _ | exact Nat.le_add_right _ _ | (simp; omega)) _))⟩
 ·
  have g := nt_2 (L := L) (i := i) (bneF (by assumption)) (bneT (by assumption))
  exact ⟨by rw [g.1, g.2.1, g.2.2]; rfl, (by repeat (first | with_reducible exact hB | with_reducible exact Below.refl _ _ | with_reducible refine below_al ?_ _ | with_reducible refine below_st ?_ (by first | exact Nat.le_refl _ | exact Nat.le_add_right _ _ | (simp; omega)) _))⟩
 ·
  have g := nt_3 (L := L) (i := i) (bneF (by assumption)) (bneF (by assumption)) (bneT (by assumption))
  exact ⟨by rw [g.1, g.2.1, g.2.2]; rfl, (by repeat (first | with_reducible exact hB | with_reducible exact Below.refl _ _ | with_reducible refine below_al ?_ _ | with_reducible refine below_st ?_ (by first | exact Nat.le_refl _ | exact Nat.le_add_right _ _ | (simp; omega)) _))⟩
 ·
  have g := nt_4 (L := L) (i := i) (bneF (by assumption)) (bneF (by assumption)) (bneF (by assumption))
  exact ⟨by rw [g.1, g.2.1, g.2.2]; rfl, (by repeat (first | with_reducible exact hB | with_reducible exact Below.refl _ _ | with_reducible refine below_al ?_ _ | with_reducible refine below_st ?_ (by first | exact Nat.le_refl _ | exact Nat.le_add_right _ _ | (simp; omega)) _))⟩
theorem mt_any (t : Int) (w : World) : Calls Tryz.prog 150 #[.int .i64 t] w fun e w' => e = .returned (.bool (mtB t)) ∧ Below w.heap.size w w' := by
 have hB : Below w.heap.size w w := Below.refl _ _
 go_enter Tryz.func150, Tryz.ntmps150
 go_wp2
 all_goals go_ret
 all_goals exact ⟨by unfold mtB; simp_all, (by repeat (first | with_reducible exact hB | with_reducible exact Below.refl _ _ | with_reducible refine below_al ?_ _ | with_reducible refine below_st ?_ (by first | exact Nat.le_refl _ | exact Nat.le_add_right _ _ | (simp; omega)) _))⟩
theorem rnt_any {w0 : World} {A : Option Addr} {n c : Nat} {L : List Cn} (i : Int) (hn : L.length = n) (hN : n ≤ 100000) (hp : Pool w0 w0.heap.size A L) (w : World) (hb : Below w0.heap.size w0 w) :
  Calls Tryz.prog 177 #[.slice A n c, .int .i64 i] w fun e w' => e = .returned (.tuple #[.string (ntN L i), .string (ntD L i), .int .i64 (ntE L i)]) ∧ Below w.heap.size w w' := by
 have HP := Lib.hid (hp.up hb)
 have HN := Lib.hid hn
 clear hp hb hn
 have hB : Below w.heap.size w w := Below.refl _ _
 go_enter Tryz.func177, Tryz.ntmps177
 go_wp2_with (first | (go_at_call 179; refine (rtg_any _ _ HN.out hN HP.out _ (by repeat (first | with_reducible exact hB | with_reducible exact Below.refl _ _ | with_reducible refine below_al ?_ _ | with_reducible refine below_st ?_ (by first | exact Nat.le_refl _ | exact Nat.le_add_right _ _ | (simp; omega)) _))).mono ?_; rintro e w1 ⟨rfl, hb1⟩; obtain ⟨hc1, hf1⟩ := bcell hb1; have hz1 := hb1.size; (try simp only [World.size_alloc, World.size_setCell] at hz1); (try have hza : w.heap.size < w1.heap.size := by omega); (try have hzb : w.heap.size + 1 < w1.heap.size := by omega); (try have hzc : w.heap.size + 1 + 1 < w1.heap.size := by omega); (try have hzd : wa.heap.size < w1.heap.size := by omega); (try replace hR := (hb1.block w.heap.size (by first | exact lt_heap hR | (have := lt_heap hR; simp; omega))).trans (by first | with_reducible exact hR | with_reducible exact laid_old hR)); replace hB := below_on (w := w) ((by repeat (first | with_reducible exact hB | with_reducible exact Below.refl _ _ | with_reducible refine below_al ?_ _ | with_reducible refine below_st ?_ (by first | exact Nat.le_refl _ | exact Nat.le_add_right _ _ | (simp; omega)) _))) hb1; clear hb1) | (go_at_call 173; refine (rutf_any _ HN.out hN HP.out _ (by repeat (first | with_reducible exact hB | with_reducible exact Below.refl _ _ | with_reducible refine below_al ?_ _ | with_reducible refine below_st ?_ (by first | exact Nat.le_refl _ | exact Nat.le_add_right _ _ | (simp; omega)) _))).mono ?_; rintro e w1 ⟨rfl, hb1⟩; obtain ⟨hc1, hf1⟩ := bcell hb1; have hz1 := hb1.size; (try simp only [World.size_alloc, World.size_setCell] at hz1); (try have hza : w.heap.size < w1.heap.size := by omega); (try have hzb : w.heap.size + 1 < w1.heap.size := by omega); (try have hzc : w.heap.size + 1 + 1 < w1.heap.size := by omega); (try have hzd : wa.heap.size < w1.heap.size := by omega); (try replace hR := (hb1.block w.heap.size (by first | exact lt_heap hR | (have := lt_heap hR; simp; omega))).trans (by first | with_reducible exact hR | with_reducible exact laid_old hR)); replace hB := below_on (w := w) ((by repeat (first | with_reducible exact hB | with_reducible exact Below.refl _ _ | with_reducible refine below_al ?_ _ | with_reducible refine below_st ?_ (by first | exact Nat.le_refl _ | exact Nat.le_add_right _ _ | (simp; omega)) _))) hb1; clear hb1))
 all_goals go_ret3
 ·
  have g := nt_1 (L := L) (i := i) (bneT (by assumption))
  exact ⟨by rw [g.1, g.2.1, g.2.2]; rfl, (by repeat (first | with_reducible exact hB | with_reducible exact Below.refl _ _ | with_reducible refine below_al ?_ _ | with_reducible refine below_st ?_ (by first | exact Nat.le_refl _ | exact Nat.le_add_right _ _ | (simp; omega)) _))⟩
 ·
  have g := nt_2 (L := L) (i := i) (bneF (by assumption)) (bneT (by assumption))
  exact ⟨by rw [g.1, g.2.1, g.2.2]; rfl, (by repeat (first | with_reducible exact hB | with_reducible exact Below.refl _ _ | with_reducible refine below_al ?_ _ | with_reducible refine below_st ?_ (by first | exact Nat.le_refl _ | exact Nat.le_add_right _ _ | (simp; omega)) _))⟩
 ·
  have g := nt_3 (L := L) (i := i) (bneF (by assumption)) (bneF (by assumption)) (bneT (by assumption))
  exact ⟨by rw [g.1, g.2.1, g.2.2]; rfl, (by repeat (first | with_reducible exact hB | with_reducible exact Below.refl _ _ | with_reducible refine below_al ?_ _ | with_reducible refine below_st ?_ (by first | exact Nat.le_refl _ | exact Nat.le_add_right _ _ | (simp; omega)) _))⟩
 ·
  have g := nt_4 (L := L) (i := i) (bneF (by assumption)) (bneF (by assumption)) (bneF (by assumption))
  exact ⟨by rw [g.1, g.2.1, g.2.2]; rfl, (by repeat (first | with_reducible exact hB | with_reducible exact Below.refl _ _ | with_reducible refine below_al ?_ _ | with_reducible refine below_st ?_ (by first | exact Nat.le_refl _ | exact Nat.le_add_right _ _ | (simp; omega)) _))⟩
theorem rmt_any (t : Int) (w : World) : Calls Tryz.prog 171 #[.int .i64 t] w fun e w' => e = .returned (.bool (mtB t)) ∧ Below w.heap.size w w' := by
 have hB : Below w.heap.size w w := Below.refl _ _
 go_enter Tryz.func171, Tryz.ntmps171
 go_wp2
 all_goals go_ret
 all_goals exact ⟨by unfold mtB; simp_all, (by repeat (first | with_reducible exact hB | with_reducible exact Below.refl _ _ | with_reducible refine below_al ?_ _ | with_reducible refine below_st ?_ (by first | exact Nat.le_refl _ | exact Nat.le_add_right _ _ | (simp; omega)) _))⟩
theorem mr_any {w0 : World} {A : Option Addr} {n c : Nat} {L : List Cn} (i t : Int) (hn : L.length = n) (hN : n ≤ 100000) (hp : Pool w0 w0.heap.size A L) (w : World) (hb : Below w0.heap.size w0 w) :
  Calls Tryz.prog 111 #[.slice A n c, .int .i64 i, .int .i64 t] w fun e w' => e = .returned (.tuple #[.agg #[.string (mrC L i t), .string (mrN L i t), .string (mrD L i t)], .int .i64 (mrE L i t)]) ∧ Below w.heap.size w w' := by
 have HP := Lib.hid (hp.up hb)
 have HN := Lib.hid hn
 clear hp hb hn
 have hB : Below w.heap.size w w := Below.refl _ _
 go_enter Tryz.func111, Tryz.ntmps111
 go_wp2_with (first | (go_at_call 107; refine (at_any _ HN.out hN HP.out _ (by repeat (first | with_reducible exact hB | with_reducible exact Below.refl _ _ | with_reducible refine below_al ?_ _ | with_reducible refine below_st ?_ (by first | exact Nat.le_refl _ | exact Nat.le_add_right _ _ | (simp; omega)) _))).mono ?_; rintro e wa ⟨rfl, hb1⟩; obtain ⟨hc1, hf1⟩ := bcell hb1; have hz1 := hb1.size; (try simp only [World.size_alloc, World.size_setCell] at hz1); (try have hza : w.heap.size < wa.heap.size := by omega); (try have hzb : w.heap.size + 1 < wa.heap.size := by omega); (try have hzc : w.heap.size + 1 + 1 < wa.heap.size := by omega); (try have hR := first_box hb1); replace hB := below_on (w := w) ((by repeat (first | with_reducible exact hB | with_reducible exact Below.refl _ _ | with_reducible refine below_al ?_ _ | with_reducible refine below_st ?_ (by first | exact Nat.le_refl _ | exact Nat.le_add_right _ _ | (simp; omega)) _))) hb1; clear hb1) | (go_at_call 150; refine (mt_any _ _).mono ?_; rintro e w1 ⟨rfl, hb1⟩; obtain ⟨hc1, hf1⟩ := bcell hb1; have hz1 := hb1.size; (try simp only [World.size_alloc, World.size_setCell] at hz1); (try have hza : w.heap.size < w1.heap.size := by omega); (try have hzb : w.heap.size + 1 < w1.heap.size := by omega); (try have hzc : w.heap.size + 1 + 1 < w1.heap.size := by omega); (try have hzd : wa.heap.size < w1.heap.size := by omega); (try replace hR := (hb1.block w.heap.size (by first | exact lt_heap hR | (have := lt_heap hR; simp; omega))).trans (by first | with_reducible exact hR | with_reducible exact laid_old hR)); replace hB := below_on (w := w) ((by repeat (first | with_reducible exact hB | with_reducible exact Below.refl _ _ | with_reducible refine below_al ?_ _ | with_reducible refine below_st ?_ (by first | exact Nat.le_refl _ | exact Nat.le_add_right _ _ | (simp; omega)) _))) hb1; clear hb1) | (go_at_call 62; refine (cn_any _ HN.out hN HP.out _ (by repeat (first | with_reducible exact hB | with_reducible exact Below.refl _ _ | with_reducible refine below_al ?_ _ | with_reducible refine below_st ?_ (by first | exact Nat.le_refl _ | exact Nat.le_add_right _ _ | (simp; omega)) _))).mono ?_; rintro e w1 ⟨rfl, hb1⟩; obtain ⟨hc1, hf1⟩ := bcell hb1; have hz1 := hb1.size; (try simp only [World.size_alloc, World.size_setCell] at hz1); (try have hza : w.heap.size < w1.heap.size := by omega); (try have hzb : w.heap.size + 1 < w1.heap.size := by omega); (try have hzc : w.heap.size + 1 + 1 < w1.heap.size := by omega); (try have hzd : wa.heap.size < w1.heap.size := by omega); (try replace hR := (hb1.block w.heap.size (by first | exact lt_heap hR | (have := lt_heap hR; simp; omega))).trans (by first | with_reducible exact hR | with_reducible exact laid_old hR)); replace hB := below_on (w := w) ((by repeat (first | with_reducible exact hB | with_reducible exact Below.refl _ _ | with_reducible refine below_al ?_ _ | with_reducible refine below_st ?_ (by first | exact Nat.le_refl _ | exact Nat.le_add_right _ _ | (simp; omega)) _))) hb1; clear hb1) | (go_at_call 151; refine (nt_any _ HN.out hN HP.out _ (by repeat (first | with_reducible exact hB | with_reducible exact Below.refl _ _ | with_reducible refine below_al ?_ _ | with_reducible refine below_st ?_ (by first | exact Nat.le_refl _ | exact Nat.le_add_right _ _ | (simp; omega)) _))).mono ?_; rintro e w1 ⟨rfl, hb1⟩; obtain ⟨hc1, hf1⟩ := bcell hb1; have hz1 := hb1.size; (try simp only [World.size_alloc, World.size_setCell] at hz1); (try have hza : w.heap.size < w1.heap.size := by omega); (try have hzb : w.heap.size + 1 < w1.heap.size := by omega); (try have hzc : w.heap.size + 1 + 1 < w1.heap.size := by omega); (try have hzd : wa.heap.size < w1.heap.size := by omega); (try replace hR := (hb1.block w.heap.size (by first | exact lt_heap hR | (have := lt_heap hR; simp; omega))).trans (by first | with_reducible exact hR | with_reducible exact laid_old hR)); replace hB := below_on (w := w) ((by repeat (first | with_reducible exact hB | with_reducible exact Below.refl _ _ | with_reducible refine below_al ?_ _ | with_reducible refine below_st ?_ (by first | exact Nat.le_refl _ | exact Nat.le_add_right _ _ | (simp; omega)) _))) hb1; clear hb1))
 ·
  have g := mr_1 (L := L) (i := i) (t := t) (bneT (by assumption))
  obtain ⟨r0, r1, r2, q0, q1, q2⟩ := three_cells hR
  refine bodyPost_ret (v := .tuple #[.agg #[.string ⟨#[]⟩, .string ⟨#[]⟩, .string ⟨#[]⟩], .int .i64 (atE L i)]) ?_ rfl ⟨by rw [g.1, g.2.1, g.2.2.1, g.2.2.2], (by repeat (first | with_reducible exact hB | with_reducible exact Below.refl _ _ | with_reducible refine below_al ?_ _ | with_reducible refine below_st ?_ (by first | exact Nat.le_refl _ | exact Nat.le_add_right _ _ | (simp; omega)) _))⟩
  simp [results, Tryz.f111, go_sem, set_same, *]
 ·
  have g := mr_2 (L := L) (i := i) (t := t) (bneF (by assumption)) (fun h => bneT (a := (atC L i).t) (b := t) (by assumption) h.2)
  obtain ⟨r0, r1, r2, q0, q1, q2⟩ := three_cells hR
  refine bodyPost_ret (v := .tuple #[.agg #[.string ⟨#[]⟩, .string ⟨#[]⟩, .string ⟨#[]⟩], .int .i64 11]) ?_ rfl ⟨by rw [g.1, g.2.1, g.2.2.1, g.2.2.2], (by repeat (first | with_reducible exact hB | with_reducible exact Below.refl _ _ | with_reducible refine below_al ?_ _ | with_reducible refine below_st ?_ (by first | exact Nat.le_refl _ | exact Nat.le_add_right _ _ | (simp; omega)) _))⟩
  simp [results, Tryz.f111, go_sem, set_same, r0, r1, r2]
 ·
  have g := mr_3 (L := L) (i := i) (t := t) (bneF (by assumption)) ⟨by assumption, bneF (a := (atC L i).t) (b := t) (by assumption)⟩ (bneT (by assumption))
  obtain ⟨r0, r1, r2, q0, q1, q2⟩ := three_cells hR
  refine bodyPost_ret (v := .tuple #[.agg #[.string ⟨#[]⟩, .string ⟨#[]⟩, .string ⟨#[]⟩], .int .i64 (nmE L (atC L i).a 7)]) ?_ rfl ⟨by rw [g.1, g.2.1, g.2.2.1, g.2.2.2], (by repeat (first | with_reducible exact hB | with_reducible exact Below.refl _ _ | with_reducible refine below_al ?_ _ | with_reducible refine below_st ?_ (by first | exact Nat.le_refl _ | exact Nat.le_add_right _ _ | (simp; omega)) _))⟩
  simp [results, Tryz.f111, go_sem, set_same, r0, r1, r2]
 ·
  have g := mr_4 (L := L) (i := i) (t := t) (bneF (by assumption)) ⟨by assumption, bneF (a := (atC L i).t) (b := t) (by assumption)⟩ (bneF (by assumption)) (bneT (by assumption))
  obtain ⟨r0, r1, r2, q0, q1, q2⟩ := three_cells hR
  refine bodyPost_ret (v := .tuple #[.agg #[.string ⟨#[]⟩, .string ⟨#[]⟩, .string ⟨#[]⟩], .int .i64 (ntE L (atC L i).b)]) ?_ rfl ⟨by rw [g.1, g.2.1, g.2.2.1, g.2.2.2], (by repeat (first | with_reducible exact hB | with_reducible exact Below.refl _ _ | with_reducible refine below_al ?_ _ | with_reducible refine below_st ?_ (by first | exact Nat.le_refl _ | exact Nat.le_add_right _ _ | (simp; omega)) _))⟩
  simp [results, Tryz.f111, go_sem, set_same, r0, r1, r2]
 ·
  have g := mr_5 (L := L) (i := i) (t := t) (bneF (by assumption)) ⟨by assumption, bneF (a := (atC L i).t) (b := t) (by assumption)⟩ (bneF (by assumption)) (bneF (by assumption))
  obtain ⟨r0, r1, r2, q0, q1, q2⟩ := three_cells hR
  refine bodyPost_ret (v := .tuple #[.agg #[.string (nmS L (atC L i).a 7), .string (ntN L (atC L i).b), .string (ntD L (atC L i).b)], .int .i64 0]) ?_ rfl ⟨by rw [g.1, g.2.1, g.2.2.1, g.2.2.2], (by repeat (first | with_reducible exact hB | with_reducible exact Below.refl _ _ | with_reducible refine below_al ?_ _ | with_reducible refine below_st ?_ (by first | exact Nat.le_refl _ | exact Nat.le_add_right _ _ | (simp; omega)) _))⟩
  simp [results, Tryz.f111, go_sem, set_same, r0, r1, r2]
 ·
  have g := mr_2 (L := L) (i := i) (t := t) (bneF (by assumption)) (fun h => (by assumption : ¬ mtB t = true) h.1)
  obtain ⟨r0, r1, r2, q0, q1, q2⟩ := three_cells hR
  refine bodyPost_ret (v := .tuple #[.agg #[.string ⟨#[]⟩, .string ⟨#[]⟩, .string ⟨#[]⟩], .int .i64 11]) ?_ rfl ⟨by rw [g.1, g.2.1, g.2.2.1, g.2.2.2], (by repeat (first | with_reducible exact hB | with_reducible exact Below.refl _ _ | with_reducible refine below_al ?_ _ | with_reducible refine below_st ?_ (by first | exact Nat.le_refl _ | exact Nat.le_add_right _ _ | (simp; omega)) _))⟩
  simp [results, Tryz.f111, go_sem, set_same, r0, r1, r2]
theorem rmr_any {w0 : World} {A : Option Addr} {n c : Nat} {L : List Cn} (i t : Int) (hn : L.length = n) (hN : n ≤ 100000) (hp : Pool w0 w0.heap.size A L) (w : World) (hb : Below w0.heap.size w0 w) :
  Calls Tryz.prog 162 #[.slice A n c, .int .i64 i, .int .i64 t] w fun e w' => e = .returned (.tuple #[.agg #[.string (mrC L i t), .string (mrN L i t), .string (mrD L i t)], .int .i64 (mrE L i t)]) ∧ Below w.heap.size w w' := by
 have HP := Lib.hid (hp.up hb)
 have HN := Lib.hid hn
 clear hp hb hn
 have hB : Below w.heap.size w w := Below.refl _ _
 go_enter Tryz.func162, Tryz.ntmps162
 go_wp2_with (first | (go_at_call 121; refine (rat_any _ HN.out hN HP.out _ (by repeat (first | with_reducible exact hB | with_reducible exact Below.refl _ _ | with_reducible refine below_al ?_ _ | with_reducible refine below_st ?_ (by first | exact Nat.le_refl _ | exact Nat.le_add_right _ _ | (simp; omega)) _))).mono ?_; rintro e wa ⟨rfl, hb1⟩; obtain ⟨hc1, hf1⟩ := bcell hb1; have hz1 := hb1.size; (try simp only [World.size_alloc, World.size_setCell] at hz1); (try have hza : w.heap.size < wa.heap.size := by omega); (try have hzb : w.heap.size + 1 < wa.heap.size := by omega); (try have hzc : w.heap.size + 1 + 1 < wa.heap.size := by omega); (try have hR := first_box hb1); replace hB := below_on (w := w) ((by repeat (first | with_reducible exact hB | with_reducible exact Below.refl _ _ | with_reducible refine below_al ?_ _ | with_reducible refine below_st ?_ (by first | exact Nat.le_refl _ | exact Nat.le_add_right _ _ | (simp; omega)) _))) hb1; clear hb1) | (go_at_call 171; refine (rmt_any _ _).mono ?_; rintro e w1 ⟨rfl, hb1⟩; obtain ⟨hc1, hf1⟩ := bcell hb1; have hz1 := hb1.size; (try simp only [World.size_alloc, World.size_setCell] at hz1); (try have hza : w.heap.size < w1.heap.size := by omega); (try have hzb : w.heap.size + 1 < w1.heap.size := by omega); (try have hzc : w.heap.size + 1 + 1 < w1.heap.size := by omega); (try have hzd : wa.heap.size < w1.heap.size := by omega); (try replace hR := (hb1.block w.heap.size (by first | exact lt_heap hR | (have := lt_heap hR; simp; omega))).trans (by first | with_reducible exact hR | with_reducible exact laid_old hR)); replace hB := below_on (w := w) ((by repeat (first | with_reducible exact hB | with_reducible exact Below.refl _ _ | with_reducible refine below_al ?_ _ | with_reducible refine below_st ?_ (by first | exact Nat.le_refl _ | exact Nat.le_add_right _ _ | (simp; omega)) _))) hb1; clear hb1) | (go_at_call 160; refine (rcn_any _ HN.out hN HP.out _ (by repeat (first | with_reducible exact hB | with_reducible exact Below.refl _ _ | with_reducible refine below_al ?_ _ | with_reducible refine below_st ?_ (by first | exact Nat.le_refl _ | exact Nat.le_add_right _ _ | (simp; omega)) _))).mono ?_; rintro e w1 ⟨rfl, hb1⟩; obtain ⟨hc1, hf1⟩ := bcell hb1; have hz1 := hb1.size; (try simp only [World.size_alloc, World.size_setCell] at hz1); (try have hza : w.heap.size < w1.heap.size := by omega); (try have hzb : w.heap.size + 1 < w1.heap.size := by omega); (try have hzc : w.heap.size + 1 + 1 < w1.heap.size := by omega); (try have hzd : wa.heap.size < w1.heap.size := by omega); (try replace hR := (hb1.block w.heap.size (by first | exact lt_heap hR | (have := lt_heap hR; simp; omega))).trans (by first | with_reducible exact hR | with_reducible exact laid_old hR)); replace hB := below_on (w := w) ((by repeat (first | with_reducible exact hB | with_reducible exact Below.refl _ _ | with_reducible refine below_al ?_ _ | with_reducible refine below_st ?_ (by first | exact Nat.le_refl _ | exact Nat.le_add_right _ _ | (simp; omega)) _))) hb1; clear hb1) | (go_at_call 177; refine (rnt_any _ HN.out hN HP.out _ (by repeat (first | with_reducible exact hB | with_reducible exact Below.refl _ _ | with_reducible refine below_al ?_ _ | with_reducible refine below_st ?_ (by first | exact Nat.le_refl _ | exact Nat.le_add_right _ _ | (simp; omega)) _))).mono ?_; rintro e w1 ⟨rfl, hb1⟩; obtain ⟨hc1, hf1⟩ := bcell hb1; have hz1 := hb1.size; (try simp only [World.size_alloc, World.size_setCell] at hz1); (try have hza : w.heap.size < w1.heap.size := by omega); (try have hzb : w.heap.size + 1 < w1.heap.size := by omega); (try have hzc : w.heap.size + 1 + 1 < w1.heap.size := by omega); (try have hzd : wa.heap.size < w1.heap.size := by omega); (try replace hR := (hb1.block w.heap.size (by first | exact lt_heap hR | (have := lt_heap hR; simp; omega))).trans (by first | with_reducible exact hR | with_reducible exact laid_old hR)); replace hB := below_on (w := w) ((by repeat (first | with_reducible exact hB | with_reducible exact Below.refl _ _ | with_reducible refine below_al ?_ _ | with_reducible refine below_st ?_ (by first | exact Nat.le_refl _ | exact Nat.le_add_right _ _ | (simp; omega)) _))) hb1; clear hb1))
 ·
  have g := mr_1 (L := L) (i := i) (t := t) (bneT (by assumption))
  obtain ⟨r0, r1, r2, q0, q1, q2⟩ := three_cells hR
  refine bodyPost_ret (v := .tuple #[.agg #[.string ⟨#[]⟩, .string ⟨#[]⟩, .string ⟨#[]⟩], .int .i64 (atE L i)]) ?_ rfl ⟨by rw [g.1, g.2.1, g.2.2.1, g.2.2.2], (by repeat (first | with_reducible exact hB | with_reducible exact Below.refl _ _ | with_reducible refine below_al ?_ _ | with_reducible refine below_st ?_ (by first | exact Nat.le_refl _ | exact Nat.le_add_right _ _ | (simp; omega)) _))⟩
  simp [results, Tryz.f162, go_sem, set_same, *]
 ·
  have g := mr_2 (L := L) (i := i) (t := t) (bneF (by assumption)) (fun h => bneT (a := (atC L i).t) (b := t) (by assumption) h.2)
  obtain ⟨r0, r1, r2, q0, q1, q2⟩ := three_cells hR
  refine bodyPost_ret (v := .tuple #[.agg #[.string ⟨#[]⟩, .string ⟨#[]⟩, .string ⟨#[]⟩], .int .i64 11]) ?_ rfl ⟨by rw [g.1, g.2.1, g.2.2.1, g.2.2.2], (by repeat (first | with_reducible exact hB | with_reducible exact Below.refl _ _ | with_reducible refine below_al ?_ _ | with_reducible refine below_st ?_ (by first | exact Nat.le_refl _ | exact Nat.le_add_right _ _ | (simp; omega)) _))⟩
  simp [results, Tryz.f162, go_sem, set_same, r0, r1, r2]
 ·
  have g := mr_3 (L := L) (i := i) (t := t) (bneF (by assumption)) ⟨by assumption, bneF (a := (atC L i).t) (b := t) (by assumption)⟩ (bneT (by assumption))
  obtain ⟨r0, r1, r2, q0, q1, q2⟩ := three_cells hR
  refine bodyPost_ret (v := .tuple #[.agg #[.string ⟨#[]⟩, .string ⟨#[]⟩, .string ⟨#[]⟩], .int .i64 (nmE L (atC L i).a 7)]) ?_ rfl ⟨by rw [g.1, g.2.1, g.2.2.1, g.2.2.2], (by repeat (first | with_reducible exact hB | with_reducible exact Below.refl _ _ | with_reducible refine below_al ?_ _ | with_reducible refine below_st ?_ (by first | exact Nat.le_refl _ | exact Nat.le_add_right _ _ | (simp; omega)) _))⟩
  simp [results, Tryz.f162, go_sem, set_same, r0, r1, r2]
 ·
  have g := mr_4 (L := L) (i := i) (t := t) (bneF (by assumption)) ⟨by assumption, bneF (a := (atC L i).t) (b := t) (by assumption)⟩ (bneF (by assumption)) (bneT (by assumption))
  obtain ⟨r0, r1, r2, q0, q1, q2⟩ := three_cells hR
  refine bodyPost_ret (v := .tuple #[.agg #[.string ⟨#[]⟩, .string ⟨#[]⟩, .string ⟨#[]⟩], .int .i64 (ntE L (atC L i).b)]) ?_ rfl ⟨by rw [g.1, g.2.1, g.2.2.1, g.2.2.2], (by repeat (first | with_reducible exact hB | with_reducible exact Below.refl _ _ | with_reducible refine below_al ?_ _ | with_reducible refine below_st ?_ (by first | exact Nat.le_refl _ | exact Nat.le_add_right _ _ | (simp; omega)) _))⟩
  simp [results, Tryz.f162, go_sem, set_same, r0, r1, r2]
 ·
  have g := mr_5 (L := L) (i := i) (t := t) (bneF (by assumption)) ⟨by assumption, bneF (a := (atC L i).t) (b := t) (by assumption)⟩ (bneF (by assumption)) (bneF (by assumption))
  obtain ⟨r0, r1, r2, q0, q1, q2⟩ := three_cells hR
  refine bodyPost_ret (v := .tuple #[.agg #[.string (nmS L (atC L i).a 7), .string (ntN L (atC L i).b), .string (ntD L (atC L i).b)], .int .i64 0]) ?_ rfl ⟨by rw [g.1, g.2.1, g.2.2.1, g.2.2.2], (by repeat (first | with_reducible exact hB | with_reducible exact Below.refl _ _ | with_reducible refine below_al ?_ _ | with_reducible refine below_st ?_ (by first | exact Nat.le_refl _ | exact Nat.le_add_right _ _ | (simp; omega)) _))⟩
  simp [results, Tryz.f162, go_sem, set_same, r0, r1, r2]
 ·
  have g := mr_2 (L := L) (i := i) (t := t) (bneF (by assumption)) (fun h => (by assumption : ¬ mtB t = true) h.1)
  obtain ⟨r0, r1, r2, q0, q1, q2⟩ := three_cells hR
  refine bodyPost_ret (v := .tuple #[.agg #[.string ⟨#[]⟩, .string ⟨#[]⟩, .string ⟨#[]⟩], .int .i64 11]) ?_ rfl ⟨by rw [g.1, g.2.1, g.2.2.1, g.2.2.2], (by repeat (first | with_reducible exact hB | with_reducible exact Below.refl _ _ | with_reducible refine below_al ?_ _ | with_reducible refine below_st ?_ (by first | exact Nat.le_refl _ | exact Nat.le_add_right _ _ | (simp; omega)) _))⟩
  simp [results, Tryz.f162, go_sem, set_same, r0, r1, r2]
end Go.Proofs.YtalejaklggnnpaaGreatDoor
/- PoolAdd -/
/- Layer 5: Add, in the package and in its reference. -/
namespace Go.Proofs.YtalejaklggnnpaaGreatDoor
open Go.ChangeShapes Go.WideShapes Go.ChangeAt Go.RowKit Go.PlainAid
set_option linter.unusedSimpArgs false
set_option linter.unusedVariables false
theorem below_dr {w W : World} (h : Below w.heap.size w W) (q : Nat) : Below w.heap.size w (W.drewN q) := ⟨h.os, h.tape, h.output, h.size, h.block⟩
def cnQ (x y : Cn) : Bool := x.t == y.t && (decide (x.s = y.s) && (x.n == y.n && (x.a == y.a && x.b == y.b)))
theorem cnQ_iff {x y : Cn} : cnQ x y = true ↔ x = y := by
 obtain ⟨a, b, c, d, e⟩ := x
 obtain ⟨a', b', c', d', e'⟩ := y
 simp [cnQ]
theorem toList_iff {a b : ByteArray} : a.toList = b.toList ↔ a = b := by
 have := beq_toListBytes a b
 constructor
 ·
  intro h
  rw [h] at this
  simp at this
  cases a; cases b
  simp_all [ByteArray.toList_eq]
 ·
  rintro rfl; rfl
theorem cn_eqIn (x y : Cn) (w : World) : (Op.equalIn 10000 155 (Value.agg #[Value.int IntKind.i64 (Cn.t x), Value.string (Cn.s x), Value.int IntKind.i64 (Cn.n x), Value.int IntKind.i64 (Cn.a x), Value.int IntKind.i64 (Cn.b x)]) (Value.agg #[Value.int IntKind.i64 (Cn.t y), Value.string (Cn.s y), Value.int IntKind.i64 (Cn.n y), Value.int IntKind.i64 (Cn.a y), Value.int IntKind.i64 (Cn.b y)])).run Tryz.prog w = .ok (cnQ x y) w := by
 by_cases h1 : x.t = y.t
 ·
  by_cases h2 : x.s = y.s
  ·
   by_cases h3 : x.n = y.n
   ·
    by_cases h4 : x.a = y.a
    ·
     by_cases h5 : x.b = y.b <;> simp [go_sem, cnQ, *]
    ·
     simp [go_sem, cnQ, *]
   ·
    simp [go_sem, cnQ, *]
  ·
   have h2' : ¬ x.s.toList = y.s.toList := fun h => h2 (toList_iff.1 h)
   simp [go_sem, cnQ, *]
 ·
  simp [go_sem, cnQ, *]
theorem cn_neq (x y : Cn) (w : World) : (binOp .neq 155 (Value.agg #[Value.int IntKind.i64 (Cn.t x), Value.string (Cn.s x), Value.int IntKind.i64 (Cn.n x), Value.int IntKind.i64 (Cn.a x), Value.int IntKind.i64 (Cn.b x)]) (Value.agg #[Value.int IntKind.i64 (Cn.t y), Value.string (Cn.s y), Value.int IntKind.i64 (Cn.n y), Value.int IntKind.i64 (Cn.a y), Value.int IntKind.i64 (Cn.b y)])).run Tryz.prog w = .ok (.bool (!cnQ x y)) w := by rw [run_neq_struct, cn_eqIn]; rfl
/-- where a constant stands first; the pool's length where it doesn't -/
def ixN (L : List Cn) (x : Cn) : Nat := L.findIdx (fun c => cnQ c x)
end Go.Proofs.YtalejaklggnnpaaGreatDoor
/- PoolAddTwo -/
/- Layer 5: rows of constants; append onto them; Add, in the package. -/
namespace Go.Proofs.YtalejaklggnnpaaGreatDoor
open Go.ChangeShapes Go.WideShapes Go.ChangeAt Go.RowKit Go.PlainAid
set_option linter.unusedSimpArgs false
set_option linter.unusedVariables false
/-! ### the cells of a row of constants -/
def cnCells (p : Cn) : List Value := [.int .i64 p.t, .string p.s, .int .i64 p.n, .int .i64 p.a, .int .i64 p.b]
def pcells (ps : List Cn) : List Value := ps.flatMap cnCells
theorem pcells_cons (q : Cn) (ps : List Cn) : pcells (q :: ps) = cnCells q ++ pcells ps := by unfold pcells; rw [List.flatMap_cons]
theorem pcells_len (ps : List Cn) : (pcells ps).length = ps.length * 5 := by
 induction ps with
 | nil => rfl
 | cons p ps ih => rw [pcells_cons, List.length_append, ih, List.length_cons]; simp [cnCells]; omega
theorem pcells_app (ps qs : List Cn) : pcells (ps ++ qs) = pcells ps ++ pcells qs := by unfold pcells; simp
theorem pcells_cell (ps : List Cn) : ∀ u ∈ pcells ps, u.oneCell' = true := by
 intro u hu
 unfold pcells at hu
 obtain ⟨p, _, h⟩ := List.mem_flatMap.1 hu
 simp [cnCells] at h
 rcases h with rfl | rfl | rfl | rfl | rfl <;> rfl
theorem pcells_at : ∀ (ps : List Cn) (i : Nat) (p : Cn), ps[i]? = some p → (pcells ps)[i * 5]? = some (.int .i64 p.t) ∧ (pcells ps)[i * 5 + 1]? = some (.string p.s) ∧ (pcells ps)[i * 5 + 2]? = some (.int .i64 p.n) ∧ (pcells ps)[i * 5 + 3]? = some (.int .i64 p.a) ∧ (pcells ps)[i * 5 + 4]? = some (.int .i64 p.b)
 | [], i, p, h => by simp at h
 | q :: ps, 0, p, h => by
  simp at h; subst h
  exact ⟨rfl, rfl, rfl, rfl, rfl⟩
 | q :: ps, i + 1, p, h => by
  have ih := pcells_at ps i p (by simpa using h)
  rw [pcells_cons]
  have l5 : (cnCells q).length = 5 := rfl
  refine ⟨?_, ?_, ?_, ?_, ?_⟩
  ·
   rw [List.getElem?_append_right (by omega), l5, show (i + 1) * 5 - 5 = i * 5 by omega]; exact ih.1
  ·
   rw [List.getElem?_append_right (by omega), l5, show (i + 1) * 5 + 1 - 5 = i * 5 + 1 by omega]; exact ih.2.1
  ·
   rw [List.getElem?_append_right (by omega), l5, show (i + 1) * 5 + 2 - 5 = i * 5 + 2 by omega]; exact ih.2.2.1
  ·
   rw [List.getElem?_append_right (by omega), l5, show (i + 1) * 5 + 3 - 5 = i * 5 + 3 by omega]; exact ih.2.2.2.1
  ·
   rw [List.getElem?_append_right (by omega), l5, show (i + 1) * 5 + 4 - 5 = i * 5 + 4 by omega]; exact ih.2.2.2.2
theorem pcells_read {w : World} {g o : Nat} {ps : List Cn} (h : ∀ (i : Nat) (c : Cn), ps[i]? = some c → w.cell? ⟨g, o + i * 5, none⟩ = some (.int .i64 c.t) ∧ w.cell? ⟨g, o + i * 5 + 1, none⟩ = some (.string c.s) ∧ w.cell? ⟨g, o + i * 5 + 2, none⟩ = some (.int .i64 c.n) ∧ w.cell? ⟨g, o + i * 5 + 3, none⟩ = some (.int .i64 c.a) ∧ w.cell? ⟨g, o + i * 5 + 4, none⟩ = some (.int .i64 c.b)) :
  ∀ j u, (pcells ps)[j]? = some u → w.cell? ⟨g, o + j, none⟩ = some u := by
 intro j u hj
 have hl : j < ps.length * 5 := by
  rcases Nat.lt_or_ge j (pcells ps).length with h1 | h1
  ·
   rwa [pcells_len] at h1
  ·
   rw [List.getElem?_eq_none h1] at hj; cases hj
 have hi : j / 5 < ps.length := by omega
 have hp : ps[j / 5]? = some (ps[j / 5]'hi) := List.getElem?_eq_getElem _
 obtain ⟨c0, c1, c2, c3, c4⟩ := h _ _ hp
 obtain ⟨d0, d1, d2, d3, d4⟩ := pcells_at _ _ _ hp
 rcases (by omega : j = j / 5 * 5 ∨ j = j / 5 * 5 + 1 ∨ j = j / 5 * 5 + 2 ∨ j = j / 5 * 5 + 3 ∨ j = j / 5 * 5 + 4) with e | e | e | e | e <;> rw [e] at hj ⊢ <;> (try simp only [← Nat.add_assoc])
 ·
  rw [c0, ← hj, d0]
 ·
  rw [c1, ← hj, d1]
 ·
  rw [c2, ← hj, d2]
 ·
  rw [c3, ← hj, d3]
 ·
  rw [c4, ← hj, d4]
theorem Pool.cells {w : World} {B : Nat} {A : Option Addr} {L : List Cn} (h : Pool w B A L) : L = [] ∨ ∃ g o, A = some ⟨g, o, none⟩ ∧ g < B ∧ ∀ j u, (pcells L)[j]? = some u → w.cell? ⟨g, o + j, none⟩ = some u :=
 h.imp id fun ⟨g, o, hA, hg, hc⟩ => ⟨g, o, hA, hg, pcells_read hc⟩
theorem Pool.nil (w : World) (B : Nat) (A : Option Addr) : Pool w B A [] := Or.inl rfl
theorem Pool.of_own {w : World} {base e n c : Nat} {A : Option Addr} {ps : List Cn} (h : w.ownsRow base e 5 (.slice A n c) n (pcells ps)) (hn : ps.length = n) : Pool w w.heap.size A ps := by
 cases ps with
 | nil => exact Or.inl rfl
 | cons p ps =>
  obtain ⟨g, cap, hv, _, hlt⟩ := h.form (by rw [← hn, List.length_cons]; omega)
  have hA : A = some ⟨g, 0, none⟩ := by injection hv
  subst hA
  have hcap : c = cap := by injection hv
  subst hcap
  refine Or.inr ⟨g, 0, rfl, hlt, fun i q hi => ?_⟩
  obtain ⟨a, b, d, e', f⟩ := pcells_at _ i q hi
  have hil : i < (p :: ps).length := by
   rcases Nat.lt_or_ge i (p :: ps).length with h | h
   ·
    exact h
   ·
    rw [List.getElem?_eq_none h] at hi; cases hi
  refine ⟨?_, ?_, ?_, ?_, ?_⟩
  ·
   rw [h.cellAt _ (by omega), Nat.zero_add]; exact a
  ·
   rw [h.cellAt _ (by omega), Nat.zero_add]; exact b
  ·
   rw [h.cellAt _ (by omega), Nat.zero_add]; exact d
  ·
   rw [h.cellAt _ (by omega), Nat.zero_add]; exact e'
  ·
   rw [h.cellAt _ (by omega), Nat.zero_add]; exact f
theorem own_cap {w : World} {base e size n m c : Nat} {A : Option Addr} {xs : List Value} (h : w.ownsRow base e size (.slice A n c) m xs) : m ≤ c := by
 rcases h.2 with ⟨hv, h0⟩ | ⟨g, cap, cur, hv, _, _, h1, _⟩
 ·
  omega
 ·
  have : c = cap := by injection hv
  omega
theorem grown_below {w w' : World} {row : Option Nat} {B : Nat} (h : w.grownBy w' row) (hr : ∀ k, row = some k → B ≤ k) (hB : B ≤ w.heap.size) : Below B w w' :=
 ⟨h.os, h.tape, h.output, h.size, fun k hk => h.block k (Nat.lt_of_lt_of_le hk hB) (fun e => by have := hr k e.symm; omega)⟩
theorem infoC : (Tryz.prog.info? 155).map (fun i => (i.zero, i.size, i.bytes)) = some (some (.agg #[.int .i64 0, .string ⟨#[]⟩, .int .i64 0, .int .i64 0, .int .i64 0]), 5, 48) := by kernel_rfl
/-- append of some constants onto a full row that came in: a new row -/
theorem run_append_pool {w : World} (ty : TypeId) {A : Option Addr} {n : Nat} {L : List Cn} (hL : Pool w w.heap.size A L) (hn : L.length = n) (hN : n ≤ 100000)
  {gx ox m c : Nat} {M : List Cn} (hM : ∀ j u, (pcells M)[j]? = some u → w.cell? ⟨gx, ox + j, none⟩ = some u) (hm : M.length = m) (hm0 : 0 < m) (hmN : m ≤ 100000) :
  ∃ g cap w', (Builtin.append_ #[22, 22] ty #[.slice A n n, .slice (some ⟨gx, ox, none⟩) m c]).run Tryz.prog w = .ok (.slice (some ⟨g, 0, none⟩) (n + m) cap) w' ∧
   w'.ownsRow w.heap.size 155 5 (.slice (some ⟨g, 0, none⟩) (n + m) cap) (n + m) (pcells (L ++ M)) ∧ Below w.heap.size w w' := by
 obtain ⟨i0, hi, hz0, hz1, hz2⟩ := info_parts infoC
 have hl := pcells_len M
 have fin : ∀ v' w', (Builtin.append_ #[22, 22] ty #[.slice A n n, .slice (some ⟨gx, ox, none⟩) m c]).run Tryz.prog w = .ok v' w' → w'.ownsRow w.heap.size 155 5 v' (n + m) (pcells L ++ pcells M) → w.grownBy w' none → ∃ g cap w', (Builtin.append_ #[22, 22] ty #[.slice A n n, .slice (some ⟨gx, ox, none⟩) m c]).run Tryz.prog w = .ok (.slice (some ⟨g, 0, none⟩) (n + m) cap) w' ∧
   w'.ownsRow w.heap.size 155 5 (.slice (some ⟨g, 0, none⟩) (n + m) cap) (n + m) (pcells (L ++ M)) ∧ Below w.heap.size w w' := by
  intro v' w' hr hown hgrow
  obtain ⟨g, cap, rfl, _, _⟩ := hown.form (by omega)
  rw [← pcells_app] at hown
  exact ⟨g, cap, w', hr, hown, grown_below hgrow (fun k hk => by cases hk) (Nat.le_refl _)⟩
 have news : ∀ j u, (pcells M)[j]? = some u → w.cell? ((⟨gx, ox, none⟩ : Addr).add j) = some u := fun j u hj => by rw [Addr.add_lit]; exact hM j u hj
 cases A with
 | some b =>
  obtain ⟨v', w', hr, h1, h2⟩ := run_append_arg_grows (P := Tryz.prog) w 22 ty 155 i0 (.agg #[.int .i64 0, .string ⟨#[]⟩, .int .i64 0, .int .i64 0, .int .i64 0]) 5 48 Tryz.underlying22 hi hz0 hz1 hz2 rfl (by decide) b n n (pcells L) (by rw [pcells_len, hn]) (by
   intro j u hj
   rcases hL.cells with rfl | ⟨g, o, hA, _, hc⟩
   ·
    simp [pcells] at hj
   ·
    obtain rfl := Option.some.inj hA
    rw [Addr.add_lit]
    exact hc j u hj) ⟨gx, ox, none⟩ m c (pcells M) (by rw [hl, hm]) news (by omega) (by unfold maxLen; omega) (by omega)
  exact fin v' w' hr h1 h2
 | none =>
  have h0 : L = [] := by
   rcases hL with rfl | ⟨g, o, hA, _⟩
   ·
    rfl
   ·
    cases hA
  subst h0
  obtain rfl : n = 0 := hn.symm
  obtain ⟨v', w', hr, h1, h2, _⟩ := run_append_own (P := Tryz.prog) w w.heap.size 22 ty 155 i0 (.agg #[.int .i64 0, .string ⟨#[]⟩, .int .i64 0, .int .i64 0, .int .i64 0]) 5 48 Tryz.underlying22 hi hz0 hz1 hz2 rfl (by decide) (.slice none 0 0) 0 [] (World.ownsRow_nil w _ _ 5) ⟨gx, ox, none⟩ m c (pcells M) (by rw [hl, hm]) news (pcells_cell M) (by unfold maxLen; omega) (by omega) (Nat.le_refl _)
  exact fin v' w' hr (by simpa [pcells] using h1) h2
end Go.Proofs.YtalejaklggnnpaaGreatDoor
/- PoolAddThree -/
/- Layer 5: Add, in the package. -/
namespace Go.Proofs.YtalejaklggnnpaaGreatDoor
open Go.ChangeShapes Go.WideShapes Go.ChangeAt Go.RowKit Go.PlainAid
set_option linter.unusedSimpArgs false
set_option linter.unusedVariables false
def ad (L : List Cn) (x : Cn) : List Cn × Int × Int := if ixN L x < L.length then (L, (ixN L x : Int) + 1, 0) else if 1000 ≤ L.length then (L, 0, 5) else (L ++ [x], (L.length : Int) + 1, 0)
def adL (L : List Cn) (x : Cn) : List Cn := (ad L x).1
def adI (L : List Cn) (x : Cn) : Int := (ad L x).2.1
def adE (L : List Cn) (x : Cn) : Int := (ad L x).2.2
theorem ad_1 {L : List Cn} {x : Cn} (h : ixN L x < L.length) : adL L x = L ∧ adI L x = (ixN L x : Int) + 1 ∧ adE L x = 0 := by unfold adL adI adE ad; rw [if_pos h]; exact ⟨rfl, rfl, rfl⟩
end Go.Proofs.YtalejaklggnnpaaGreatDoor
/- PoolAddRef -/
/- Layer 5: Add, in the reference. -/
namespace Go.Proofs.YtalejaklggnnpaaGreatDoor
open Go.ChangeShapes Go.WideShapes Go.ChangeAt Go.RowKit Go.PlainAid
set_option linter.unusedSimpArgs false
set_option linter.unusedVariables false
theorem new_at {W : World} {o : Obj} {B : Nat} (hB : B = W.heap.size) : (W.alloc o).heap[B]? = some o := by subst hB; exact World.alloc_heap_new _ _
/-- a row of constants that the call has made itself -/
def OwnP (w : World) (base : Nat) (A : Option Addr) (n c : Nat) (L : List Cn) : Prop := L.length = n ∧ n ≤ c ∧ ((n = 0 ∧ c = 0) ∨ w.ownsRow base 155 5 (.slice A n c) n (pcells L))
theorem OwnP.pool {w : World} {base n c : Nat} {A : Option Addr} {L : List Cn} (h : OwnP w base A n c L) : Pool w w.heap.size A L := by
 rcases h with ⟨h1, _, ⟨h2, _⟩ | h2⟩
 ·
  have : L = [] := List.eq_nil_of_length_eq_zero (by omega)
  subst this
  exact Pool.nil _ _ _
 ·
  exact Pool.of_own h2 h1
theorem OwnP.below {w w' : World} {base n c : Nat} {A : Option Addr} {L : List Cn} (h : OwnP w base A n c L) (hb : Below w.heap.size w w') : OwnP w' base A n c L := ⟨h.1, h.2.1, h.2.2.imp id fun h => owns_below h hb⟩
theorem OwnP.more {w : World} {base base' n c : Nat} {A : Option Addr} {L : List Cn} (h : OwnP w base A n c L) (hb : base' ≤ base) : OwnP w base' A n c L :=
 ⟨h.1, h.2.1, h.2.2.imp id fun h => ⟨h.1, h.2.imp id fun ⟨g, cap, cur, h1, h2, h3⟩ => ⟨g, cap, cur, h1, Nat.le_trans hb h2, h3⟩⟩⟩
theorem OwnP.alloc {w : World} {base n c : Nat} {A : Option Addr} {L : List Cn} (h : OwnP w base A n c L) (o : Obj) : OwnP (w.alloc o) base A n c L := h.below ((Below.refl _ _).alloc (Nat.le_refl _) o)
theorem OwnP.drew {w : World} {base n c : Nat} {A : Option Addr} {L : List Cn} (h : OwnP w base A n c L) : OwnP w.drew base A n c L := h.below (Below.refl _ _).drew
theorem run_append_own_pool {w : World} (ty : TypeId) {base n c : Nat} {A : Option Addr} {L : List Cn} (hO : OwnP w base A n c L) (hN : n ≤ 100000) (hb : base ≤ w.heap.size)
  {gx ox m cx : Nat} {M : List Cn} (hM : ∀ j u, (pcells M)[j]? = some u → w.cell? ⟨gx, ox + j, none⟩ = some u) (hm : M.length = m) (hm0 : 0 < m) (hmN : m ≤ 100000) :
  ∃ A' c' w', (Builtin.append_ #[22, 22] ty #[.slice A n c, .slice (some ⟨gx, ox, none⟩) m cx]).run Tryz.prog w = .ok (.slice A' (n + m) c') w' ∧ OwnP w' base A' (n + m) c' (L ++ M) ∧ Below base w w' := by
 have hlen : (L ++ M).length = n + m := by rw [List.length_append, hO.1, hm]
 rcases hO.2.2 with ⟨h1, h2⟩ | h
 ·
  subst h1; subst h2
  obtain rfl : L = [] := List.eq_nil_of_length_eq_zero hO.1
  obtain ⟨g', cap, w', hr, h1, h2⟩ := run_append_pool (A := A) (n := 0) (L := []) (c := cx) ty (Pool.nil w _ _) rfl (by omega) hM hm hm0 hmN
  exact ⟨_, cap, w', hr, OwnP.more ⟨hlen, own_cap h1, Or.inr h1⟩ hb, h2.mono hb⟩
 ·
  obtain ⟨i0, hi, hz0, hz1, hz2⟩ := info_parts infoC
  obtain ⟨g, cap, w', hr, h1, h2, _, _⟩ := run_append_lies (P := Tryz.prog) w 22 ty base 155 i0 (.agg #[.int .i64 0, .string ⟨#[]⟩, .int .i64 0, .int .i64 0, .int .i64 0]) 5 48 Tryz.underlying22 hi hz0 hz1 hz2 rfl (by decide) (.slice A n c) n (pcells L) h ⟨gx, ox, none⟩ m cx (pcells M) (by rw [pcells_len, hm]) (fun j u hj => by rw [Addr.add_lit]; exact hM j u hj) (pcells_cell M) hm0 (by unfold maxLen; omega) (by omega) hb w.heap.size rfl
  rw [← pcells_app] at h1
  refine ⟨_, cap, w', hr, ⟨hlen, own_cap h1, Or.inr h1⟩, grown_below h2 (fun k hk => ?_) hb⟩
  rcases h.2 with ⟨hv, _⟩ | ⟨g2, cap2, cur2, hv, hg2, _⟩
  ·
   rw [hv] at hk; cases hk
  ·
   rw [hv] at hk
   have : g2 = k := Option.some.inj hk
   omega
theorem wp_append_own {w : World} {o : Oper} {a : Act} {K : Act → World → Prop} {Q : Exit → Act → World → Prop} (s x : Operand) (hop : o.op = Op.call { callee := Callee.builtin Builtin.append, args := #[s, x], argTypes := #[22, 22] })
  {base n c : Nat} {A : Option Addr} {L : List Cn} (hs : a.eval s = .slice A n c) (hO : OwnP w base A n c L) (hN : n ≤ 100000) (hb : base ≤ w.heap.size) {gx ox m cx : Nat} {M : List Cn} (hx : a.eval x = .slice (some ⟨gx, ox, none⟩) m cx) (hM : ∀ j u, (pcells M)[j]? = some u → w.cell? ⟨gx, ox + j, none⟩ = some u) (hm : M.length = m) (hm0 : 0 < m) (hmN : m ≤ 100000)
  (hK : ∀ A' c' w', OwnP w' base A' (n + m) c' (L ++ M) → Below base w w' → K (a.put o.dst (.slice A' (n + m) c')) w') : o.wp Tryz.prog a w K Q := by
 obtain ⟨A', c', w', hr, h2, h3⟩ := run_append_own_pool o.type (cx := cx) hO hN hb hM hm hm0 hmN
 unfold Oper.wp execOp
 simp only [hop, resolve, invoke, builtin, Sem.run_bind, Sem.run_pure, Result.andThen_ok, List.map_toArray, List.map_cons, List.map_nil, hs, hx, hr]
 exact hK A' c' w' h2 h3
theorem wpList_append_own {w : World} {ops : Array Oper} {rest : List Oper} {o : Oper} {a : Act} {Q : Exit → Act → World → Prop} (hg : o.guard = none) (s x : Operand) (hop : o.op = Op.call { callee := Callee.builtin Builtin.append, args := #[s, x], argTypes := #[22, 22] })
  {base n c : Nat} {A : Option Addr} {L : List Cn} (hs : a.eval s = .slice A n c) (hO : OwnP w base A n c L) (hN : n ≤ 100000) (hb : base ≤ w.heap.size) {gx ox m cx : Nat} {M : List Cn} (hx : a.eval x = .slice (some ⟨gx, ox, none⟩) m cx) (hM : ∀ j u, (pcells M)[j]? = some u → w.cell? ⟨gx, ox + j, none⟩ = some u) (hm : M.length = m) (hm0 : 0 < m) (hmN : m ≤ 100000)
  (hK : ∀ A' c' w', OwnP w' base A' (n + m) c' (L ++ M) → Below base w w' → wpList Tryz.prog ops Q rest (a.put o.dst (.slice A' (n + m) c')) w') : wpList Tryz.prog ops Q (o :: rest) a w :=
 wpList_plain hg fun _ hK' => wp_append_own s x hop hs hO hN hb hx hM hm hm0 hmN fun A' c' w' h2 h3 => hK' _ _ (hK A' c' w' h2 h3)
end Go.Proofs.YtalejaklggnnpaaGreatDoor
/- PoolAddAll -/
/- Layer 5: AddUTF8, AddClass, AddString, AddMemberRef, in the package and in its reference. -/
namespace Go.Proofs.YtalejaklggnnpaaGreatDoor
open Go.ChangeShapes Go.WideShapes Go.ChangeAt Go.RowKit Go.PlainAid
set_option linter.unusedSimpArgs false
set_option linter.unusedVariables false
abbrev cu (s : ByteArray) : Cn := ⟨1, s, 0, 0, 0⟩
end Go.Proofs.YtalejaklggnnpaaGreatDoor
