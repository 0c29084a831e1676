/- Layer 5: a pool in memory; At, in the package and in its reference. -/
import Derived.Test.YthfegbhbokhlkaaGreatDoorDescPre
namespace Go.Proofs.YthfegbhbokhlkaaGreatDoor
open Go.ChangeShapes Go.WideShapes Go.ChangeAt Go.RowKit Go.PlainAid
set_option linter.unusedSimpArgs false
set_option linter.unusedVariables false

structure Cn where
  t : Int
  s : ByteArray
  n : Int
  a : Int
  b : Int
def cnZ : Cn := ⟨0, ⟨#[]⟩, 0, 0, 0⟩
theorem cnZ_t : cnZ.t = 0 := rfl
theorem cnZ_s : cnZ.s = ⟨#[]⟩ := rfl
theorem cnZ_n : cnZ.n = 0 := rfl
theorem cnZ_a : cnZ.a = 0 := rfl
theorem cnZ_b : cnZ.b = 0 := rfl

/-- the constants of a slice, at their places: below block B -/
def Pool (w : World) (B : Nat) (A : Option Addr) (L : List Cn) : Prop :=
  L = [] ∨ ∃ g o, A = some ⟨g, o, none⟩ ∧ g < B ∧ ∀ (i : Nat) (c : Cn), L[i]? = some c → w.cell? ⟨g, o + i * 5, none⟩ = some (.int .i64 c.t) ∧ w.cell? ⟨g, o + i * 5 + 1, none⟩ = some (.string c.s) ∧ w.cell? ⟨g, o + i * 5 + 2, none⟩ = some (.int .i64 c.n) ∧ w.cell? ⟨g, o + i * 5 + 3, none⟩ = some (.int .i64 c.a) ∧ w.cell? ⟨g, o + i * 5 + 4, none⟩ = some (.int .i64 c.b)
theorem Pool.below {w w' : World} {B : Nat} {A : Option Addr} {L : List Cn} (h : Pool w B A L) (hb : Below B w w') : Pool w' B A L := by
  rcases h with h | ⟨g, o, hA, hg, hc⟩
  · exact Or.inl h
  · refine Or.inr ⟨g, o, hA, hg, fun i p hi => ?_⟩
    obtain ⟨a, b, c, d, e⟩ := hc i p hi
    exact ⟨(hb.cell (p := ⟨g, _, none⟩) hg).trans a, (hb.cell (p := ⟨g, _, none⟩) hg).trans b, (hb.cell (p := ⟨g, _, none⟩) hg).trans c, (hb.cell (p := ⟨g, _, none⟩) hg).trans d, (hb.cell (p := ⟨g, _, none⟩) hg).trans e⟩
theorem Pool.more {w : World} {B B' : Nat} {A : Option Addr} {L : List Cn} (h : Pool w B A L) (hB : B ≤ B') : Pool w B' A L := by
  rcases h with h | ⟨g, o, hA, hg, hc⟩
  · exact Or.inl h
  · exact Or.inr ⟨g, o, hA, by omega, hc⟩
theorem Pool.up {w w' : World} {A : Option Addr} {L : List Cn} (h : Pool w w.heap.size A L) (hb : Below w.heap.size w w') : Pool w' w'.heap.size A L := (h.below hb).more hb.size

/-- what At says -/
def atC (L : List Cn) (i : Int) : Cn := if 1 ≤ i ∧ i ≤ L.length then L.getD (i - 1).toNat cnZ else cnZ
def atE (L : List Cn) (i : Int) : Int := if 1 ≤ i ∧ i ≤ L.length then 0 else 2
theorem at_out {L : List Cn} {i : Int} (h : ¬ (1 ≤ i ∧ i ≤ L.length)) : atC L i = cnZ ∧ atE L i = 2 := by unfold atC atE; rw [if_neg h, if_neg h]; exact ⟨rfl, rfl⟩
theorem at_in {L : List Cn} {k : Nat} {c : Cn} (h : L[k]? = some c) : atC L ((k : Int) + 1) = c ∧ atE L ((k : Int) + 1) = 0 := by
  have hk : k < L.length := by
    rcases Nat.lt_or_ge k L.length with h1 | h1
    · exact h1
    · rw [List.getElem?_eq_none h1] at h; cases h
  unfold atC atE
  rw [if_pos (by omega), if_pos (by omega), show ((k : Int) + 1 - 1).toNat = k by omega, List.getD_eq_getElem?_getD, h]
  exact ⟨rfl, rfl⟩
theorem at_e (L : List Cn) (i : Int) : atE L i = 0 ∨ atE L i = 2 := by unfold atE; split <;> simp

theorem at_any {w0 : World} {A : Option Addr} {n c : Nat} {L : List Cn} (i : Int) (hn : L.length = n) (hN : n ≤ 100000) (hp : Pool w0 w0.heap.size A L) (w : World) (hb : Below w0.heap.size w0 w) :
    Calls Tryz.prog 87 #[.slice A n c, .int .i64 i] w fun e w' => e = .returned (.tuple #[(Value.agg #[Value.int IntKind.i64 (Cn.t (atC L i)), Value.string (Cn.s (atC L i)), Value.int IntKind.i64 (Cn.n (atC L i)), Value.int IntKind.i64 (Cn.a (atC L i)), Value.int IntKind.i64 (Cn.b (atC L i))]), .int .i64 (atE L i)]) ∧ Below w.heap.size w w' := by
  have hp' := hp.up hb
  clear hp hb
  have hB : Below w.heap.size w w := Below.refl _ _
  by_cases h1 : i < 1
  · have g := at_out (L := L) (i := i) (by omega)
    rw [g.1, g.2]
    clear g
    go_enter Tryz.func87, Tryz.ntmps87
    go_wp2
    refine bodyPost_ret (v := .tuple #[(Value.agg #[Value.int IntKind.i64 (Cn.t cnZ), Value.string (Cn.s cnZ), Value.int IntKind.i64 (Cn.n cnZ), Value.int IntKind.i64 (Cn.a cnZ), Value.int IntKind.i64 (Cn.b cnZ)]), .int .i64 2]) ?_ rfl ⟨rfl, (by repeat (first | with_reducible exact hB | with_reducible exact Below.refl _ _ | with_reducible refine below_al ?_ _ | with_reducible refine below_st ?_ (by first | exact Nat.le_refl _ | exact Nat.le_add_right _ _ | (simp; omega)) _))⟩
    simp [results, Tryz.f87, go_sem, set_same, cnZ_t, cnZ_s, cnZ_n, cnZ_a, cnZ_b, *]
  · by_cases h2 : n < i
    · have g := at_out (L := L) (i := i) (by omega)
      rw [g.1, g.2]
      clear g
      go_enter Tryz.func87, Tryz.ntmps87
      go_wp2
      refine bodyPost_ret (v := .tuple #[(Value.agg #[Value.int IntKind.i64 (Cn.t cnZ), Value.string (Cn.s cnZ), Value.int IntKind.i64 (Cn.n cnZ), Value.int IntKind.i64 (Cn.a cnZ), Value.int IntKind.i64 (Cn.b cnZ)]), .int .i64 2]) ?_ rfl ⟨rfl, (by repeat (first | with_reducible exact hB | with_reducible exact Below.refl _ _ | with_reducible refine below_al ?_ _ | with_reducible refine below_st ?_ (by first | exact Nat.le_refl _ | exact Nat.le_add_right _ _ | (simp; omega)) _))⟩
      simp [results, Tryz.f87, go_sem, set_same, cnZ_t, cnZ_s, cnZ_n, cnZ_a, cnZ_b, *]
    · obtain ⟨k, rfl⟩ : ∃ k : Nat, i = (k : Int) + 1 := ⟨(i - 1).toNat, by omega⟩
      have hk : k < n := by omega
      have hc : ∃ p, L[k]? = some p := ⟨L[k]'(by omega), List.getElem?_eq_getElem _⟩
      obtain ⟨p, hc⟩ := hc
      have g := at_in hc
      rw [g.1, g.2]
      rcases hp' with h0 | ⟨b, o, rfl, hg, hcell⟩
      · rw [h0] at hc; cases hc
      · obtain ⟨a0, a1, a2, a3, a4⟩ := hcell k _ hc
        clear hcell hc g hn
        go_enter Tryz.func87, Tryz.ntmps87
        go_wp2
        refine bodyPost_ret (v := .tuple #[(Value.agg #[Value.int IntKind.i64 (Cn.t p), Value.string (Cn.s p), Value.int IntKind.i64 (Cn.n p), Value.int IntKind.i64 (Cn.a p), Value.int IntKind.i64 (Cn.b p)]), .int .i64 0]) ?_ rfl ⟨rfl, (by repeat (first | with_reducible exact hB | with_reducible exact Below.refl _ _ | with_reducible refine below_al ?_ _ | with_reducible refine below_st ?_ (by first | exact Nat.le_refl _ | exact Nat.le_add_right _ _ | (simp; omega)) _))⟩
        simp [results, Tryz.f87, go_sem, set_same, *]

theorem rat_any {w0 : World} {A : Option Addr} {n c : Nat} {L : List Cn} (i : Int) (hn : L.length = n) (hN : n ≤ 100000) (hp : Pool w0 w0.heap.size A L) (w : World) (hb : Below w0.heap.size w0 w) :
    Calls Tryz.prog 102 #[.slice A n c, .int .i64 i] w fun e w' => e = .returned (.tuple #[(Value.agg #[Value.int IntKind.i64 (Cn.t (atC L i)), Value.string (Cn.s (atC L i)), Value.int IntKind.i64 (Cn.n (atC L i)), Value.int IntKind.i64 (Cn.a (atC L i)), Value.int IntKind.i64 (Cn.b (atC L i))]), .int .i64 (atE L i)]) ∧ Below w.heap.size w w' := by
  have hp' := hp.up hb
  clear hp hb
  have hB : Below w.heap.size w w := Below.refl _ _
  by_cases h1 : i < 1
  · have g := at_out (L := L) (i := i) (by omega)
    rw [g.1, g.2]
    clear g
    go_enter Tryz.func102, Tryz.ntmps102
    go_wp2
    refine bodyPost_ret (v := .tuple #[(Value.agg #[Value.int IntKind.i64 (Cn.t cnZ), Value.string (Cn.s cnZ), Value.int IntKind.i64 (Cn.n cnZ), Value.int IntKind.i64 (Cn.a cnZ), Value.int IntKind.i64 (Cn.b cnZ)]), .int .i64 2]) ?_ rfl ⟨rfl, (by repeat (first | with_reducible exact hB | with_reducible exact Below.refl _ _ | with_reducible refine below_al ?_ _ | with_reducible refine below_st ?_ (by first | exact Nat.le_refl _ | exact Nat.le_add_right _ _ | (simp; omega)) _))⟩
    simp [results, Tryz.f102, go_sem, set_same, cnZ_t, cnZ_s, cnZ_n, cnZ_a, cnZ_b, *]
  · by_cases h2 : n < i
    · have g := at_out (L := L) (i := i) (by omega)
      rw [g.1, g.2]
      clear g
      go_enter Tryz.func102, Tryz.ntmps102
      go_wp2
      refine bodyPost_ret (v := .tuple #[(Value.agg #[Value.int IntKind.i64 (Cn.t cnZ), Value.string (Cn.s cnZ), Value.int IntKind.i64 (Cn.n cnZ), Value.int IntKind.i64 (Cn.a cnZ), Value.int IntKind.i64 (Cn.b cnZ)]), .int .i64 2]) ?_ rfl ⟨rfl, (by repeat (first | with_reducible exact hB | with_reducible exact Below.refl _ _ | with_reducible refine below_al ?_ _ | with_reducible refine below_st ?_ (by first | exact Nat.le_refl _ | exact Nat.le_add_right _ _ | (simp; omega)) _))⟩
      simp [results, Tryz.f102, go_sem, set_same, cnZ_t, cnZ_s, cnZ_n, cnZ_a, cnZ_b, *]
    · obtain ⟨k, rfl⟩ : ∃ k : Nat, i = (k : Int) + 1 := ⟨(i - 1).toNat, by omega⟩
      have hk : k < n := by omega
      have hc : ∃ p, L[k]? = some p := ⟨L[k]'(by omega), List.getElem?_eq_getElem _⟩
      obtain ⟨p, hc⟩ := hc
      have g := at_in hc
      rw [g.1, g.2]
      rcases hp' with h0 | ⟨b, o, rfl, hg, hcell⟩
      · rw [h0] at hc; cases hc
      · obtain ⟨a0, a1, a2, a3, a4⟩ := hcell k _ hc
        clear hcell hc g hn
        go_enter Tryz.func102, Tryz.ntmps102
        go_wp2
        refine bodyPost_ret (v := .tuple #[(Value.agg #[Value.int IntKind.i64 (Cn.t p), Value.string (Cn.s p), Value.int IntKind.i64 (Cn.n p), Value.int IntKind.i64 (Cn.a p), Value.int IntKind.i64 (Cn.b p)]), .int .i64 0]) ?_ rfl ⟨rfl, (by repeat (first | with_reducible exact hB | with_reducible exact Below.refl _ _ | with_reducible refine below_al ?_ _ | with_reducible refine below_st ?_ (by first | exact Nat.le_refl _ | exact Nat.le_add_right _ _ | (simp; omega)) _))⟩
        simp [results, Tryz.f102, go_sem, set_same, *]

end Go.Proofs.YthfegbhbokhlkaaGreatDoor
