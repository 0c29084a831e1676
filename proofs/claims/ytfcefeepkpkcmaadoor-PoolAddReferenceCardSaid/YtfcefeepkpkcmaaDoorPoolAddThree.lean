/- Layer 5: Add, in the package. -/
import Derived.Test.YtfcefeepkpkcmaaDoorPoolAddTwo
import Derived.Deep.RegionHeld3
namespace Go.Proofs.YtfcefeepkpkcmaaDoor
open Go.ChangeShapes Go.WideShapes Go.ChangeAt Go.RowKit Go.PlainAid
set_option linter.unusedSimpArgs false
set_option linter.unusedVariables false

def ad (L : List Cn) (x : Cn) : List Cn × Int × Int := if ixN L x < L.length then (L, (ixN L x : Int) + 1, 0) else if 1000 ≤ L.length then (L, 0, 5) else (L ++ [x], (L.length : Int) + 1, 0)
def adL (L : List Cn) (x : Cn) : List Cn := (ad L x).1
def adI (L : List Cn) (x : Cn) : Int := (ad L x).2.1
def adE (L : List Cn) (x : Cn) : Int := (ad L x).2.2
theorem ad_1 {L : List Cn} {x : Cn} (h : ixN L x < L.length) : adL L x = L ∧ adI L x = (ixN L x : Int) + 1 ∧ adE L x = 0 := by unfold adL adI adE ad; rw [if_pos h]; exact ⟨rfl, rfl, rfl⟩
theorem ad_2 {L : List Cn} {x : Cn} (h : ¬ ixN L x < L.length) (h2 : 1000 ≤ L.length) : adL L x = L ∧ adI L x = 0 ∧ adE L x = 5 := by unfold adL adI adE ad; rw [if_neg h, if_pos h2]; exact ⟨rfl, rfl, rfl⟩
theorem ad_3 {L : List Cn} {x : Cn} (h : ¬ ixN L x < L.length) (h2 : ¬ 1000 ≤ L.length) : adL L x = L ++ [x] ∧ adI L x = (L.length : Int) + 1 ∧ adE L x = 0 := by unfold adL adI adE ad; rw [if_neg h, if_neg h2]; exact ⟨rfl, rfl, rfl⟩
theorem ad_len {L : List Cn} {x : Cn} (h : L.length ≤ 100000) : (adL L x).length ≤ 100000 := by
  by_cases h1 : ixN L x < L.length
  · rw [(ad_1 h1).1]; exact h
  · by_cases h2 : 1000 ≤ L.length
    · rw [(ad_2 h1 h2).1]; exact h
    · rw [(ad_3 h1 h2).1, List.length_append]; simp; omega

/-- what the adding functions hand back: a pool, an index, an error -/
def AddRet (w : World) (M : List Cn) (i e : Int) (r : Ending) (w' : World) : Prop :=
  ∃ A n c, r = .returned (.tuple #[.slice A n c, .int .i64 i, .int .i64 e]) ∧ M.length = n ∧ n ≤ c ∧ Pool w' w'.heap.size A M ∧ Below w.heap.size w w'

set_option maxHeartbeats 1000000 in
set_option maxRecDepth 100000 in
theorem add_any {w0 : World} {A : Option Addr} {n c : Nat} {L : List Cn} (x : Cn) (hn : L.length = n) (hN : n ≤ 100000) (hc : n ≤ c) (hp : Pool w0 w0.heap.size A L) (w : World) (hb : Below w0.heap.size w0 w) :
    Calls Tryd.prog 28 #[.slice A n c, (Value.agg #[Value.int IntKind.i64 (Cn.t x), Value.string (Cn.s x), Value.int IntKind.i64 (Cn.n x), Value.int IntKind.i64 (Cn.a x), Value.int IntKind.i64 (Cn.b x)])] w (AddRet w (adL L x) (adI L x) (adE L x)) := by
  have hB : Below w.heap.size w w := Below.refl _ _
  have HP := Lib.hid (hp.up hb)
  have HN := Lib.hid hn
  clear hn hp hb
  by_cases h1 : ixN L x < L.length
  · have g := ad_1 h1
    have hI : ixI L x = ixN L x := by unfold ixI; rw [if_pos h1]
    have hi0 := ix_le L x
    rw [HN.out] at hi0
    go_enter Tryd.func28, Tryd.ntmps28
    go_wp2_with (go_at_call 54; refine (ixof_any _ HN.out hN HP.out _ (by repeat (first | with_reducible exact hB | with_reducible exact Below.refl _ _ | with_reducible refine below_al ?_ _ | with_reducible refine below_st ?_ (by first | exact Nat.le_refl _ | exact Nat.le_add_right _ _ | (simp; omega)) _))).mono ?_; rintro e w1 ⟨rfl, hb1⟩; obtain ⟨hc1, hf1⟩ := bcell hb1; have hz1 := hb1.size; (try simp only [World.size_alloc, World.size_setCell] at hz1); (try have hza : w.heap.size < w1.heap.size := by omega); (try have hzb : w.heap.size + 1 < w1.heap.size := by omega); (try have hzc : w.heap.size + 1 + 1 < w1.heap.size := by omega); (try have hzd : wa.heap.size < w1.heap.size := by omega); (try replace hR := (hb1.block w.heap.size (by first | exact lt_heap hR | (have := lt_heap hR; simp; omega))).trans (by first | with_reducible exact hR | with_reducible exact laid_old hR)); replace hB := below_on (w := w) ((by repeat (first | with_reducible exact hB | with_reducible exact Below.refl _ _ | with_reducible refine below_al ?_ _ | with_reducible refine below_st ?_ (by first | exact Nat.le_refl _ | exact Nat.le_add_right _ _ | (simp; omega)) _))) hb1; clear hb1)
    go_ret3
    exact ⟨A, n, c, by rw [g.2.1, g.2.2]; rfl, by rw [g.1]; exact HN.out, hc, by rw [g.1]; exact HP.out.up (by repeat (first | with_reducible exact hB | with_reducible exact Below.refl _ _ | with_reducible refine below_al ?_ _ | with_reducible refine below_st ?_ (by first | exact Nat.le_refl _ | exact Nat.le_add_right _ _ | (simp; omega)) _)), (by repeat (first | with_reducible exact hB | with_reducible exact Below.refl _ _ | with_reducible refine below_al ?_ _ | with_reducible refine below_st ?_ (by first | exact Nat.le_refl _ | exact Nat.le_add_right _ _ | (simp; omega)) _))⟩
  · by_cases h2 : 1000 ≤ L.length
    · have g := ad_2 h1 h2
      have hI : ixI L x = -1 := by unfold ixI; rw [if_neg h1]
      rw [HN.out] at h2
      go_enter Tryd.func28, Tryd.ntmps28
      go_wp2_with (go_at_call 54; refine (ixof_any _ HN.out hN HP.out _ (by repeat (first | with_reducible exact hB | with_reducible exact Below.refl _ _ | with_reducible refine below_al ?_ _ | with_reducible refine below_st ?_ (by first | exact Nat.le_refl _ | exact Nat.le_add_right _ _ | (simp; omega)) _))).mono ?_; rintro e w1 ⟨rfl, hb1⟩; obtain ⟨hc1, hf1⟩ := bcell hb1; have hz1 := hb1.size; (try simp only [World.size_alloc, World.size_setCell] at hz1); (try have hza : w.heap.size < w1.heap.size := by omega); (try have hzb : w.heap.size + 1 < w1.heap.size := by omega); (try have hzc : w.heap.size + 1 + 1 < w1.heap.size := by omega); (try have hzd : wa.heap.size < w1.heap.size := by omega); (try replace hR := (hb1.block w.heap.size (by first | exact lt_heap hR | (have := lt_heap hR; simp; omega))).trans (by first | with_reducible exact hR | with_reducible exact laid_old hR)); replace hB := below_on (w := w) ((by repeat (first | with_reducible exact hB | with_reducible exact Below.refl _ _ | with_reducible refine below_al ?_ _ | with_reducible refine below_st ?_ (by first | exact Nat.le_refl _ | exact Nat.le_add_right _ _ | (simp; omega)) _))) hb1; clear hb1)
      go_ret3
      exact ⟨A, n, c, by rw [g.2.1, g.2.2]; rfl, by rw [g.1]; exact HN.out, hc, by rw [g.1]; exact HP.out.up (by repeat (first | with_reducible exact hB | with_reducible exact Below.refl _ _ | with_reducible refine below_al ?_ _ | with_reducible refine below_st ?_ (by first | exact Nat.le_refl _ | exact Nat.le_add_right _ _ | (simp; omega)) _)), (by repeat (first | with_reducible exact hB | with_reducible exact Below.refl _ _ | with_reducible refine below_al ?_ _ | with_reducible refine below_st ?_ (by first | exact Nat.le_refl _ | exact Nat.le_add_right _ _ | (simp; omega)) _))⟩
    · have G := Lib.hid (ad_3 h1 h2)
      have hI : ixI L x = -1 := by unfold ixI; rw [if_neg h1]
      rw [HN.out] at h2
      go_enter Tryd.func28, Tryd.ntmps28
      go_wp2_with (go_at_call 54; refine (ixof_any _ HN.out hN HP.out _ (by repeat (first | with_reducible exact hB | with_reducible exact Below.refl _ _ | with_reducible refine below_al ?_ _ | with_reducible refine below_st ?_ (by first | exact Nat.le_refl _ | exact Nat.le_add_right _ _ | (simp; omega)) _))).mono ?_; rintro e w1 ⟨rfl, hb1⟩; obtain ⟨hc1, hf1⟩ := bcell hb1; have hz1 := hb1.size; (try simp only [World.size_alloc, World.size_setCell] at hz1); (try have hza : w.heap.size < w1.heap.size := by omega); (try have hzb : w.heap.size + 1 < w1.heap.size := by omega); (try have hzc : w.heap.size + 1 + 1 < w1.heap.size := by omega); (try have hzd : wa.heap.size < w1.heap.size := by omega); (try replace hR := (hb1.block w.heap.size (by first | exact lt_heap hR | (have := lt_heap hR; simp; omega))).trans (by first | with_reducible exact hR | with_reducible exact laid_old hR)); replace hB := below_on (w := w) ((by repeat (first | with_reducible exact hB | with_reducible exact Below.refl _ _ | with_reducible refine below_al ?_ _ | with_reducible refine below_st ?_ (by first | exact Nat.le_refl _ | exact Nat.le_add_right _ _ | (simp; omega)) _))) hb1; clear hb1)
      have k0 : w1.cell? ⟨w.heap.size, 0, none⟩ = some (.int .i64 x.t) := by rw [hc1 _ _ (by simp)]; simp
      have k1 : w1.cell? ⟨w.heap.size, 1, none⟩ = some (.string x.s) := by rw [hc1 _ _ (by simp)]; simp
      have k2 : w1.cell? ⟨w.heap.size, 2, none⟩ = some (.int .i64 x.n) := by rw [hc1 _ _ (by simp)]; simp
      have k3 : w1.cell? ⟨w.heap.size, 3, none⟩ = some (.int .i64 x.a) := by rw [hc1 _ _ (by simp)]; simp
      have k4 : w1.cell? ⟨w.heap.size, 4, none⟩ = some (.int .i64 x.b) := by rw [hc1 _ _ (by simp)]; simp
      clear hc1 hf1 hz1
      have hwr : IntKind.i64.wrap ((n : Int) + 1) = (n : Int) + 1 := by rw [IntKind.wrap_i64]; omega
      go_region_held3 (fun w' => w'.cell? ⟨w.heap.size, 0, none⟩ = some (.int .i64 x.t) ∧ w'.cell? ⟨w.heap.size, 1, none⟩ = some (.string x.s) ∧ w'.cell? ⟨w.heap.size, 2, none⟩ = some (.int .i64 x.n) ∧ w'.cell? ⟨w.heap.size, 3, none⟩ = some (.int .i64 x.a) ∧ w'.cell? ⟨w.heap.size, 4, none⟩ = some (.int .i64 x.b) ∧ w.heap.size < w'.heap.size ∧ Below w.heap.size w w') (((try go_split_ands); (repeat' apply And.intro) <;> (first | assumption | exact (Below.cell hq (by first | (dsimp only; omega) | (simp; omega))).trans (by assumption) | (have := hq.size; omega) | (simp; omega) | exact below_on (w := w) (by assumption) hq | exact Below.drew (by assumption) | exact below_al (by assumption) _ | exact below_al (Below.drew (by assumption)) _ | go_keep)))
        (first | (go_at_call 55; refine (clip_any HN.out hc HP.out _).mono ?_; rintro e w2 ⟨rfl, hq⟩) | (refine step_append_pool (M := [x]) (by rfl) _ _ (by rfl) (by rfl) (HP.out.up (by first | assumption | (go_split_ands; assumption))) HN.out hN (by rfl) (one_cells (by first | exact World.alloc_heap_new _ _ | exact (Below.block hq _ (by simp)).trans (World.alloc_heap_new _ _))) rfl Nat.zero_lt_one (by show 1 ≤ 100000; omega) ?_; intro gg cap w3 hown hq))
      all_goals (go_wp2; go_ret3; go_split_ands; exact ⟨some ⟨gg, 0, none⟩, n + 1, cap, (by rw [G.out.2.1, G.out.2.2, HN.out]; rfl), (by rw [G.out.1, List.length_append, HN.out]; rfl), own_cap hown, (by rw [G.out.1]; exact Pool.of_own hown (by simp [HN.out])), (by assumption)⟩)

end Go.Proofs.YtfcefeepkpkcmaaDoor
