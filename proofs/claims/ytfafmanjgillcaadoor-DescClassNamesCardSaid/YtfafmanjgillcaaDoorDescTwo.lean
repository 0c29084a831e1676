/- Layer 4: Element, ArrayOf, Kind, in the package and in its reference. -/
import Derived.Test.YtfafmanjgillcaaDoorDesc
namespace Go.Proofs.YtfafmanjgillcaaDoor
open Go.ChangeShapes Go.WideShapes Go.ChangeAt Go.RowKit Go.PlainAid
set_option linter.unusedSimpArgs false
set_option linter.unusedVariables false

def elE (d b : Int) (n : ByteArray) : Int := if validB d b n = true then if d = 0 then 1 else 0 else 13
def elV (d b : Int) (n : ByteArray) : Value := if elE d b n = 0 then .agg #[.int .i64 (d - 1), .int .u8 b, .string n] else .agg #[.int .i64 0, .int .u8 0, .string ⟨#[]⟩]

/-- the box and the result's cell, in a world where whatever lay lies as it lay -/
theorem box_cells {w w1 : World} {d b d' b' : Int} {n n' : ByteArray} (h : Below ((w.alloc (.cells #[.int .i64 d, .int .u8 b, .string n] 30)).alloc (.cells #[.int .i64 d', .int .u8 b', .string n'] 30)).heap.size ((w.alloc (.cells #[.int .i64 d, .int .u8 b, .string n] 30)).alloc (.cells #[.int .i64 d', .int .u8 b', .string n'] 30)) w1) :
    w1.heap[w.heap.size]? = some (.cells #[.int .i64 d, .int .u8 b, .string n] 30) ∧ w1.heap[w.heap.size + 1]? = some (.cells #[.int .i64 d', .int .u8 b', .string n'] 30) := by
  constructor
  · exact (h.block w.heap.size (by simp only [World.size_alloc]; omega)).trans ((Below.heap_alloc _ _ _ (by simp)).trans (World.alloc_heap_new w _))
  · refine (h.block (w.heap.size + 1) (by simp only [World.size_alloc]; omega)).trans ?_
    have := World.alloc_heap_new (w.alloc (.cells #[.int .i64 d, .int .u8 b, .string n] 30)) (.cells #[.int .i64 d', .int .u8 b', .string n'] 30)
    rwa [World.size_alloc] at this
theorem three_cells {W : World} {B : Nat} {x y z : Value} {t : TypeId} (h : W.heap[B]? = some (.cells #[x, y, z] t)) :
    W.cell? ⟨B, 0, none⟩ = some x ∧ W.cell? ⟨B, 1, none⟩ = some y ∧ W.cell? ⟨B, 2, none⟩ = some z ∧ W.frozen? ⟨B, 0, none⟩ = false ∧ W.frozen? ⟨B, 1, none⟩ = false ∧ W.frozen? ⟨B, 2, none⟩ = false := by
  refine ⟨?_, ?_, ?_, ?_, ?_, ?_⟩ <;> simp [World.cell?, World.frozen?, h]

theorem set3 {W : World} {B : Nat} {x y z a b c : Value} {t : TypeId} (h : W.heap[B]? = some (.cells #[x, y, z] t)) :
    (((W.setCell ⟨B, 0, none⟩ a).setCell ⟨B, 1, none⟩ b).setCell ⟨B, 2, none⟩ c).heap[B]? = some (.cells #[a, b, c] t) := by
  simp [World.setCell, Array.getElem?_modify, h]
theorem below_set3 {w W : World} {B : Nat} {a b c : Value} (h : Below w.heap.size w W) (hB : w.heap.size ≤ B) :
    Below w.heap.size w (((W.setCell ⟨B, 0, none⟩ a).setCell ⟨B, 1, none⟩ b).setCell ⟨B, 2, none⟩ c) :=
  ((h.setCell (p := ⟨B, 0, none⟩) hB _).setCell (p := ⟨B, 1, none⟩) hB _).setCell (p := ⟨B, 2, none⟩) hB _

theorem valid_bd {d b : Int} {n : ByteArray} (h : validB d b n = true) : 0 ≤ d ∧ d ≤ 8 := by
  unfold validB at h
  rw [Bool.and_eq_true, decide_eq_true_iff] at h
  exact h.1

theorem elem_any (d b : Int) (n : ByteArray) (w : World) :
    Calls Tryd.prog 32 #[.agg #[.int .i64 d, .int .u8 b, .string n]] w fun e w' => e = .returned (.tuple #[elV d b n, .int .i64 (elE d b n)]) ∧ Below w.heap.size w w' := by
  have hB : Below w.heap.size w w := Below.refl _ _
  cases hv : validB d b n with
  | false =>
    have he : elE d b n = 13 := by unfold elE; rw [hv]; rfl
    have hx : elV d b n = .agg #[.int .i64 0, .int .u8 0, .string ⟨#[]⟩] := by unfold elV; rw [he]; rfl
    rw [he, hx]
    go_enter Tryd.func32, Tryd.ntmps32
    go_wp2_with (go_at_call 38; refine (valid_any _ _ _ _).mono ?_; rintro e w1 ⟨rfl, hb1⟩; obtain ⟨k1, k2⟩ := box_cells hb1; obtain ⟨c0, c1, c2, f0, f1, f2⟩ := three_cells k1; obtain ⟨r0, r1, r2, g0, g1, g2⟩ := three_cells k2; replace hB := Below.trans (below_al (below_al hB _) _) (hb1.mono (below_al (below_al hB _) _).size); clear hb1 k1; have k3 := Lib.hid k2; clear k2)
    obtain ⟨s0, s1, s2, _, _, _⟩ := three_cells (set3 (a := .int .i64 0) (b := .int .u8 0) (c := .string ⟨#[]⟩) k3.out)
    refine bodyPost_ret (v := .tuple #[.agg #[.int .i64 0, .int .u8 0, .string ⟨#[]⟩], .int .i64 13]) ?_ rfl ⟨rfl, below_set3 hB (by omega)⟩
    simp [results, Tryd.f32, go_sem, s0, s1, s2]
  | true =>
    by_cases h0 : d = 0
    · subst h0
      have he : elE 0 b n = 1 := by unfold elE; rw [hv]; rfl
      have hx : elV 0 b n = .agg #[.int .i64 0, .int .u8 0, .string ⟨#[]⟩] := by unfold elV; rw [he]; rfl
      rw [he, hx]
      go_enter Tryd.func32, Tryd.ntmps32
      go_wp2_with (go_at_call 38; refine (valid_any _ _ _ _).mono ?_; rintro e w1 ⟨rfl, hb1⟩; obtain ⟨k1, k2⟩ := box_cells hb1; obtain ⟨c0, c1, c2, f0, f1, f2⟩ := three_cells k1; obtain ⟨r0, r1, r2, g0, g1, g2⟩ := three_cells k2; replace hB := Below.trans (below_al (below_al hB _) _) (hb1.mono (below_al (below_al hB _) _).size); clear hb1 k1; have k3 := Lib.hid k2; clear k2)
      obtain ⟨s0, s1, s2, _, _, _⟩ := three_cells (set3 (a := .int .i64 0) (b := .int .u8 0) (c := .string ⟨#[]⟩) k3.out)
      refine bodyPost_ret (v := .tuple #[.agg #[.int .i64 0, .int .u8 0, .string ⟨#[]⟩], .int .i64 1]) ?_ rfl ⟨rfl, below_set3 hB (by omega)⟩
      simp [results, Tryd.f32, go_sem, s0, s1, s2]
    · have hd := valid_bd hv
      have he : elE d b n = 0 := by unfold elE; rw [hv, if_pos rfl, if_neg h0]
      have hx : elV d b n = .agg #[.int .i64 (d - 1), .int .u8 b, .string n] := by unfold elV; rw [he]; rfl
      rw [he, hx]
      have e0 := beqF h0
      go_enter Tryd.func32, Tryd.ntmps32
      go_wp2_with (go_at_call 38; refine (valid_any _ _ _ _).mono ?_; rintro e w1 ⟨rfl, hb1⟩; obtain ⟨k1, k2⟩ := box_cells hb1; obtain ⟨c0, c1, c2, f0, f1, f2⟩ := three_cells k1; obtain ⟨r0, r1, r2, g0, g1, g2⟩ := three_cells k2; replace hB := Below.trans (below_al (below_al hB _) _) (hb1.mono (below_al (below_al hB _) _).size); clear hb1 k1; have k3 := Lib.hid k2; clear k2)
      have k4 := (Below.heap_setCell w1 ⟨w.heap.size, 0, none⟩ (.int .i64 (d - 1)) (w.heap.size + 1) (by show w.heap.size + 1 ≠ w.heap.size; omega)).trans k3.out
      obtain ⟨s0, s1, s2, _, _, _⟩ := three_cells (set3 (a := .int .i64 (d - 1)) (b := .int .u8 b) (c := .string n) k4)
      refine bodyPost_ret (v := .tuple #[.agg #[.int .i64 (d - 1), .int .u8 b, .string n], .int .i64 0]) ?_ rfl ⟨rfl, below_set3 (hB.setCell (p := ⟨w.heap.size, 0, none⟩) (Nat.le_refl _) _) (by omega)⟩
      simp [results, Tryd.f32, go_sem, s0, s1, s2]

theorem relem_any (d b : Int) (n : ByteArray) (hn : n.size ≤ 9223372036854775807) (w : World) :
    Calls Tryd.prog 33 #[.agg #[.int .i64 d, .int .u8 b, .string n]] w fun e w' => e = .returned (.tuple #[elV d b n, .int .i64 (elE d b n)]) ∧ Below w.heap.size w w' := by
  have hB : Below w.heap.size w w := Below.refl _ _
  cases hv : validB d b n with
  | false =>
    have he : elE d b n = 13 := by unfold elE; rw [hv]; rfl
    have hx : elV d b n = .agg #[.int .i64 0, .int .u8 0, .string ⟨#[]⟩] := by unfold elV; rw [he]; rfl
    rw [he, hx]
    go_enter Tryd.func33, Tryd.ntmps33
    go_wp2_with (go_at_call 39; refine (rvalid_any _ _ _ hn _).mono ?_; rintro e w1 ⟨rfl, hb1⟩; obtain ⟨k1, k2⟩ := box_cells hb1; obtain ⟨c0, c1, c2, f0, f1, f2⟩ := three_cells k1; obtain ⟨r0, r1, r2, g0, g1, g2⟩ := three_cells k2; replace hB := Below.trans (below_al (below_al hB _) _) (hb1.mono (below_al (below_al hB _) _).size); clear hb1 k1; have k3 := Lib.hid k2; clear k2)
    obtain ⟨s0, s1, s2, _, _, _⟩ := three_cells (set3 (a := .int .i64 0) (b := .int .u8 0) (c := .string ⟨#[]⟩) k3.out)
    refine bodyPost_ret (v := .tuple #[.agg #[.int .i64 0, .int .u8 0, .string ⟨#[]⟩], .int .i64 13]) ?_ rfl ⟨rfl, below_set3 hB (by omega)⟩
    simp [results, Tryd.f33, go_sem, s0, s1, s2]
  | true =>
    by_cases h0 : d = 0
    · subst h0
      have he : elE 0 b n = 1 := by unfold elE; rw [hv]; rfl
      have hx : elV 0 b n = .agg #[.int .i64 0, .int .u8 0, .string ⟨#[]⟩] := by unfold elV; rw [he]; rfl
      rw [he, hx]
      go_enter Tryd.func33, Tryd.ntmps33
      go_wp2_with (go_at_call 39; refine (rvalid_any _ _ _ hn _).mono ?_; rintro e w1 ⟨rfl, hb1⟩; obtain ⟨k1, k2⟩ := box_cells hb1; obtain ⟨c0, c1, c2, f0, f1, f2⟩ := three_cells k1; obtain ⟨r0, r1, r2, g0, g1, g2⟩ := three_cells k2; replace hB := Below.trans (below_al (below_al hB _) _) (hb1.mono (below_al (below_al hB _) _).size); clear hb1 k1; have k3 := Lib.hid k2; clear k2)
      obtain ⟨s0, s1, s2, _, _, _⟩ := three_cells (set3 (a := .int .i64 0) (b := .int .u8 0) (c := .string ⟨#[]⟩) k3.out)
      refine bodyPost_ret (v := .tuple #[.agg #[.int .i64 0, .int .u8 0, .string ⟨#[]⟩], .int .i64 1]) ?_ rfl ⟨rfl, below_set3 hB (by omega)⟩
      simp [results, Tryd.f33, go_sem, s0, s1, s2]
    · have hd := valid_bd hv
      have he : elE d b n = 0 := by unfold elE; rw [hv, if_pos rfl, if_neg h0]
      have hx : elV d b n = .agg #[.int .i64 (d - 1), .int .u8 b, .string n] := by unfold elV; rw [he]; rfl
      rw [he, hx]
      have e0 := beqF h0
      go_enter Tryd.func33, Tryd.ntmps33
      go_wp2_with (go_at_call 39; refine (rvalid_any _ _ _ hn _).mono ?_; rintro e w1 ⟨rfl, hb1⟩; obtain ⟨k1, k2⟩ := box_cells hb1; obtain ⟨c0, c1, c2, f0, f1, f2⟩ := three_cells k1; obtain ⟨r0, r1, r2, g0, g1, g2⟩ := three_cells k2; replace hB := Below.trans (below_al (below_al hB _) _) (hb1.mono (below_al (below_al hB _) _).size); clear hb1 k1; have k3 := Lib.hid k2; clear k2)
      have k4 := (Below.heap_setCell w1 ⟨w.heap.size, 0, none⟩ (.int .i64 (d - 1)) (w.heap.size + 1) (by show w.heap.size + 1 ≠ w.heap.size; omega)).trans k3.out
      obtain ⟨s0, s1, s2, _, _, _⟩ := three_cells (set3 (a := .int .i64 (d - 1)) (b := .int .u8 b) (c := .string n) k4)
      refine bodyPost_ret (v := .tuple #[.agg #[.int .i64 (d - 1), .int .u8 b, .string n], .int .i64 0]) ?_ rfl ⟨rfl, below_set3 (hB.setCell (p := ⟨w.heap.size, 0, none⟩) (Nat.le_refl _) _) (by omega)⟩
      simp [results, Tryd.f33, go_sem, s0, s1, s2]

end Go.Proofs.YtfafmanjgillcaaDoor
