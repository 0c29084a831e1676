/- Layer 4: ArrayOf, in the package and in its reference. -/
import Derived.Test.YtfafmanjgillcaaDoorDescTwo
namespace Go.Proofs.YtfafmanjgillcaaDoor
open Go.ChangeShapes Go.WideShapes Go.ChangeAt Go.RowKit Go.PlainAid
set_option linter.unusedSimpArgs false
set_option linter.unusedVariables false

def arE (d b : Int) (n : ByteArray) : Int := if validB d b n = true then if b = 86 then 1 else if d = 8 then 9 else 0 else 13
def arV (d b : Int) (n : ByteArray) : Value := if arE d b n = 0 then .agg #[.int .i64 (d + 1), .int .u8 b, .string n] else .agg #[.int .i64 0, .int .u8 0, .string ⟨#[]⟩]

theorem arr_any (d b : Int) (n : ByteArray) (w : World) :
    Calls Tryd.prog 34 #[.agg #[.int .i64 d, .int .u8 b, .string n]] w fun e w' => e = .returned (.tuple #[arV d b n, .int .i64 (arE d b n)]) ∧ Below w.heap.size w w' := by
  have hB : Below w.heap.size w w := Below.refl _ _
  cases hv : validB d b n with
  | false =>
    have he : arE d b n = 13 := by unfold arE; rw [hv]; rfl
    have hx : arV d b n = .agg #[.int .i64 0, .int .u8 0, .string ⟨#[]⟩] := by unfold arV; rw [he]; rfl
    rw [he, hx]
    go_enter Tryd.func34, Tryd.ntmps34
    go_wp2_with (go_at_call 38; refine (valid_any _ _ _ _).mono ?_; rintro e w1 ⟨rfl, hb1⟩; obtain ⟨k1, k2⟩ := box_cells hb1; obtain ⟨c0, c1, c2, f0, f1, f2⟩ := three_cells k1; obtain ⟨r0, r1, r2, g0, g1, g2⟩ := three_cells k2; replace hB := Below.trans (below_al (below_al hB _) _) (hb1.mono (below_al (below_al hB _) _).size); clear hb1 k1; have k3 := Lib.hid k2; clear k2)
    obtain ⟨s0, s1, s2, _, _, _⟩ := three_cells (set3 (a := .int .i64 0) (b := .int .u8 0) (c := .string ⟨#[]⟩) k3.out)
    refine bodyPost_ret (v := .tuple #[.agg #[.int .i64 0, .int .u8 0, .string ⟨#[]⟩], .int .i64 13]) ?_ rfl ⟨rfl, below_set3 hB (by omega)⟩
    simp [results, Tryd.f34, go_sem, s0, s1, s2]
  | true =>
    have hd := valid_bd hv
    by_cases h0 : b = 86
    · subst h0
      have he : arE d 86 n = 1 := by unfold arE; rw [hv]; rfl
      have hx : arV d 86 n = .agg #[.int .i64 0, .int .u8 0, .string ⟨#[]⟩] := by unfold arV; rw [he]; rfl
      rw [he, hx]
      go_enter Tryd.func34, Tryd.ntmps34
      go_wp2_with (go_at_call 38; refine (valid_any _ _ _ _).mono ?_; rintro e w1 ⟨rfl, hb1⟩; obtain ⟨k1, k2⟩ := box_cells hb1; obtain ⟨c0, c1, c2, f0, f1, f2⟩ := three_cells k1; obtain ⟨r0, r1, r2, g0, g1, g2⟩ := three_cells k2; replace hB := Below.trans (below_al (below_al hB _) _) (hb1.mono (below_al (below_al hB _) _).size); clear hb1 k1; have k3 := Lib.hid k2; clear k2)
      obtain ⟨s0, s1, s2, _, _, _⟩ := three_cells (set3 (a := .int .i64 0) (b := .int .u8 0) (c := .string ⟨#[]⟩) k3.out)
      refine bodyPost_ret (v := .tuple #[.agg #[.int .i64 0, .int .u8 0, .string ⟨#[]⟩], .int .i64 1]) ?_ rfl ⟨rfl, below_set3 hB (by omega)⟩
      simp [results, Tryd.f34, go_sem, s0, s1, s2]
    · have e0 := beqF h0
      by_cases h8 : d = 8
      · subst h8
        have he : arE 8 b n = 9 := by unfold arE; rw [hv, if_pos rfl, if_neg h0]; rfl
        have hx : arV 8 b n = .agg #[.int .i64 0, .int .u8 0, .string ⟨#[]⟩] := by unfold arV; rw [he]; rfl
        rw [he, hx]
        go_enter Tryd.func34, Tryd.ntmps34
        go_wp2_with (go_at_call 38; refine (valid_any _ _ _ _).mono ?_; rintro e w1 ⟨rfl, hb1⟩; obtain ⟨k1, k2⟩ := box_cells hb1; obtain ⟨c0, c1, c2, f0, f1, f2⟩ := three_cells k1; obtain ⟨r0, r1, r2, g0, g1, g2⟩ := three_cells k2; replace hB := Below.trans (below_al (below_al hB _) _) (hb1.mono (below_al (below_al hB _) _).size); clear hb1 k1; have k3 := Lib.hid k2; clear k2)
        obtain ⟨s0, s1, s2, _, _, _⟩ := three_cells (set3 (a := .int .i64 0) (b := .int .u8 0) (c := .string ⟨#[]⟩) k3.out)
        refine bodyPost_ret (v := .tuple #[.agg #[.int .i64 0, .int .u8 0, .string ⟨#[]⟩], .int .i64 9]) ?_ rfl ⟨rfl, below_set3 hB (by omega)⟩
        simp [results, Tryd.f34, go_sem, s0, s1, s2]
      · have he : arE d b n = 0 := by unfold arE; rw [hv, if_pos rfl, if_neg h0, if_neg h8]
        have hx : arV d b n = .agg #[.int .i64 (d + 1), .int .u8 b, .string n] := by unfold arV; rw [he]; rfl
        rw [he, hx]
        have e8 := beqF h8
        go_enter Tryd.func34, Tryd.ntmps34
        go_wp2_with (go_at_call 38; refine (valid_any _ _ _ _).mono ?_; rintro e w1 ⟨rfl, hb1⟩; obtain ⟨k1, k2⟩ := box_cells hb1; obtain ⟨c0, c1, c2, f0, f1, f2⟩ := three_cells k1; obtain ⟨r0, r1, r2, g0, g1, g2⟩ := three_cells k2; replace hB := Below.trans (below_al (below_al hB _) _) (hb1.mono (below_al (below_al hB _) _).size); clear hb1 k1; have k3 := Lib.hid k2; clear k2)
        have k4 := (Below.heap_setCell w1 ⟨w.heap.size, 0, none⟩ (.int .i64 (d + 1)) (w.heap.size + 1) (by show w.heap.size + 1 ≠ w.heap.size; omega)).trans k3.out
        obtain ⟨s0, s1, s2, _, _, _⟩ := three_cells (set3 (a := .int .i64 (d + 1)) (b := .int .u8 b) (c := .string n) k4)
        refine bodyPost_ret (v := .tuple #[.agg #[.int .i64 (d + 1), .int .u8 b, .string n], .int .i64 0]) ?_ rfl ⟨rfl, below_set3 (hB.setCell (p := ⟨w.heap.size, 0, none⟩) (Nat.le_refl _) _) (by omega)⟩
        simp [results, Tryd.f34, go_sem, s0, s1, s2]

theorem rarr_any (d b : Int) (n : ByteArray) (hn : n.size ≤ 9223372036854775807) (w : World) :
    Calls Tryd.prog 35 #[.agg #[.int .i64 d, .int .u8 b, .string n]] w fun e w' => e = .returned (.tuple #[arV d b n, .int .i64 (arE d b n)]) ∧ Below w.heap.size w w' := by
  have hB : Below w.heap.size w w := Below.refl _ _
  cases hv : validB d b n with
  | false =>
    have he : arE d b n = 13 := by unfold arE; rw [hv]; rfl
    have hx : arV d b n = .agg #[.int .i64 0, .int .u8 0, .string ⟨#[]⟩] := by unfold arV; rw [he]; rfl
    rw [he, hx]
    go_enter Tryd.func35, Tryd.ntmps35
    go_wp2_with (go_at_call 39; refine (rvalid_any _ _ _ hn _).mono ?_; rintro e w1 ⟨rfl, hb1⟩; obtain ⟨k1, k2⟩ := box_cells hb1; obtain ⟨c0, c1, c2, f0, f1, f2⟩ := three_cells k1; obtain ⟨r0, r1, r2, g0, g1, g2⟩ := three_cells k2; replace hB := Below.trans (below_al (below_al hB _) _) (hb1.mono (below_al (below_al hB _) _).size); clear hb1 k1; have k3 := Lib.hid k2; clear k2)
    obtain ⟨s0, s1, s2, _, _, _⟩ := three_cells (set3 (a := .int .i64 0) (b := .int .u8 0) (c := .string ⟨#[]⟩) k3.out)
    refine bodyPost_ret (v := .tuple #[.agg #[.int .i64 0, .int .u8 0, .string ⟨#[]⟩], .int .i64 13]) ?_ rfl ⟨rfl, below_set3 hB (by omega)⟩
    simp [results, Tryd.f35, go_sem, s0, s1, s2]
  | true =>
    have hd := valid_bd hv
    by_cases h0 : b = 86
    · subst h0
      have he : arE d 86 n = 1 := by unfold arE; rw [hv]; rfl
      have hx : arV d 86 n = .agg #[.int .i64 0, .int .u8 0, .string ⟨#[]⟩] := by unfold arV; rw [he]; rfl
      rw [he, hx]
      go_enter Tryd.func35, Tryd.ntmps35
      go_wp2_with (go_at_call 39; refine (rvalid_any _ _ _ hn _).mono ?_; rintro e w1 ⟨rfl, hb1⟩; obtain ⟨k1, k2⟩ := box_cells hb1; obtain ⟨c0, c1, c2, f0, f1, f2⟩ := three_cells k1; obtain ⟨r0, r1, r2, g0, g1, g2⟩ := three_cells k2; replace hB := Below.trans (below_al (below_al hB _) _) (hb1.mono (below_al (below_al hB _) _).size); clear hb1 k1; have k3 := Lib.hid k2; clear k2)
      obtain ⟨s0, s1, s2, _, _, _⟩ := three_cells (set3 (a := .int .i64 0) (b := .int .u8 0) (c := .string ⟨#[]⟩) k3.out)
      refine bodyPost_ret (v := .tuple #[.agg #[.int .i64 0, .int .u8 0, .string ⟨#[]⟩], .int .i64 1]) ?_ rfl ⟨rfl, below_set3 hB (by omega)⟩
      simp [results, Tryd.f35, go_sem, s0, s1, s2]
    · have e0 := beqF h0
      by_cases h8 : d = 8
      · subst h8
        have he : arE 8 b n = 9 := by unfold arE; rw [hv, if_pos rfl, if_neg h0]; rfl
        have hx : arV 8 b n = .agg #[.int .i64 0, .int .u8 0, .string ⟨#[]⟩] := by unfold arV; rw [he]; rfl
        rw [he, hx]
        go_enter Tryd.func35, Tryd.ntmps35
        go_wp2_with (go_at_call 39; refine (rvalid_any _ _ _ hn _).mono ?_; rintro e w1 ⟨rfl, hb1⟩; obtain ⟨k1, k2⟩ := box_cells hb1; obtain ⟨c0, c1, c2, f0, f1, f2⟩ := three_cells k1; obtain ⟨r0, r1, r2, g0, g1, g2⟩ := three_cells k2; replace hB := Below.trans (below_al (below_al hB _) _) (hb1.mono (below_al (below_al hB _) _).size); clear hb1 k1; have k3 := Lib.hid k2; clear k2)
        obtain ⟨s0, s1, s2, _, _, _⟩ := three_cells (set3 (a := .int .i64 0) (b := .int .u8 0) (c := .string ⟨#[]⟩) k3.out)
        refine bodyPost_ret (v := .tuple #[.agg #[.int .i64 0, .int .u8 0, .string ⟨#[]⟩], .int .i64 9]) ?_ rfl ⟨rfl, below_set3 hB (by omega)⟩
        simp [results, Tryd.f35, go_sem, s0, s1, s2]
      · have he : arE d b n = 0 := by unfold arE; rw [hv, if_pos rfl, if_neg h0, if_neg h8]
        have hx : arV d b n = .agg #[.int .i64 (d + 1), .int .u8 b, .string n] := by unfold arV; rw [he]; rfl
        rw [he, hx]
        have e8 := beqF h8
        go_enter Tryd.func35, Tryd.ntmps35
        go_wp2_with (go_at_call 39; refine (rvalid_any _ _ _ hn _).mono ?_; rintro e w1 ⟨rfl, hb1⟩; obtain ⟨k1, k2⟩ := box_cells hb1; obtain ⟨c0, c1, c2, f0, f1, f2⟩ := three_cells k1; obtain ⟨r0, r1, r2, g0, g1, g2⟩ := three_cells k2; replace hB := Below.trans (below_al (below_al hB _) _) (hb1.mono (below_al (below_al hB _) _).size); clear hb1 k1; have k3 := Lib.hid k2; clear k2)
        have k4 := (Below.heap_setCell w1 ⟨w.heap.size, 0, none⟩ (.int .i64 (d + 1)) (w.heap.size + 1) (by show w.heap.size + 1 ≠ w.heap.size; omega)).trans k3.out
        obtain ⟨s0, s1, s2, _, _, _⟩ := three_cells (set3 (a := .int .i64 (d + 1)) (b := .int .u8 b) (c := .string n) k4)
        refine bodyPost_ret (v := .tuple #[.agg #[.int .i64 (d + 1), .int .u8 b, .string n], .int .i64 0]) ?_ rfl ⟨rfl, below_set3 (hB.setCell (p := ⟨w.heap.size, 0, none⟩) (Nat.le_refl _) _) (by omega)⟩
        simp [results, Tryd.f35, go_sem, s0, s1, s2]

end Go.Proofs.YtfafmanjgillcaaDoor
