/- Layer 4: DescParse, the walk. -/
import Derived.Test.YtfafmanjgillcaaDoorDescWorks
namespace Go.Proofs.YtfafmanjgillcaaDoor
open Go.ChangeShapes Go.WideShapes Go.ChangeAt Go.RowKit Go.PlainAid
set_option linter.unusedSimpArgs false
set_option linter.unusedVariables false

set_option maxRecDepth 100000 in
set_option maxHeartbeats 1000000 in
theorem parse_law (s : ByteArray) (hs : s.size ≤ 140737488351232) (w : World) : Calls Tryd.prog 8 #[.string s] w fun e w' => e = .returned (.bool true) ∧ Below w.heap.size w w' := by
  by_cases hbig : 3000 < s.size
  · have hB : Below w.heap.size w w := Below.refl _ _
    go_enter Tryd.func8, Tryd.ntmps8
    go_wp2_with (go_at_call 29; refine (works_any _).mono ?_; rintro e w1 ⟨rfl, hb1⟩; obtain ⟨hc1, hf1⟩ := bcell hb1; have hz1 := hb1.size; (try simp only [World.size_alloc, World.size_setCell] at hz1); (try have hza : w.heap.size < w1.heap.size := by omega); (try have hzb : w.heap.size + 1 < w1.heap.size := by omega); (try have hzc : w.heap.size + 1 + 1 < w1.heap.size := by omega); replace hB := below_on (w := w) ((by repeat (first | exact hB | exact Below.refl _ _ | refine below_al ?_ _ | refine below_st ?_ (by first | exact Nat.le_refl _ | exact Nat.le_add_right _ _ | (simp; omega)) _))) hb1; clear hb1)
    go_ret
    exact ⟨rfl, hB⟩
  · have hsm : s.size ≤ 3000 := by omega
    clear hbig
    go_enter Tryd.func8, Tryd.ntmps8
    go_wp2_with fail
    refine (parse_any s (by omega) _).mono ?_
    rintro e w1 ⟨rfl, hb1⟩
    have z1 := hb1.size
    have hB1 : Below w.heap.size w w1 := below_on (w := w) ((Below.refl w.heap.size w)) hb1
    clear hb1
    go_wp2_with fail
    refine (rparse_any s (by omega) _).mono ?_
    rintro e w2 ⟨rfl, hb2⟩
    have z2 := hb2.size
    simp only [World.size_alloc] at z2
    have hB2 : Below w.heap.size w w2 := below_on (w := w) ((below_al hB1 _)) hb2
    have K_a : Hid (w2.heap[w1.heap.size]? = some (.cells #[.int .i64 (paD s), .int .u8 (paB s), .string (paS s)] 30)) := Lib.hid ((hb2.block (w1.heap.size) (by (try simp only [World.size_alloc]); omega)).trans ((by have h := World.alloc_heap_new w1 (.cells #[.int .i64 (paD s), .int .u8 (paB s), .string (paS s)] 30); (try simp only [World.size_alloc] at h); exact h)))
    clear hb2
    go_wp2_with fail
    refine (pcc_any s (by omega) _).mono ?_
    rintro e w3 ⟨rfl, hb3⟩
    have z3 := hb3.size
    simp only [World.size_alloc] at z3
    have hB3 : Below w.heap.size w w3 := below_on (w := w) ((below_al hB2 _)) hb3
    replace K_a := Lib.hid ((hb3.block w1.heap.size (by (try simp only [World.size_alloc]); have := lt_of_heap K_a.out; omega)).trans (((Below.heap_alloc _ _ _ (by (try simp only [World.size_alloc]); have := lt_of_heap K_a.out; omega)).trans (K_a.out))))
    have K_b : Hid (w3.heap[w2.heap.size]? = some (.cells #[.int .i64 (paD s), .int .u8 (paB s), .string (paS s)] 30)) := Lib.hid ((hb3.block (w2.heap.size) (by (try simp only [World.size_alloc]); omega)).trans ((by have h := World.alloc_heap_new w2 (.cells #[.int .i64 (paD s), .int .u8 (paB s), .string (paS s)] 30); (try simp only [World.size_alloc] at h); exact h)))
    clear hb3
    go_wp2_with fail
    refine (rpcc_any s (by omega) _).mono ?_
    rintro e w4 ⟨rfl, hb4⟩
    have z4 := hb4.size
    simp only [World.size_alloc] at z4
    have hB4 : Below w.heap.size w w4 := below_on (w := w) ((below_al hB3 _)) hb4
    replace K_a := Lib.hid ((hb4.block w1.heap.size (by (try simp only [World.size_alloc]); have := lt_of_heap K_a.out; omega)).trans (((Below.heap_alloc _ _ _ (by (try simp only [World.size_alloc]); have := lt_of_heap K_a.out; omega)).trans (K_a.out))))
    replace K_b := Lib.hid ((hb4.block w2.heap.size (by (try simp only [World.size_alloc]); have := lt_of_heap K_b.out; omega)).trans (((Below.heap_alloc _ _ _ (by (try simp only [World.size_alloc]); have := lt_of_heap K_b.out; omega)).trans (K_b.out))))
    have K_x : Hid (w4.heap[w3.heap.size]? = some (.cells #[.int .i64 (pcD s), .int .u8 (pcB s), .string (pcS s)] 30)) := Lib.hid ((hb4.block (w3.heap.size) (by (try simp only [World.size_alloc]); omega)).trans ((by have h := World.alloc_heap_new w3 (.cells #[.int .i64 (pcD s), .int .u8 (pcB s), .string (pcS s)] 30); (try simp only [World.size_alloc] at h); exact h)))
    clear hb4
    have lt_a : w1.heap.size < w4.heap.size := lt_of_heap K_a.out
    obtain ⟨a_0, a_1, a_2, fa_0, fa_1, fa_2⟩ := three_cells K_a.out
    have lt_b : w2.heap.size < w4.heap.size := lt_of_heap K_b.out
    obtain ⟨b_0, b_1, b_2, fb_0, fb_1, fb_2⟩ := three_cells K_b.out
    have lt_x : w3.heap.size < w4.heap.size := lt_of_heap K_x.out
    obtain ⟨x_0, x_1, x_2, fx_0, fx_1, fx_2⟩ := three_cells K_x.out
    have hB := hB4
    go_wp2_with (go_at_call 29; refine (works_any _).mono ?_; rintro e w5 ⟨rfl, hb5⟩; replace hB := below_on (w := w) (by repeat (first | exact hB | exact Below.refl _ _ | refine below_al ?_ _ | refine below_st ?_ (by first | exact Nat.le_refl _ | exact Nat.le_add_right _ _ | (simp; omega)) _)) hb5; clear hb5)
    go_ret
    exact ⟨rfl, hB⟩

end Go.Proofs.YtfafmanjgillcaaDoor
