/- Layer 4: the examples of the chapter. -/
import Derived.Test.YtfafmanjgillcaaDoorDescRsigW
namespace Go.Proofs.YtfafmanjgillcaaDoor
open Go.ChangeShapes Go.WideShapes Go.ChangeAt Go.RowKit Go.PlainAid
set_option linter.unusedSimpArgs false
set_option linter.unusedVariables false

theorem w_fmt (w : World) : Calls Tryd.prog 30 #[.agg #[.int .i64 2, .int .u8 76, .string ⟨#[97, 47, 66]⟩]] w fun e w' => e = .returned (.tuple #[.string ⟨#[91, 91, 76, 97, 47, 66, 59]⟩, .int .i64 0]) ∧ Below w.heap.size w w' := by
  have h := fmt_any 2 76 ⟨#[97, 47, 66]⟩ (by decide) w
  rw [show fmS 2 76 ⟨#[97, 47, 66]⟩ = ⟨#[91, 91, 76, 97, 47, 66, 59]⟩ by decide +kernel, show fmE 2 76 ⟨#[97, 47, 66]⟩ = 0 by decide +kernel] at h
  exact h
theorem w_p1 (w : World) : Calls Tryd.prog 42 #[.string ⟨#[91, 91, 76, 97, 47, 66, 59]⟩] w fun e w' => e = .returned (.tuple #[.agg #[.int .i64 2, .int .u8 76, .string ⟨#[97, 47, 66]⟩], .int .i64 0]) ∧ Below w.heap.size w w' := by
  have h := parse_any ⟨#[91, 91, 76, 97, 47, 66, 59]⟩ (by decide) w
  rw [show paD ⟨#[91, 91, 76, 97, 47, 66, 59]⟩ = 2 by decide +kernel, show paB ⟨#[91, 91, 76, 97, 47, 66, 59]⟩ = 76 by decide +kernel, show paS ⟨#[91, 91, 76, 97, 47, 66, 59]⟩ = ⟨#[97, 47, 66]⟩ by decide +kernel, show paE ⟨#[91, 91, 76, 97, 47, 66, 59]⟩ = 0 by decide +kernel] at h
  exact h
theorem w_p2 (w : World) : Calls Tryd.prog 42 #[.string ⟨#[91, 86]⟩] w fun e w' => e = .returned (.tuple #[.agg #[.int .i64 0, .int .u8 0, .string ⟨#[]⟩], .int .i64 13]) ∧ Below w.heap.size w w' := by
  have h := parse_any ⟨#[91, 86]⟩ (by decide) w
  rw [show paD ⟨#[91, 86]⟩ = 0 by decide +kernel, show paB ⟨#[91, 86]⟩ = 0 by decide +kernel, show paS ⟨#[91, 86]⟩ = ⟨#[]⟩ by decide +kernel, show paE ⟨#[91, 86]⟩ = 13 by decide +kernel] at h
  exact h
theorem w_p3 (w : World) : Calls Tryd.prog 42 #[.string ⟨#[73, 73]⟩] w fun e w' => e = .returned (.tuple #[.agg #[.int .i64 0, .int .u8 0, .string ⟨#[]⟩], .int .i64 13]) ∧ Below w.heap.size w w' := by
  have h := parse_any ⟨#[73, 73]⟩ (by decide) w
  rw [show paD ⟨#[73, 73]⟩ = 0 by decide +kernel, show paB ⟨#[73, 73]⟩ = 0 by decide +kernel, show paS ⟨#[73, 73]⟩ = ⟨#[]⟩ by decide +kernel, show paE ⟨#[73, 73]⟩ = 13 by decide +kernel] at h
  exact h
theorem w_pcc (w : World) : Calls Tryd.prog 44 #[.string ⟨#[73]⟩] w fun e w' => e = .returned (.tuple #[.agg #[.int .i64 0, .int .u8 76, .string ⟨#[73]⟩], .int .i64 0]) ∧ Below w.heap.size w w' := by
  have h := pcc_any ⟨#[73]⟩ (by decide) w
  rw [show pcD ⟨#[73]⟩ = 0 by decide +kernel, show pcB ⟨#[73]⟩ = 76 by decide +kernel, show pcS ⟨#[73]⟩ = ⟨#[73]⟩ by decide +kernel, show pcE ⟨#[73]⟩ = 0 by decide +kernel] at h
  exact h
theorem w_sig (w : World) : Calls Tryd.prog 48 #[.string ⟨#[40, 73, 91, 74, 41, 86]⟩] w (SigRet w ([(0, 73, ⟨#[]⟩), (1, 74, ⟨#[]⟩)], (0, 86, ⟨#[]⟩), 0)) := by
  have h := psig_all ⟨#[40, 73, 91, 74, 41, 86]⟩ (by decide) w
  rw [show sgOf (⟨#[40, 73, 91, 74, 41, 86]⟩ : ByteArray).data.toList = ([(0, 73, ⟨#[]⟩), (1, 74, ⟨#[]⟩)], (0, 86, ⟨#[]⟩), 0) by decide +kernel] at h
  exact h

set_option maxRecDepth 100000 in
set_option maxHeartbeats 1000000 in
theorem works_any (w : World) : Calls Tryd.prog 29 #[] w fun e w' => e = .returned (.bool true) ∧ Below w.heap.size w w' := by
  go_enter Tryd.func29, Tryd.ntmps29
  go_wp2_with fail
  refine (w_fmt _).mono ?_
  rintro e w1 ⟨rfl, hb1⟩
  have z1 := hb1.size
  have hB1 : Below w.heap.size w w1 := below_on (w := w) ((Below.refl w.heap.size w)) hb1
  clear hb1
  go_wp2_with fail
  refine (w_p1 _).mono ?_
  rintro e w2 ⟨rfl, hb2⟩
  have z2 := hb2.size
  have hB2 : Below w.heap.size w w2 := below_on (w := w) (hB1) hb2
  clear hb2
  go_wp2_with fail
  refine (w_p2 _).mono ?_
  rintro e w3 ⟨rfl, hb3⟩
  have z3 := hb3.size
  simp only [World.size_alloc] at z3
  have hB3 : Below w.heap.size w w3 := below_on (w := w) ((below_al hB2 _)) hb3
  have K_p : Hid (w3.heap[w2.heap.size]? = some (.cells #[.int .i64 2, .int .u8 76, .string ⟨#[97, 47, 66]⟩] 30)) := Lib.hid ((hb3.block (w2.heap.size) (by (try simp only [World.size_alloc]); omega)).trans ((by have h := World.alloc_heap_new w2 (.cells #[.int .i64 2, .int .u8 76, .string ⟨#[97, 47, 66]⟩] 30); (try simp only [World.size_alloc] at h); exact h)))
  clear hb3
  go_wp2_with fail
  refine (w_p3 _).mono ?_
  rintro e w4 ⟨rfl, hb4⟩
  have z4 := hb4.size
  simp only [World.size_alloc] at z4
  have hB4 : Below w.heap.size w w4 := below_on (w := w) ((below_al hB3 _)) hb4
  replace K_p := Lib.hid ((hb4.block w2.heap.size (by (try simp only [World.size_alloc]); have := lt_of_heap K_p.out; omega)).trans (((Below.heap_alloc _ _ _ (by (try simp only [World.size_alloc]); have := lt_of_heap K_p.out; omega)).trans (K_p.out))))
  have K_p2 : Hid (w4.heap[w3.heap.size]? = some (.cells #[.int .i64 0, .int .u8 0, .string ⟨#[]⟩] 30)) := Lib.hid ((hb4.block (w3.heap.size) (by (try simp only [World.size_alloc]); omega)).trans ((by have h := World.alloc_heap_new w3 (.cells #[.int .i64 0, .int .u8 0, .string ⟨#[]⟩] 30); (try simp only [World.size_alloc] at h); exact h)))
  clear hb4
  go_wp2_with fail
  refine (w_sig _).mono ?_
  rintro e w5 ⟨A, c, he5, hty, hc5, hb5⟩
  subst he5
  have z5 := hb5.size
  simp only [World.size_alloc] at z5
  have hB5 : Below w.heap.size w w5 := below_on (w := w) ((below_al hB4 _)) hb5
  replace K_p := Lib.hid ((hb5.block w2.heap.size (by (try simp only [World.size_alloc]); have := lt_of_heap K_p.out; omega)).trans (((Below.heap_alloc _ _ _ (by (try simp only [World.size_alloc]); have := lt_of_heap K_p.out; omega)).trans (K_p.out))))
  replace K_p2 := Lib.hid ((hb5.block w3.heap.size (by (try simp only [World.size_alloc]); have := lt_of_heap K_p2.out; omega)).trans (((Below.heap_alloc _ _ _ (by (try simp only [World.size_alloc]); have := lt_of_heap K_p2.out; omega)).trans (K_p2.out))))
  have K_p3 : Hid (w5.heap[w4.heap.size]? = some (.cells #[.int .i64 0, .int .u8 0, .string ⟨#[]⟩] 30)) := Lib.hid ((hb5.block (w4.heap.size) (by (try simp only [World.size_alloc]); omega)).trans ((by have h := World.alloc_heap_new w4 (.cells #[.int .i64 0, .int .u8 0, .string ⟨#[]⟩] 30); (try simp only [World.size_alloc] at h); exact h)))
  clear hb5
  rcases hty with h | ⟨g0, o0, rfl, hg0, hcell⟩
  · cases h
  obtain ⟨e0, e1, e2⟩ := hcell 1 _ rfl
  clear hcell
  go_wp2_with fail
  refine (w_pcc _).mono ?_
  rintro e w6 ⟨rfl, hb6⟩
  have c5 : w5.heap.size < (w5.alloc (.cells #[.slice (some ⟨g0, o0, none⟩) 2 c, .int .i64 0, .int .u8 86, .string ⟨#[]⟩] 41)).heap.size := by simp
  have x0 := ((hb6.cell (p := ⟨g0, o0 + 1 * 3, none⟩) (by show g0 < _; omega)).trans (World.cell?_alloc_lt _ _ _ hg0)).trans e0
  have x1 := ((hb6.cell (p := ⟨g0, o0 + 1 * 3 + 1, none⟩) (by show g0 < _; omega)).trans (World.cell?_alloc_lt _ _ _ hg0)).trans e1
  have x2 := ((hb6.cell (p := ⟨g0, o0 + 1 * 3 + 2, none⟩) (by show g0 < _; omega)).trans (World.cell?_alloc_lt _ _ _ hg0)).trans e2
  rw [show o0 + 1 * 3 = o0 + 3 by omega] at x0 x1 x2
  clear e0 e1 e2 c5
  have z6 := hb6.size
  simp only [World.size_alloc] at z6
  have hB6 : Below w.heap.size w w6 := below_on (w := w) ((below_al hB5 _)) hb6
  replace K_p := Lib.hid ((hb6.block w2.heap.size (by (try simp only [World.size_alloc]); have := lt_of_heap K_p.out; omega)).trans (((Below.heap_alloc _ _ _ (by (try simp only [World.size_alloc]); have := lt_of_heap K_p.out; omega)).trans (K_p.out))))
  replace K_p2 := Lib.hid ((hb6.block w3.heap.size (by (try simp only [World.size_alloc]); have := lt_of_heap K_p2.out; omega)).trans (((Below.heap_alloc _ _ _ (by (try simp only [World.size_alloc]); have := lt_of_heap K_p2.out; omega)).trans (K_p2.out))))
  replace K_p3 := Lib.hid ((hb6.block w4.heap.size (by (try simp only [World.size_alloc]); have := lt_of_heap K_p3.out; omega)).trans (((Below.heap_alloc _ _ _ (by (try simp only [World.size_alloc]); have := lt_of_heap K_p3.out; omega)).trans (K_p3.out))))
  have K_g : Hid (w6.heap[w5.heap.size]? = some (.cells #[.slice (some ⟨g0, o0, none⟩) 2 c, .int .i64 0, .int .u8 86, .string ⟨#[]⟩] 41)) := Lib.hid ((hb6.block (w5.heap.size) (by (try simp only [World.size_alloc]); omega)).trans ((by have h := World.alloc_heap_new w5 (.cells #[.slice (some ⟨g0, o0, none⟩) 2 c, .int .i64 0, .int .u8 86, .string ⟨#[]⟩] 41); (try simp only [World.size_alloc] at h); exact h)))
  clear hb6
  have lt_p : w2.heap.size < w6.heap.size := lt_of_heap K_p.out
  obtain ⟨p_0, p_1, p_2, fp_0, fp_1, fp_2⟩ := three_cells K_p.out
  have lt_p2 : w3.heap.size < w6.heap.size := lt_of_heap K_p2.out
  obtain ⟨p2_0, p2_1, p2_2, fp2_0, fp2_1, fp2_2⟩ := three_cells K_p2.out
  have lt_p3 : w4.heap.size < w6.heap.size := lt_of_heap K_p3.out
  obtain ⟨p3_0, p3_1, p3_2, fp3_0, fp3_1, fp3_2⟩ := three_cells K_p3.out
  have lt_g : w5.heap.size < w6.heap.size := lt_of_heap K_g.out
  obtain ⟨⟨g_0, g_1, g_2, g_3⟩, fg_0, fg_1, fg_2, fg_3⟩ := four_cells K_g.out
  have lt_e : g0 < w6.heap.size := by omega
  go_wp2
  go_ret
  exact ⟨rfl, below_al hB6 _⟩

end Go.Proofs.YtfafmanjgillcaaDoor
