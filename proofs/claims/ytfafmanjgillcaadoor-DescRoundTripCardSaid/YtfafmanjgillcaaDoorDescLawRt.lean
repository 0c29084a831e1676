/- Layer 4: DescRoundTrip, the walk. -/
import Derived.Test.YtfafmanjgillcaaDoorDescRound
namespace Go.Proofs.YtfafmanjgillcaaDoor
open Go.ChangeShapes Go.WideShapes Go.ChangeAt Go.RowKit Go.PlainAid
set_option linter.unusedSimpArgs false
set_option linter.unusedVariables false

theorem fmt_ok {d b : Int} {n : ByteArray} (hv : validB d b n = true) (hn : n.size ≤ 500) (w : World) : Calls Tryd.prog 30 #[.agg #[.int .i64 d, .int .u8 b, .string n]] w fun e w' => e = .returned (.tuple #[.string (txt d b n), .int .i64 0]) ∧ Below w.heap.size w w' := by
  have h := fmt_any d b n (by omega) w
  rw [(fm_ok hv).1, (fm_ok hv).2] at h
  exact h
theorem parse_txt {d b : Int} {n : ByteArray} (hv : validB d b n = true) (hn : n.size ≤ 500) (w : World) : Calls Tryd.prog 42 #[.string (txt d b n)] w fun e w' => e = .returned (.tuple #[.agg #[.int .i64 d, .int .u8 b, .string n], .int .i64 0]) ∧ Below w.heap.size w w' := by
  have h := parse_any (txt d b n) (by have := txt_size hv; omega) w
  have g := pa_of hv
  rw [g.1, g.2.1, g.2.2.1, g.2.2.2] at h
  exact h
theorem valid_ok {d b : Int} {n : ByteArray} (hv : validB d b n = true) (hn : n.size ≤ 500) (w : World) : Calls Tryd.prog 38 #[.agg #[.int .i64 d, .int .u8 b, .string n]] w fun e w' => e = .returned (.bool true) ∧ Below w.heap.size w w' := by
  have h := valid_any d b n w
  rw [hv] at h
  exact h
theorem fcc_ok {d b : Int} {n : ByteArray} (hv : validB d b n = true) (hn : n.size ≤ 500) (w : World) (h0 : fcE d b n = 0) : Calls Tryd.prog 36 #[.agg #[.int .i64 d, .int .u8 b, .string n]] w fun e w' => e = .returned (.tuple #[.string (fcS d b n), .int .i64 0]) ∧ Below w.heap.size w w' := by
  have h := fcc_any d b n (by omega) w
  rw [h0] at h
  exact h
theorem fcc_no {d b : Int} {n : ByteArray} (hv : validB d b n = true) (hn : n.size ≤ 500) (w : World) (h0 : ¬ fcE d b n = 0) : Calls Tryd.prog 36 #[.agg #[.int .i64 d, .int .u8 b, .string n]] w fun e w' => e = .returned (.tuple #[.string (fcS d b n), .int .i64 1]) ∧ Below w.heap.size w w' := by
  have h := fcc_any d b n (by omega) w
  have h1 : fcE d b n = 1 := by
    unfold fcE at h0 ⊢
    rw [if_pos hv] at h0 ⊢
    split at h0
    · exact absurd rfl h0
    · next h => rw [if_neg h]
  rw [h1] at h
  exact h
theorem fc_size {d b : Int} {n : ByteArray} (hv : validB d b n = true) (hn : n.size ≤ 500) : (fcS d b n).size ≤ 510 := by
  have := txt_size hv
  unfold fcS
  rw [if_pos hv]
  split
  · omega
  · split
    · omega
    · exact Nat.zero_le _
theorem pcc_txt {d b : Int} {n : ByteArray} (hv : validB d b n = true) (hn : n.size ≤ 500) (w : World) (h0 : fcE d b n = 0) : Calls Tryd.prog 44 #[.string (fcS d b n)] w fun e w' => e = .returned (.tuple #[.agg #[.int .i64 d, .int .u8 b, .string n], .int .i64 0]) ∧ Below w.heap.size w w' := by
  have h := pcc_any (fcS d b n) (by have := fc_size hv hn; omega) w
  have g := pc_of h0
  rw [g.1, g.2.1, g.2.2.1, g.2.2.2] at h
  exact h
theorem arr_ok {d b : Int} {n : ByteArray} (hv : validB d b n = true) (hn : n.size ≤ 500) (w : World) (h0 : arE d b n = 0) : Calls Tryd.prog 34 #[.agg #[.int .i64 d, .int .u8 b, .string n]] w fun e w' => e = .returned (.tuple #[.agg #[.int .i64 (d + 1), .int .u8 b, .string n], .int .i64 0]) ∧ Below w.heap.size w w' := by
  have h := arr_any d b n w
  rw [show arV d b n = .agg #[.int .i64 (d + 1), .int .u8 b, .string n] by unfold arV; rw [if_pos h0], h0] at h
  exact h
theorem arr_no {d b : Int} {n : ByteArray} (hv : validB d b n = true) (hn : n.size ≤ 500) (w : World) (h0 : ¬ arE d b n = 0) : Calls Tryd.prog 34 #[.agg #[.int .i64 d, .int .u8 b, .string n]] w fun e w' => e = .returned (.tuple #[.agg #[.int .i64 0, .int .u8 0, .string ⟨#[]⟩], .int .i64 (arE d b n)]) ∧ Below w.heap.size w w' := by
  have h := arr_any d b n w
  rw [show arV d b n = .agg #[.int .i64 0, .int .u8 0, .string ⟨#[]⟩] by unfold arV; rw [if_neg h0]] at h
  exact h
theorem elem_up {d b : Int} {n : ByteArray} (hv : validB d b n = true) (hn : n.size ≤ 500) (w : World) (h0 : arE d b n = 0) : Calls Tryd.prog 32 #[.agg #[.int .i64 (d + 1), .int .u8 b, .string n]] w fun e w' => e = .returned (.tuple #[.agg #[.int .i64 d, .int .u8 b, .string n], .int .i64 0]) ∧ Below w.heap.size w w' := by
  have hd := valid_bd hv
  have hb := valid_base hv
  have hx : ¬ b = 86 ∧ ¬ d = 8 := by
    unfold arE at h0
    rw [if_pos hv] at h0
    constructor
    · intro e; rw [if_pos e] at h0; cases h0
    · intro e
      by_cases hb : b = 86
      · rw [if_pos hb] at h0; cases h0
      · rw [if_neg hb, if_pos e] at h0; cases h0
  have hv' : validB (d + 1) b n = true := by
    have h := hv
    rw [valid_in hd] at h
    rw [valid_in (by omega)]
    by_cases h1 : b = 73 ∨ b = 74
    · rw [if_pos h1] at h ⊢; exact h
    · rw [if_neg h1, if_pos (by omega)] at h ⊢; exact h
  have he : elE (d + 1) b n = 0 := by unfold elE; rw [if_pos hv', if_neg (by omega)]
  have h := elem_any (d + 1) b n w
  rw [show elV (d + 1) b n = .agg #[.int .i64 d, .int .u8 b, .string n] by unfold elV; rw [if_pos he, Int.add_sub_cancel], he] at h
  exact h

set_option maxRecDepth 100000 in
set_option maxHeartbeats 2000000 in
theorem round_11 (d b : Int) (n : ByteArray) (hn : n.size ≤ 500) (hv : validB d b n = true) (hfc : fcE d b n = 0) (har : arE d b n = 0) (w : World) : Calls Tryd.prog 12 #[.agg #[.int .i64 d, .int .u8 b, .string n]] w fun e w' => e = .returned (.bool true) ∧ Below w.heap.size w w' := by
  go_enter Tryd.func12, Tryd.ntmps12
  go_wp2_with fail
  refine (fmt_ok hv hn _).mono ?_
  rintro e w1 ⟨rfl, hb1⟩
  have z1 := hb1.size
  simp only [World.size_alloc] at z1
  have hB1 : Below w.heap.size w w1 := below_on (w := w) ((below_al (Below.refl w.heap.size w) _)) hb1
  have K_t : Hid (w1.heap[w.heap.size]? = some (.cells #[.int .i64 d, .int .u8 b, .string n] 30)) := Lib.hid ((hb1.block (w.heap.size) (by (try simp only [World.size_alloc]); omega)).trans ((by have h := World.alloc_heap_new w (.cells #[.int .i64 d, .int .u8 b, .string n] 30); (try simp only [World.size_alloc] at h); exact h)))
  clear hb1
  have lt_t1 : w.heap.size < w1.heap.size := lt_of_heap K_t.out
  obtain ⟨t_01, t_11, t_21, ft_01, ft_11, ft_21⟩ := three_cells K_t.out
  go_wp2_with fail
  refine (parse_txt hv hn _).mono ?_
  rintro e w2 ⟨rfl, hb2⟩
  have z2 := hb2.size
  have hB2 : Below w.heap.size w w2 := below_on (w := w) (hB1) hb2
  replace K_t := Lib.hid ((hb2.block w.heap.size (by (try simp only [World.size_alloc]); have := lt_of_heap K_t.out; omega)).trans (K_t.out))
  clear hb2
  have lt_t2 : w.heap.size < w2.heap.size := lt_of_heap K_t.out
  obtain ⟨t_02, t_12, t_22, ft_02, ft_12, ft_22⟩ := three_cells K_t.out
  go_wp2_with fail
  refine (valid_ok hv hn _).mono ?_
  rintro e w3 ⟨rfl, hb3⟩
  have z3 := hb3.size
  simp only [World.size_alloc] at z3
  have hB3 : Below w.heap.size w w3 := below_on (w := w) ((below_al hB2 _)) hb3
  replace K_t := Lib.hid ((hb3.block w.heap.size (by (try simp only [World.size_alloc]); have := lt_of_heap K_t.out; omega)).trans (((Below.heap_alloc _ _ _ (by (try simp only [World.size_alloc]); have := lt_of_heap K_t.out; omega)).trans (K_t.out))))
  have K_a : Hid (w3.heap[w2.heap.size]? = some (.cells #[.int .i64 d, .int .u8 b, .string n] 30)) := Lib.hid ((hb3.block (w2.heap.size) (by (try simp only [World.size_alloc]); omega)).trans ((by have h := World.alloc_heap_new w2 (.cells #[.int .i64 d, .int .u8 b, .string n] 30); (try simp only [World.size_alloc] at h); exact h)))
  clear hb3
  have lt_t3 : w.heap.size < w3.heap.size := lt_of_heap K_t.out
  obtain ⟨t_03, t_13, t_23, ft_03, ft_13, ft_23⟩ := three_cells K_t.out
  have lt_a3 : w2.heap.size < w3.heap.size := lt_of_heap K_a.out
  obtain ⟨a_03, a_13, a_23, fa_03, fa_13, fa_23⟩ := three_cells K_a.out
  go_wp2_with fail
  refine (fcc_ok hv hn _ hfc).mono ?_
  rintro e w4 ⟨rfl, hb4⟩
  have z4 := hb4.size
  have hB4 : Below w.heap.size w w4 := below_on (w := w) (hB3) hb4
  replace K_t := Lib.hid ((hb4.block w.heap.size (by (try simp only [World.size_alloc]); have := lt_of_heap K_t.out; omega)).trans (K_t.out))
  replace K_a := Lib.hid ((hb4.block w2.heap.size (by (try simp only [World.size_alloc]); have := lt_of_heap K_a.out; omega)).trans (K_a.out))
  clear hb4
  have lt_t4 : w.heap.size < w4.heap.size := lt_of_heap K_t.out
  obtain ⟨t_04, t_14, t_24, ft_04, ft_14, ft_24⟩ := three_cells K_t.out
  have lt_a4 : w2.heap.size < w4.heap.size := lt_of_heap K_a.out
  obtain ⟨a_04, a_14, a_24, fa_04, fa_14, fa_24⟩ := three_cells K_a.out
  go_wp2_with fail
  refine (pcc_txt hv hn _ hfc).mono ?_
  rintro e w5 ⟨rfl, hb5⟩
  have z5 := hb5.size
  have hB5 : Below w.heap.size w w5 := below_on (w := w) (hB4) hb5
  replace K_t := Lib.hid ((hb5.block w.heap.size (by (try simp only [World.size_alloc]); have := lt_of_heap K_t.out; omega)).trans (K_t.out))
  replace K_a := Lib.hid ((hb5.block w2.heap.size (by (try simp only [World.size_alloc]); have := lt_of_heap K_a.out; omega)).trans (K_a.out))
  clear hb5
  have lt_t5 : w.heap.size < w5.heap.size := lt_of_heap K_t.out
  obtain ⟨t_05, t_15, t_25, ft_05, ft_15, ft_25⟩ := three_cells K_t.out
  have lt_a5 : w2.heap.size < w5.heap.size := lt_of_heap K_a.out
  obtain ⟨a_05, a_15, a_25, fa_05, fa_15, fa_25⟩ := three_cells K_a.out
  go_wp2_with fail
  refine (arr_ok hv hn _ har).mono ?_
  rintro e w6 ⟨rfl, hb6⟩
  have z6 := hb6.size
  simp only [World.size_alloc] at z6
  have hB6 : Below w.heap.size w w6 := below_on (w := w) ((below_al hB5 _)) hb6
  replace K_t := Lib.hid ((hb6.block w.heap.size (by (try simp only [World.size_alloc]); have := lt_of_heap K_t.out; omega)).trans (((Below.heap_alloc _ _ _ (by (try simp only [World.size_alloc]); have := lt_of_heap K_t.out; omega)).trans (K_t.out))))
  replace K_a := Lib.hid ((hb6.block w2.heap.size (by (try simp only [World.size_alloc]); have := lt_of_heap K_a.out; omega)).trans (((Below.heap_alloc _ _ _ (by (try simp only [World.size_alloc]); have := lt_of_heap K_a.out; omega)).trans (K_a.out))))
  have K_x : Hid (w6.heap[w5.heap.size]? = some (.cells #[.int .i64 d, .int .u8 b, .string n] 30)) := Lib.hid ((hb6.block (w5.heap.size) (by (try simp only [World.size_alloc]); omega)).trans ((by have h := World.alloc_heap_new w5 (.cells #[.int .i64 d, .int .u8 b, .string n] 30); (try simp only [World.size_alloc] at h); exact h)))
  clear hb6
  have lt_t6 : w.heap.size < w6.heap.size := lt_of_heap K_t.out
  obtain ⟨t_06, t_16, t_26, ft_06, ft_16, ft_26⟩ := three_cells K_t.out
  have lt_a6 : w2.heap.size < w6.heap.size := lt_of_heap K_a.out
  obtain ⟨a_06, a_16, a_26, fa_06, fa_16, fa_26⟩ := three_cells K_a.out
  have lt_x6 : w5.heap.size < w6.heap.size := lt_of_heap K_x.out
  obtain ⟨x_06, x_16, x_26, fx_06, fx_16, fx_26⟩ := three_cells K_x.out
  go_wp2_with fail
  refine (elem_up hv hn _ har).mono ?_
  rintro e w7 ⟨rfl, hb7⟩
  have z7 := hb7.size
  simp only [World.size_alloc] at z7
  have hB7 : Below w.heap.size w w7 := below_on (w := w) ((below_al hB6 _)) hb7
  replace K_t := Lib.hid ((hb7.block w.heap.size (by (try simp only [World.size_alloc]); have := lt_of_heap K_t.out; omega)).trans (((Below.heap_alloc _ _ _ (by (try simp only [World.size_alloc]); have := lt_of_heap K_t.out; omega)).trans (K_t.out))))
  replace K_a := Lib.hid ((hb7.block w2.heap.size (by (try simp only [World.size_alloc]); have := lt_of_heap K_a.out; omega)).trans (((Below.heap_alloc _ _ _ (by (try simp only [World.size_alloc]); have := lt_of_heap K_a.out; omega)).trans (K_a.out))))
  replace K_x := Lib.hid ((hb7.block w5.heap.size (by (try simp only [World.size_alloc]); have := lt_of_heap K_x.out; omega)).trans (((Below.heap_alloc _ _ _ (by (try simp only [World.size_alloc]); have := lt_of_heap K_x.out; omega)).trans (K_x.out))))
  have K_u : Hid (w7.heap[w6.heap.size]? = some (.cells #[.int .i64 (d + 1), .int .u8 b, .string n] 30)) := Lib.hid ((hb7.block (w6.heap.size) (by (try simp only [World.size_alloc]); omega)).trans ((by have h := World.alloc_heap_new w6 (.cells #[.int .i64 (d + 1), .int .u8 b, .string n] 30); (try simp only [World.size_alloc] at h); exact h)))
  clear hb7
  have lt_t7 : w.heap.size < w7.heap.size := lt_of_heap K_t.out
  obtain ⟨t_07, t_17, t_27, ft_07, ft_17, ft_27⟩ := three_cells K_t.out
  have lt_a7 : w2.heap.size < w7.heap.size := lt_of_heap K_a.out
  obtain ⟨a_07, a_17, a_27, fa_07, fa_17, fa_27⟩ := three_cells K_a.out
  have lt_x7 : w5.heap.size < w7.heap.size := lt_of_heap K_x.out
  obtain ⟨x_07, x_17, x_27, fx_07, fx_17, fx_27⟩ := three_cells K_x.out
  have lt_u7 : w6.heap.size < w7.heap.size := lt_of_heap K_u.out
  obtain ⟨u_07, u_17, u_27, fu_07, fu_17, fu_27⟩ := three_cells K_u.out
  go_wp2_with fail
  refine (works_any _).mono ?_
  rintro e w8 ⟨rfl, hb8⟩
  have z8 := hb8.size
  simp only [World.size_alloc] at z8
  have hB8 : Below w.heap.size w w8 := below_on (w := w) ((below_al hB7 _)) hb8
  replace K_t := Lib.hid ((hb8.block w.heap.size (by (try simp only [World.size_alloc]); have := lt_of_heap K_t.out; omega)).trans (((Below.heap_alloc _ _ _ (by (try simp only [World.size_alloc]); have := lt_of_heap K_t.out; omega)).trans (K_t.out))))
  replace K_a := Lib.hid ((hb8.block w2.heap.size (by (try simp only [World.size_alloc]); have := lt_of_heap K_a.out; omega)).trans (((Below.heap_alloc _ _ _ (by (try simp only [World.size_alloc]); have := lt_of_heap K_a.out; omega)).trans (K_a.out))))
  replace K_x := Lib.hid ((hb8.block w5.heap.size (by (try simp only [World.size_alloc]); have := lt_of_heap K_x.out; omega)).trans (((Below.heap_alloc _ _ _ (by (try simp only [World.size_alloc]); have := lt_of_heap K_x.out; omega)).trans (K_x.out))))
  replace K_u := Lib.hid ((hb8.block w6.heap.size (by (try simp only [World.size_alloc]); have := lt_of_heap K_u.out; omega)).trans (((Below.heap_alloc _ _ _ (by (try simp only [World.size_alloc]); have := lt_of_heap K_u.out; omega)).trans (K_u.out))))
  have K_y : Hid (w8.heap[w7.heap.size]? = some (.cells #[.int .i64 d, .int .u8 b, .string n] 30)) := Lib.hid ((hb8.block (w7.heap.size) (by (try simp only [World.size_alloc]); omega)).trans ((by have h := World.alloc_heap_new w7 (.cells #[.int .i64 d, .int .u8 b, .string n] 30); (try simp only [World.size_alloc] at h); exact h)))
  clear hb8
  have lt_t8 : w.heap.size < w8.heap.size := lt_of_heap K_t.out
  obtain ⟨t_08, t_18, t_28, ft_08, ft_18, ft_28⟩ := three_cells K_t.out
  have lt_a8 : w2.heap.size < w8.heap.size := lt_of_heap K_a.out
  obtain ⟨a_08, a_18, a_28, fa_08, fa_18, fa_28⟩ := three_cells K_a.out
  have lt_x8 : w5.heap.size < w8.heap.size := lt_of_heap K_x.out
  obtain ⟨x_08, x_18, x_28, fx_08, fx_18, fx_28⟩ := three_cells K_x.out
  have lt_u8 : w6.heap.size < w8.heap.size := lt_of_heap K_u.out
  obtain ⟨u_08, u_18, u_28, fu_08, fu_18, fu_28⟩ := three_cells K_u.out
  have lt_y8 : w7.heap.size < w8.heap.size := lt_of_heap K_y.out
  obtain ⟨y_08, y_18, y_28, fy_08, fy_18, fy_28⟩ := three_cells K_y.out
  go_wp2
  go_ret
  exact ⟨rfl, hB8⟩

set_option maxRecDepth 100000 in
set_option maxHeartbeats 2000000 in
theorem round_10 (d b : Int) (n : ByteArray) (hn : n.size ≤ 500) (hv : validB d b n = true) (hfc : fcE d b n = 0) (har : ¬ arE d b n = 0) (w : World) : Calls Tryd.prog 12 #[.agg #[.int .i64 d, .int .u8 b, .string n]] w fun e w' => e = .returned (.bool true) ∧ Below w.heap.size w w' := by
  have hae := beqF har
  replace har := Lib.hid har
  go_enter Tryd.func12, Tryd.ntmps12
  go_wp2_with fail
  refine (fmt_ok hv hn _).mono ?_
  rintro e w1 ⟨rfl, hb1⟩
  have z1 := hb1.size
  simp only [World.size_alloc] at z1
  have hB1 : Below w.heap.size w w1 := below_on (w := w) ((below_al (Below.refl w.heap.size w) _)) hb1
  have K_t : Hid (w1.heap[w.heap.size]? = some (.cells #[.int .i64 d, .int .u8 b, .string n] 30)) := Lib.hid ((hb1.block (w.heap.size) (by (try simp only [World.size_alloc]); omega)).trans ((by have h := World.alloc_heap_new w (.cells #[.int .i64 d, .int .u8 b, .string n] 30); (try simp only [World.size_alloc] at h); exact h)))
  clear hb1
  have lt_t1 : w.heap.size < w1.heap.size := lt_of_heap K_t.out
  obtain ⟨t_01, t_11, t_21, ft_01, ft_11, ft_21⟩ := three_cells K_t.out
  go_wp2_with fail
  refine (parse_txt hv hn _).mono ?_
  rintro e w2 ⟨rfl, hb2⟩
  have z2 := hb2.size
  have hB2 : Below w.heap.size w w2 := below_on (w := w) (hB1) hb2
  replace K_t := Lib.hid ((hb2.block w.heap.size (by (try simp only [World.size_alloc]); have := lt_of_heap K_t.out; omega)).trans (K_t.out))
  clear hb2
  have lt_t2 : w.heap.size < w2.heap.size := lt_of_heap K_t.out
  obtain ⟨t_02, t_12, t_22, ft_02, ft_12, ft_22⟩ := three_cells K_t.out
  go_wp2_with fail
  refine (valid_ok hv hn _).mono ?_
  rintro e w3 ⟨rfl, hb3⟩
  have z3 := hb3.size
  simp only [World.size_alloc] at z3
  have hB3 : Below w.heap.size w w3 := below_on (w := w) ((below_al hB2 _)) hb3
  replace K_t := Lib.hid ((hb3.block w.heap.size (by (try simp only [World.size_alloc]); have := lt_of_heap K_t.out; omega)).trans (((Below.heap_alloc _ _ _ (by (try simp only [World.size_alloc]); have := lt_of_heap K_t.out; omega)).trans (K_t.out))))
  have K_a : Hid (w3.heap[w2.heap.size]? = some (.cells #[.int .i64 d, .int .u8 b, .string n] 30)) := Lib.hid ((hb3.block (w2.heap.size) (by (try simp only [World.size_alloc]); omega)).trans ((by have h := World.alloc_heap_new w2 (.cells #[.int .i64 d, .int .u8 b, .string n] 30); (try simp only [World.size_alloc] at h); exact h)))
  clear hb3
  have lt_t3 : w.heap.size < w3.heap.size := lt_of_heap K_t.out
  obtain ⟨t_03, t_13, t_23, ft_03, ft_13, ft_23⟩ := three_cells K_t.out
  have lt_a3 : w2.heap.size < w3.heap.size := lt_of_heap K_a.out
  obtain ⟨a_03, a_13, a_23, fa_03, fa_13, fa_23⟩ := three_cells K_a.out
  go_wp2_with fail
  refine (fcc_ok hv hn _ hfc).mono ?_
  rintro e w4 ⟨rfl, hb4⟩
  have z4 := hb4.size
  have hB4 : Below w.heap.size w w4 := below_on (w := w) (hB3) hb4
  replace K_t := Lib.hid ((hb4.block w.heap.size (by (try simp only [World.size_alloc]); have := lt_of_heap K_t.out; omega)).trans (K_t.out))
  replace K_a := Lib.hid ((hb4.block w2.heap.size (by (try simp only [World.size_alloc]); have := lt_of_heap K_a.out; omega)).trans (K_a.out))
  clear hb4
  have lt_t4 : w.heap.size < w4.heap.size := lt_of_heap K_t.out
  obtain ⟨t_04, t_14, t_24, ft_04, ft_14, ft_24⟩ := three_cells K_t.out
  have lt_a4 : w2.heap.size < w4.heap.size := lt_of_heap K_a.out
  obtain ⟨a_04, a_14, a_24, fa_04, fa_14, fa_24⟩ := three_cells K_a.out
  go_wp2_with fail
  refine (pcc_txt hv hn _ hfc).mono ?_
  rintro e w5 ⟨rfl, hb5⟩
  have z5 := hb5.size
  have hB5 : Below w.heap.size w w5 := below_on (w := w) (hB4) hb5
  replace K_t := Lib.hid ((hb5.block w.heap.size (by (try simp only [World.size_alloc]); have := lt_of_heap K_t.out; omega)).trans (K_t.out))
  replace K_a := Lib.hid ((hb5.block w2.heap.size (by (try simp only [World.size_alloc]); have := lt_of_heap K_a.out; omega)).trans (K_a.out))
  clear hb5
  have lt_t5 : w.heap.size < w5.heap.size := lt_of_heap K_t.out
  obtain ⟨t_05, t_15, t_25, ft_05, ft_15, ft_25⟩ := three_cells K_t.out
  have lt_a5 : w2.heap.size < w5.heap.size := lt_of_heap K_a.out
  obtain ⟨a_05, a_15, a_25, fa_05, fa_15, fa_25⟩ := three_cells K_a.out
  go_wp2_with fail
  refine (arr_no hv hn _ har.out).mono ?_
  rintro e w6 ⟨rfl, hb6⟩
  have z6 := hb6.size
  simp only [World.size_alloc] at z6
  have hB6 : Below w.heap.size w w6 := below_on (w := w) ((below_al hB5 _)) hb6
  replace K_t := Lib.hid ((hb6.block w.heap.size (by (try simp only [World.size_alloc]); have := lt_of_heap K_t.out; omega)).trans (((Below.heap_alloc _ _ _ (by (try simp only [World.size_alloc]); have := lt_of_heap K_t.out; omega)).trans (K_t.out))))
  replace K_a := Lib.hid ((hb6.block w2.heap.size (by (try simp only [World.size_alloc]); have := lt_of_heap K_a.out; omega)).trans (((Below.heap_alloc _ _ _ (by (try simp only [World.size_alloc]); have := lt_of_heap K_a.out; omega)).trans (K_a.out))))
  have K_x : Hid (w6.heap[w5.heap.size]? = some (.cells #[.int .i64 d, .int .u8 b, .string n] 30)) := Lib.hid ((hb6.block (w5.heap.size) (by (try simp only [World.size_alloc]); omega)).trans ((by have h := World.alloc_heap_new w5 (.cells #[.int .i64 d, .int .u8 b, .string n] 30); (try simp only [World.size_alloc] at h); exact h)))
  clear hb6
  have lt_t6 : w.heap.size < w6.heap.size := lt_of_heap K_t.out
  obtain ⟨t_06, t_16, t_26, ft_06, ft_16, ft_26⟩ := three_cells K_t.out
  have lt_a6 : w2.heap.size < w6.heap.size := lt_of_heap K_a.out
  obtain ⟨a_06, a_16, a_26, fa_06, fa_16, fa_26⟩ := three_cells K_a.out
  have lt_x6 : w5.heap.size < w6.heap.size := lt_of_heap K_x.out
  obtain ⟨x_06, x_16, x_26, fx_06, fx_16, fx_26⟩ := three_cells K_x.out
  go_wp2_with fail
  refine (works_any _).mono ?_
  rintro e w7 ⟨rfl, hb7⟩
  have z7 := hb7.size
  simp only [World.size_alloc] at z7
  have hB7 : Below w.heap.size w w7 := below_on (w := w) ((below_al hB6 _)) hb7
  replace K_t := Lib.hid ((hb7.block w.heap.size (by (try simp only [World.size_alloc]); have := lt_of_heap K_t.out; omega)).trans (((Below.heap_alloc _ _ _ (by (try simp only [World.size_alloc]); have := lt_of_heap K_t.out; omega)).trans (K_t.out))))
  replace K_a := Lib.hid ((hb7.block w2.heap.size (by (try simp only [World.size_alloc]); have := lt_of_heap K_a.out; omega)).trans (((Below.heap_alloc _ _ _ (by (try simp only [World.size_alloc]); have := lt_of_heap K_a.out; omega)).trans (K_a.out))))
  replace K_x := Lib.hid ((hb7.block w5.heap.size (by (try simp only [World.size_alloc]); have := lt_of_heap K_x.out; omega)).trans (((Below.heap_alloc _ _ _ (by (try simp only [World.size_alloc]); have := lt_of_heap K_x.out; omega)).trans (K_x.out))))
  have K_u : Hid (w7.heap[w6.heap.size]? = some (.cells #[.int .i64 0, .int .u8 0, .string ⟨#[]⟩] 30)) := Lib.hid ((hb7.block (w6.heap.size) (by (try simp only [World.size_alloc]); omega)).trans ((by have h := World.alloc_heap_new w6 (.cells #[.int .i64 0, .int .u8 0, .string ⟨#[]⟩] 30); (try simp only [World.size_alloc] at h); exact h)))
  clear hb7
  have lt_t7 : w.heap.size < w7.heap.size := lt_of_heap K_t.out
  obtain ⟨t_07, t_17, t_27, ft_07, ft_17, ft_27⟩ := three_cells K_t.out
  have lt_a7 : w2.heap.size < w7.heap.size := lt_of_heap K_a.out
  obtain ⟨a_07, a_17, a_27, fa_07, fa_17, fa_27⟩ := three_cells K_a.out
  have lt_x7 : w5.heap.size < w7.heap.size := lt_of_heap K_x.out
  obtain ⟨x_07, x_17, x_27, fx_07, fx_17, fx_27⟩ := three_cells K_x.out
  have lt_u7 : w6.heap.size < w7.heap.size := lt_of_heap K_u.out
  obtain ⟨u_07, u_17, u_27, fu_07, fu_17, fu_27⟩ := three_cells K_u.out
  go_wp2
  go_ret
  exact ⟨rfl, hB7⟩

set_option maxRecDepth 100000 in
set_option maxHeartbeats 2000000 in
theorem round_01 (d b : Int) (n : ByteArray) (hn : n.size ≤ 500) (hv : validB d b n = true) (hfc : ¬ fcE d b n = 0) (har : arE d b n = 0) (w : World) : Calls Tryd.prog 12 #[.agg #[.int .i64 d, .int .u8 b, .string n]] w fun e w' => e = .returned (.bool true) ∧ Below w.heap.size w w' := by
  go_enter Tryd.func12, Tryd.ntmps12
  go_wp2_with fail
  refine (fmt_ok hv hn _).mono ?_
  rintro e w1 ⟨rfl, hb1⟩
  have z1 := hb1.size
  simp only [World.size_alloc] at z1
  have hB1 : Below w.heap.size w w1 := below_on (w := w) ((below_al (Below.refl w.heap.size w) _)) hb1
  have K_t : Hid (w1.heap[w.heap.size]? = some (.cells #[.int .i64 d, .int .u8 b, .string n] 30)) := Lib.hid ((hb1.block (w.heap.size) (by (try simp only [World.size_alloc]); omega)).trans ((by have h := World.alloc_heap_new w (.cells #[.int .i64 d, .int .u8 b, .string n] 30); (try simp only [World.size_alloc] at h); exact h)))
  clear hb1
  have lt_t1 : w.heap.size < w1.heap.size := lt_of_heap K_t.out
  obtain ⟨t_01, t_11, t_21, ft_01, ft_11, ft_21⟩ := three_cells K_t.out
  go_wp2_with fail
  refine (parse_txt hv hn _).mono ?_
  rintro e w2 ⟨rfl, hb2⟩
  have z2 := hb2.size
  have hB2 : Below w.heap.size w w2 := below_on (w := w) (hB1) hb2
  replace K_t := Lib.hid ((hb2.block w.heap.size (by (try simp only [World.size_alloc]); have := lt_of_heap K_t.out; omega)).trans (K_t.out))
  clear hb2
  have lt_t2 : w.heap.size < w2.heap.size := lt_of_heap K_t.out
  obtain ⟨t_02, t_12, t_22, ft_02, ft_12, ft_22⟩ := three_cells K_t.out
  go_wp2_with fail
  refine (valid_ok hv hn _).mono ?_
  rintro e w3 ⟨rfl, hb3⟩
  have z3 := hb3.size
  simp only [World.size_alloc] at z3
  have hB3 : Below w.heap.size w w3 := below_on (w := w) ((below_al hB2 _)) hb3
  replace K_t := Lib.hid ((hb3.block w.heap.size (by (try simp only [World.size_alloc]); have := lt_of_heap K_t.out; omega)).trans (((Below.heap_alloc _ _ _ (by (try simp only [World.size_alloc]); have := lt_of_heap K_t.out; omega)).trans (K_t.out))))
  have K_a : Hid (w3.heap[w2.heap.size]? = some (.cells #[.int .i64 d, .int .u8 b, .string n] 30)) := Lib.hid ((hb3.block (w2.heap.size) (by (try simp only [World.size_alloc]); omega)).trans ((by have h := World.alloc_heap_new w2 (.cells #[.int .i64 d, .int .u8 b, .string n] 30); (try simp only [World.size_alloc] at h); exact h)))
  clear hb3
  have lt_t3 : w.heap.size < w3.heap.size := lt_of_heap K_t.out
  obtain ⟨t_03, t_13, t_23, ft_03, ft_13, ft_23⟩ := three_cells K_t.out
  have lt_a3 : w2.heap.size < w3.heap.size := lt_of_heap K_a.out
  obtain ⟨a_03, a_13, a_23, fa_03, fa_13, fa_23⟩ := three_cells K_a.out
  go_wp2_with fail
  refine (fcc_no hv hn _ hfc).mono ?_
  rintro e w4 ⟨rfl, hb4⟩
  have z4 := hb4.size
  have hB4 : Below w.heap.size w w4 := below_on (w := w) (hB3) hb4
  replace K_t := Lib.hid ((hb4.block w.heap.size (by (try simp only [World.size_alloc]); have := lt_of_heap K_t.out; omega)).trans (K_t.out))
  replace K_a := Lib.hid ((hb4.block w2.heap.size (by (try simp only [World.size_alloc]); have := lt_of_heap K_a.out; omega)).trans (K_a.out))
  clear hb4
  have lt_t4 : w.heap.size < w4.heap.size := lt_of_heap K_t.out
  obtain ⟨t_04, t_14, t_24, ft_04, ft_14, ft_24⟩ := three_cells K_t.out
  have lt_a4 : w2.heap.size < w4.heap.size := lt_of_heap K_a.out
  obtain ⟨a_04, a_14, a_24, fa_04, fa_14, fa_24⟩ := three_cells K_a.out
  go_wp2_with fail
  refine (arr_ok hv hn _ har).mono ?_
  rintro e w5 ⟨rfl, hb5⟩
  have z5 := hb5.size
  have hB5 : Below w.heap.size w w5 := below_on (w := w) (hB4) hb5
  replace K_t := Lib.hid ((hb5.block w.heap.size (by (try simp only [World.size_alloc]); have := lt_of_heap K_t.out; omega)).trans (K_t.out))
  replace K_a := Lib.hid ((hb5.block w2.heap.size (by (try simp only [World.size_alloc]); have := lt_of_heap K_a.out; omega)).trans (K_a.out))
  clear hb5
  have lt_t5 : w.heap.size < w5.heap.size := lt_of_heap K_t.out
  obtain ⟨t_05, t_15, t_25, ft_05, ft_15, ft_25⟩ := three_cells K_t.out
  have lt_a5 : w2.heap.size < w5.heap.size := lt_of_heap K_a.out
  obtain ⟨a_05, a_15, a_25, fa_05, fa_15, fa_25⟩ := three_cells K_a.out
  go_wp2_with fail
  refine (elem_up hv hn _ har).mono ?_
  rintro e w6 ⟨rfl, hb6⟩
  have z6 := hb6.size
  simp only [World.size_alloc] at z6
  have hB6 : Below w.heap.size w w6 := below_on (w := w) ((below_al hB5 _)) hb6
  replace K_t := Lib.hid ((hb6.block w.heap.size (by (try simp only [World.size_alloc]); have := lt_of_heap K_t.out; omega)).trans (((Below.heap_alloc _ _ _ (by (try simp only [World.size_alloc]); have := lt_of_heap K_t.out; omega)).trans (K_t.out))))
  replace K_a := Lib.hid ((hb6.block w2.heap.size (by (try simp only [World.size_alloc]); have := lt_of_heap K_a.out; omega)).trans (((Below.heap_alloc _ _ _ (by (try simp only [World.size_alloc]); have := lt_of_heap K_a.out; omega)).trans (K_a.out))))
  have K_u : Hid (w6.heap[w5.heap.size]? = some (.cells #[.int .i64 (d + 1), .int .u8 b, .string n] 30)) := Lib.hid ((hb6.block (w5.heap.size) (by (try simp only [World.size_alloc]); omega)).trans ((by have h := World.alloc_heap_new w5 (.cells #[.int .i64 (d + 1), .int .u8 b, .string n] 30); (try simp only [World.size_alloc] at h); exact h)))
  clear hb6
  have lt_t6 : w.heap.size < w6.heap.size := lt_of_heap K_t.out
  obtain ⟨t_06, t_16, t_26, ft_06, ft_16, ft_26⟩ := three_cells K_t.out
  have lt_a6 : w2.heap.size < w6.heap.size := lt_of_heap K_a.out
  obtain ⟨a_06, a_16, a_26, fa_06, fa_16, fa_26⟩ := three_cells K_a.out
  have lt_u6 : w5.heap.size < w6.heap.size := lt_of_heap K_u.out
  obtain ⟨u_06, u_16, u_26, fu_06, fu_16, fu_26⟩ := three_cells K_u.out
  go_wp2_with fail
  refine (works_any _).mono ?_
  rintro e w7 ⟨rfl, hb7⟩
  have z7 := hb7.size
  simp only [World.size_alloc] at z7
  have hB7 : Below w.heap.size w w7 := below_on (w := w) ((below_al hB6 _)) hb7
  replace K_t := Lib.hid ((hb7.block w.heap.size (by (try simp only [World.size_alloc]); have := lt_of_heap K_t.out; omega)).trans (((Below.heap_alloc _ _ _ (by (try simp only [World.size_alloc]); have := lt_of_heap K_t.out; omega)).trans (K_t.out))))
  replace K_a := Lib.hid ((hb7.block w2.heap.size (by (try simp only [World.size_alloc]); have := lt_of_heap K_a.out; omega)).trans (((Below.heap_alloc _ _ _ (by (try simp only [World.size_alloc]); have := lt_of_heap K_a.out; omega)).trans (K_a.out))))
  replace K_u := Lib.hid ((hb7.block w5.heap.size (by (try simp only [World.size_alloc]); have := lt_of_heap K_u.out; omega)).trans (((Below.heap_alloc _ _ _ (by (try simp only [World.size_alloc]); have := lt_of_heap K_u.out; omega)).trans (K_u.out))))
  have K_y : Hid (w7.heap[w6.heap.size]? = some (.cells #[.int .i64 d, .int .u8 b, .string n] 30)) := Lib.hid ((hb7.block (w6.heap.size) (by (try simp only [World.size_alloc]); omega)).trans ((by have h := World.alloc_heap_new w6 (.cells #[.int .i64 d, .int .u8 b, .string n] 30); (try simp only [World.size_alloc] at h); exact h)))
  clear hb7
  have lt_t7 : w.heap.size < w7.heap.size := lt_of_heap K_t.out
  obtain ⟨t_07, t_17, t_27, ft_07, ft_17, ft_27⟩ := three_cells K_t.out
  have lt_a7 : w2.heap.size < w7.heap.size := lt_of_heap K_a.out
  obtain ⟨a_07, a_17, a_27, fa_07, fa_17, fa_27⟩ := three_cells K_a.out
  have lt_u7 : w5.heap.size < w7.heap.size := lt_of_heap K_u.out
  obtain ⟨u_07, u_17, u_27, fu_07, fu_17, fu_27⟩ := three_cells K_u.out
  have lt_y7 : w6.heap.size < w7.heap.size := lt_of_heap K_y.out
  obtain ⟨y_07, y_17, y_27, fy_07, fy_17, fy_27⟩ := three_cells K_y.out
  go_wp2
  go_ret
  exact ⟨rfl, hB7⟩

set_option maxRecDepth 100000 in
set_option maxHeartbeats 2000000 in
theorem round_00 (d b : Int) (n : ByteArray) (hn : n.size ≤ 500) (hv : validB d b n = true) (hfc : ¬ fcE d b n = 0) (har : ¬ arE d b n = 0) (w : World) : Calls Tryd.prog 12 #[.agg #[.int .i64 d, .int .u8 b, .string n]] w fun e w' => e = .returned (.bool true) ∧ Below w.heap.size w w' := by
  have hae := beqF har
  replace har := Lib.hid har
  go_enter Tryd.func12, Tryd.ntmps12
  go_wp2_with fail
  refine (fmt_ok hv hn _).mono ?_
  rintro e w1 ⟨rfl, hb1⟩
  have z1 := hb1.size
  simp only [World.size_alloc] at z1
  have hB1 : Below w.heap.size w w1 := below_on (w := w) ((below_al (Below.refl w.heap.size w) _)) hb1
  have K_t : Hid (w1.heap[w.heap.size]? = some (.cells #[.int .i64 d, .int .u8 b, .string n] 30)) := Lib.hid ((hb1.block (w.heap.size) (by (try simp only [World.size_alloc]); omega)).trans ((by have h := World.alloc_heap_new w (.cells #[.int .i64 d, .int .u8 b, .string n] 30); (try simp only [World.size_alloc] at h); exact h)))
  clear hb1
  have lt_t1 : w.heap.size < w1.heap.size := lt_of_heap K_t.out
  obtain ⟨t_01, t_11, t_21, ft_01, ft_11, ft_21⟩ := three_cells K_t.out
  go_wp2_with fail
  refine (parse_txt hv hn _).mono ?_
  rintro e w2 ⟨rfl, hb2⟩
  have z2 := hb2.size
  have hB2 : Below w.heap.size w w2 := below_on (w := w) (hB1) hb2
  replace K_t := Lib.hid ((hb2.block w.heap.size (by (try simp only [World.size_alloc]); have := lt_of_heap K_t.out; omega)).trans (K_t.out))
  clear hb2
  have lt_t2 : w.heap.size < w2.heap.size := lt_of_heap K_t.out
  obtain ⟨t_02, t_12, t_22, ft_02, ft_12, ft_22⟩ := three_cells K_t.out
  go_wp2_with fail
  refine (valid_ok hv hn _).mono ?_
  rintro e w3 ⟨rfl, hb3⟩
  have z3 := hb3.size
  simp only [World.size_alloc] at z3
  have hB3 : Below w.heap.size w w3 := below_on (w := w) ((below_al hB2 _)) hb3
  replace K_t := Lib.hid ((hb3.block w.heap.size (by (try simp only [World.size_alloc]); have := lt_of_heap K_t.out; omega)).trans (((Below.heap_alloc _ _ _ (by (try simp only [World.size_alloc]); have := lt_of_heap K_t.out; omega)).trans (K_t.out))))
  have K_a : Hid (w3.heap[w2.heap.size]? = some (.cells #[.int .i64 d, .int .u8 b, .string n] 30)) := Lib.hid ((hb3.block (w2.heap.size) (by (try simp only [World.size_alloc]); omega)).trans ((by have h := World.alloc_heap_new w2 (.cells #[.int .i64 d, .int .u8 b, .string n] 30); (try simp only [World.size_alloc] at h); exact h)))
  clear hb3
  have lt_t3 : w.heap.size < w3.heap.size := lt_of_heap K_t.out
  obtain ⟨t_03, t_13, t_23, ft_03, ft_13, ft_23⟩ := three_cells K_t.out
  have lt_a3 : w2.heap.size < w3.heap.size := lt_of_heap K_a.out
  obtain ⟨a_03, a_13, a_23, fa_03, fa_13, fa_23⟩ := three_cells K_a.out
  go_wp2_with fail
  refine (fcc_no hv hn _ hfc).mono ?_
  rintro e w4 ⟨rfl, hb4⟩
  have z4 := hb4.size
  have hB4 : Below w.heap.size w w4 := below_on (w := w) (hB3) hb4
  replace K_t := Lib.hid ((hb4.block w.heap.size (by (try simp only [World.size_alloc]); have := lt_of_heap K_t.out; omega)).trans (K_t.out))
  replace K_a := Lib.hid ((hb4.block w2.heap.size (by (try simp only [World.size_alloc]); have := lt_of_heap K_a.out; omega)).trans (K_a.out))
  clear hb4
  have lt_t4 : w.heap.size < w4.heap.size := lt_of_heap K_t.out
  obtain ⟨t_04, t_14, t_24, ft_04, ft_14, ft_24⟩ := three_cells K_t.out
  have lt_a4 : w2.heap.size < w4.heap.size := lt_of_heap K_a.out
  obtain ⟨a_04, a_14, a_24, fa_04, fa_14, fa_24⟩ := three_cells K_a.out
  go_wp2_with fail
  refine (arr_no hv hn _ har.out).mono ?_
  rintro e w5 ⟨rfl, hb5⟩
  have z5 := hb5.size
  have hB5 : Below w.heap.size w w5 := below_on (w := w) (hB4) hb5
  replace K_t := Lib.hid ((hb5.block w.heap.size (by (try simp only [World.size_alloc]); have := lt_of_heap K_t.out; omega)).trans (K_t.out))
  replace K_a := Lib.hid ((hb5.block w2.heap.size (by (try simp only [World.size_alloc]); have := lt_of_heap K_a.out; omega)).trans (K_a.out))
  clear hb5
  have lt_t5 : w.heap.size < w5.heap.size := lt_of_heap K_t.out
  obtain ⟨t_05, t_15, t_25, ft_05, ft_15, ft_25⟩ := three_cells K_t.out
  have lt_a5 : w2.heap.size < w5.heap.size := lt_of_heap K_a.out
  obtain ⟨a_05, a_15, a_25, fa_05, fa_15, fa_25⟩ := three_cells K_a.out
  go_wp2_with fail
  refine (works_any _).mono ?_
  rintro e w6 ⟨rfl, hb6⟩
  have z6 := hb6.size
  simp only [World.size_alloc] at z6
  have hB6 : Below w.heap.size w w6 := below_on (w := w) ((below_al hB5 _)) hb6
  replace K_t := Lib.hid ((hb6.block w.heap.size (by (try simp only [World.size_alloc]); have := lt_of_heap K_t.out; omega)).trans (((Below.heap_alloc _ _ _ (by (try simp only [World.size_alloc]); have := lt_of_heap K_t.out; omega)).trans (K_t.out))))
  replace K_a := Lib.hid ((hb6.block w2.heap.size (by (try simp only [World.size_alloc]); have := lt_of_heap K_a.out; omega)).trans (((Below.heap_alloc _ _ _ (by (try simp only [World.size_alloc]); have := lt_of_heap K_a.out; omega)).trans (K_a.out))))
  have K_u : Hid (w6.heap[w5.heap.size]? = some (.cells #[.int .i64 0, .int .u8 0, .string ⟨#[]⟩] 30)) := Lib.hid ((hb6.block (w5.heap.size) (by (try simp only [World.size_alloc]); omega)).trans ((by have h := World.alloc_heap_new w5 (.cells #[.int .i64 0, .int .u8 0, .string ⟨#[]⟩] 30); (try simp only [World.size_alloc] at h); exact h)))
  clear hb6
  have lt_t6 : w.heap.size < w6.heap.size := lt_of_heap K_t.out
  obtain ⟨t_06, t_16, t_26, ft_06, ft_16, ft_26⟩ := three_cells K_t.out
  have lt_a6 : w2.heap.size < w6.heap.size := lt_of_heap K_a.out
  obtain ⟨a_06, a_16, a_26, fa_06, fa_16, fa_26⟩ := three_cells K_a.out
  have lt_u6 : w5.heap.size < w6.heap.size := lt_of_heap K_u.out
  obtain ⟨u_06, u_16, u_26, fu_06, fu_16, fu_26⟩ := three_cells K_u.out
  go_wp2
  go_ret
  exact ⟨rfl, hB6⟩

theorem round_bad (d b : Int) (n : ByteArray) (hn : n.size ≤ 500) (hv : validB d b n = false) (w : World) : Calls Tryd.prog 12 #[.agg #[.int .i64 d, .int .u8 b, .string n]] w fun e w' => e = .returned (.bool true) ∧ Below w.heap.size w w' := by
  have hf : ∀ w : World, Calls Tryd.prog 30 #[.agg #[.int .i64 d, .int .u8 b, .string n]] w fun e w' => e = .returned (.tuple #[.string ⟨#[]⟩, .int .i64 13]) ∧ Below w.heap.size w w' := by
    intro w
    have h := fmt_any d b n (by omega) w
    rw [(fm_bad hv).1, (fm_bad hv).2] at h
    exact h
  have hF := Lib.hid hf
  clear hf
  have hB : Below w.heap.size w w := Below.refl _ _
  go_enter Tryd.func12, Tryd.ntmps12
  go_wp2_with (first | (go_at_call 30; refine (hF.out _).mono ?_; rintro e w1 ⟨rfl, hb1⟩; obtain ⟨hc1, hf1⟩ := bcell hb1; have hz1 := hb1.size; (try simp only [World.size_alloc, World.size_setCell] at hz1); (try have hza : w.heap.size < w1.heap.size := by omega); (try have hzb : w.heap.size + 1 < w1.heap.size := by omega); (try have hzc : w.heap.size + 1 + 1 < w1.heap.size := by omega); replace hB := below_on (w := w) ((by repeat (first | exact hB | exact Below.refl _ _ | refine below_al ?_ _ | refine below_st ?_ (by first | exact Nat.le_refl _ | exact Nat.le_add_right _ _ | (simp; omega)) _))) hb1; clear hb1) | (go_at_call 38; refine (valid_any _ _ _ _).mono ?_; rintro e w1 ⟨rfl, hb1⟩; obtain ⟨hc1, hf1⟩ := bcell hb1; have hz1 := hb1.size; (try simp only [World.size_alloc, World.size_setCell] at hz1); (try have hza : w.heap.size < w1.heap.size := by omega); (try have hzb : w.heap.size + 1 < w1.heap.size := by omega); (try have hzc : w.heap.size + 1 + 1 < w1.heap.size := by omega); replace hB := below_on (w := w) ((by repeat (first | exact hB | exact Below.refl _ _ | refine below_al ?_ _ | refine below_st ?_ (by first | exact Nat.le_refl _ | exact Nat.le_add_right _ _ | (simp; omega)) _))) hb1; clear hb1) | (go_at_call 29; refine (works_any _).mono ?_; rintro e w1 ⟨rfl, hb1⟩; obtain ⟨hc1, hf1⟩ := bcell hb1; have hz1 := hb1.size; (try simp only [World.size_alloc, World.size_setCell] at hz1); (try have hza : w.heap.size < w1.heap.size := by omega); (try have hzb : w.heap.size + 1 < w1.heap.size := by omega); (try have hzc : w.heap.size + 1 + 1 < w1.heap.size := by omega); replace hB := below_on (w := w) ((by repeat (first | exact hB | exact Below.refl _ _ | refine below_al ?_ _ | refine below_st ?_ (by first | exact Nat.le_refl _ | exact Nat.le_add_right _ _ | (simp; omega)) _))) hb1; clear hb1))
  go_ret
  exact ⟨rfl, hB⟩

theorem round_big (d b : Int) (n : ByteArray) (hn : 500 < n.size) (w : World) : Calls Tryd.prog 12 #[.agg #[.int .i64 d, .int .u8 b, .string n]] w fun e w' => e = .returned (.bool true) ∧ Below w.heap.size w w' := by
  have hB : Below w.heap.size w w := Below.refl _ _
  go_enter Tryd.func12, Tryd.ntmps12
  go_wp2_with (go_at_call 29; refine (works_any _).mono ?_; rintro e w1 ⟨rfl, hb1⟩; obtain ⟨hc1, hf1⟩ := bcell hb1; have hz1 := hb1.size; (try simp only [World.size_alloc, World.size_setCell] at hz1); (try have hza : w.heap.size < w1.heap.size := by omega); (try have hzb : w.heap.size + 1 < w1.heap.size := by omega); (try have hzc : w.heap.size + 1 + 1 < w1.heap.size := by omega); replace hB := below_on (w := w) ((by repeat (first | exact hB | exact Below.refl _ _ | refine below_al ?_ _ | refine below_st ?_ (by first | exact Nat.le_refl _ | exact Nat.le_add_right _ _ | (simp; omega)) _))) hb1; clear hb1)
  go_ret
  exact ⟨rfl, hB⟩

theorem round_law (d b : Int) (n : ByteArray) (w : World) : Calls Tryd.prog 12 #[.agg #[.int .i64 d, .int .u8 b, .string n]] w fun e w' => e = .returned (.bool true) ∧ Below w.heap.size w w' := by
  by_cases hn : n.size ≤ 500
  · cases hv : validB d b n with
    | false => exact round_bad d b n hn hv w
    | true =>
      by_cases hfc : fcE d b n = 0
      · by_cases har : arE d b n = 0
        · exact round_11 d b n hn hv hfc har w
        · exact round_10 d b n hn hv hfc har w
      · by_cases har : arE d b n = 0
        · exact round_01 d b n hn hv hfc har w
        · exact round_00 d b n hn hv hfc har w
  · exact round_big d b n (by omega) w

end Go.Proofs.YtfafmanjgillcaaDoor
