/- Layer 4: DescReference, the walk. -/
import Derived.Test.YtfafmanjgillcaaDoorDescLawP
import Derived.Deep.RegionHeld3
import Derived.Deep.DrawnRows
namespace Go.Proofs.YtfafmanjgillcaaDoor
open Go.ChangeShapes Go.WideShapes Go.ChangeAt Go.RowKit Go.PlainAid
set_option linter.unusedSimpArgs false
set_option linter.unusedVariables false
attribute [local go_sem ↓] Go.wp_at_zero Go.wp_at_succ

/-- the results of Element and ArrayOf, cell by cell -/
def elD (d b : Int) (n : ByteArray) : Int := if elE d b n = 0 then d - 1 else 0
def elB (d b : Int) (n : ByteArray) : Int := if elE d b n = 0 then b else 0
def elS (d b : Int) (n : ByteArray) : ByteArray := if elE d b n = 0 then n else ⟨#[]⟩
theorem elV_is (d b : Int) (n : ByteArray) : elV d b n = .agg #[.int .i64 (elD d b n), .int .u8 (elB d b n), .string (elS d b n)] := by unfold elV elD elB elS; split <;> rfl
def arD (d b : Int) (n : ByteArray) : Int := if arE d b n = 0 then d + 1 else 0
def arB (d b : Int) (n : ByteArray) : Int := if arE d b n = 0 then b else 0
def arS (d b : Int) (n : ByteArray) : ByteArray := if arE d b n = 0 then n else ⟨#[]⟩
theorem arV_is (d b : Int) (n : ByteArray) : arV d b n = .agg #[.int .i64 (arD d b n), .int .u8 (arB d b n), .string (arS d b n)] := by unfold arV arD arB arS; split <;> rfl
theorem elem3 (d b : Int) (n : ByteArray) (w : World) : Calls Tryd.prog 32 #[.agg #[.int .i64 d, .int .u8 b, .string n]] w fun e w' => e = .returned (.tuple #[.agg #[.int .i64 (elD d b n), .int .u8 (elB d b n), .string (elS d b n)], .int .i64 (elE d b n)]) ∧ Below w.heap.size w w' := by
  have h := elem_any d b n w; rw [elV_is] at h; exact h
theorem relem3 (d b : Int) (n : ByteArray) (hn : n.size ≤ 9223372036854775807) (w : World) : Calls Tryd.prog 33 #[.agg #[.int .i64 d, .int .u8 b, .string n]] w fun e w' => e = .returned (.tuple #[.agg #[.int .i64 (elD d b n), .int .u8 (elB d b n), .string (elS d b n)], .int .i64 (elE d b n)]) ∧ Below w.heap.size w w' := by
  have h := relem_any d b n hn w; rw [elV_is] at h; exact h
theorem arr3 (d b : Int) (n : ByteArray) (w : World) : Calls Tryd.prog 34 #[.agg #[.int .i64 d, .int .u8 b, .string n]] w fun e w' => e = .returned (.tuple #[.agg #[.int .i64 (arD d b n), .int .u8 (arB d b n), .string (arS d b n)], .int .i64 (arE d b n)]) ∧ Below w.heap.size w w' := by
  have h := arr_any d b n w; rw [arV_is] at h; exact h
theorem rarr3 (d b : Int) (n : ByteArray) (hn : n.size ≤ 9223372036854775807) (w : World) : Calls Tryd.prog 35 #[.agg #[.int .i64 d, .int .u8 b, .string n]] w fun e w' => e = .returned (.tuple #[.agg #[.int .i64 (arD d b n), .int .u8 (arB d b n), .string (arS d b n)], .int .i64 (arE d b n)]) ∧ Below w.heap.size w w' := by
  have h := rarr_any d b n hn w; rw [arV_is] at h; exact h

set_option maxRecDepth 100000 in
set_option maxHeartbeats 4000000 in
theorem ref_small (d b : Int) (n : ByteArray) (hn : n.size ≤ 500) (w : World) : Calls Tryd.prog 7 #[.agg #[.int .i64 d, .int .u8 b, .string n]] w fun e w' => e = .returned (.bool true) ∧ Below w.heap.size w w' := by
  go_enter Tryd.func7, Tryd.ntmps7
  go_wp2_with fail
  refine (fmt_any d b n (by omega) _).mono ?_
  rintro e w1 ⟨rfl, hb1⟩
  have z1 := hb1.size
  simp only [World.size_alloc] at z1
  have hB1 : Below w.heap.size w w1 := below_on (w := w) ((below_al (Below.refl w.heap.size w) _)) hb1
  have K_t : Hid (w1.heap[w.heap.size]? = some (.cells #[.int .i64 d, .int .u8 b, .string n] 30)) := Lib.hid ((hb1.block (w.heap.size) (by (try simp only [World.size_alloc]); omega)).trans ((by have h := World.alloc_heap_new w (.cells #[.int .i64 d, .int .u8 b, .string n] 30); (try simp only [World.size_alloc] at h); exact h)))
  clear hb1
  have lt_t1 : w.heap.size < w1.heap.size := lt_of_heap K_t.out
  obtain ⟨t_01, t_11, t_21, ft_01, ft_11, ft_21⟩ := three_cells K_t.out
  go_wp2_with fail
  refine (rfmt_any d b n (by omega) _).mono ?_
  rintro e w2 ⟨rfl, hb2⟩
  have z2 := hb2.size
  have hB2 : Below w.heap.size w w2 := below_on (w := w) (hB1) hb2
  replace K_t := Lib.hid ((hb2.block w.heap.size (by (try simp only [World.size_alloc]); have := lt_of_heap K_t.out; omega)).trans (K_t.out))
  clear hb2
  have lt_t2 : w.heap.size < w2.heap.size := lt_of_heap K_t.out
  obtain ⟨t_02, t_12, t_22, ft_02, ft_12, ft_22⟩ := three_cells K_t.out
  go_wp2_with fail
  refine (elem3 d b n _).mono ?_
  rintro e w3 ⟨rfl, hb3⟩
  have z3 := hb3.size
  have hB3 : Below w.heap.size w w3 := below_on (w := w) (hB2) hb3
  replace K_t := Lib.hid ((hb3.block w.heap.size (by (try simp only [World.size_alloc]); have := lt_of_heap K_t.out; omega)).trans (K_t.out))
  clear hb3
  have lt_t3 : w.heap.size < w3.heap.size := lt_of_heap K_t.out
  obtain ⟨t_03, t_13, t_23, ft_03, ft_13, ft_23⟩ := three_cells K_t.out
  go_wp2_with fail
  refine (relem3 d b n (by omega) _).mono ?_
  rintro e w4 ⟨rfl, hb4⟩
  have z4 := hb4.size
  simp only [World.size_alloc] at z4
  have hB4 : Below w.heap.size w w4 := below_on (w := w) ((below_al hB3 _)) hb4
  replace K_t := Lib.hid ((hb4.block w.heap.size (by (try simp only [World.size_alloc]); have := lt_of_heap K_t.out; omega)).trans (((Below.heap_alloc _ _ _ (by (try simp only [World.size_alloc]); have := lt_of_heap K_t.out; omega)).trans (K_t.out))))
  have K_x : Hid (w4.heap[w3.heap.size]? = some (.cells #[.int .i64 (elD d b n), .int .u8 (elB d b n), .string (elS d b n)] 30)) := Lib.hid ((hb4.block (w3.heap.size) (by (try simp only [World.size_alloc]); omega)).trans ((by have h := World.alloc_heap_new w3 (.cells #[.int .i64 (elD d b n), .int .u8 (elB d b n), .string (elS d b n)] 30); (try simp only [World.size_alloc] at h); exact h)))
  clear hb4
  have lt_t4 : w.heap.size < w4.heap.size := lt_of_heap K_t.out
  obtain ⟨t_04, t_14, t_24, ft_04, ft_14, ft_24⟩ := three_cells K_t.out
  go_wp2_with fail
  refine (arr3 d b n _).mono ?_
  rintro e w5 ⟨rfl, hb5⟩
  have z5 := hb5.size
  simp only [World.size_alloc] at z5
  have hB5 : Below w.heap.size w w5 := below_on (w := w) ((below_al hB4 _)) hb5
  replace K_t := Lib.hid ((hb5.block w.heap.size (by (try simp only [World.size_alloc]); have := lt_of_heap K_t.out; omega)).trans (((Below.heap_alloc _ _ _ (by (try simp only [World.size_alloc]); have := lt_of_heap K_t.out; omega)).trans (K_t.out))))
  replace K_x := Lib.hid ((hb5.block w3.heap.size (by (try simp only [World.size_alloc]); have := lt_of_heap K_x.out; omega)).trans (((Below.heap_alloc _ _ _ (by (try simp only [World.size_alloc]); have := lt_of_heap K_x.out; omega)).trans (K_x.out))))
  have K_y : Hid (w5.heap[w4.heap.size]? = some (.cells #[.int .i64 (elD d b n), .int .u8 (elB d b n), .string (elS d b n)] 30)) := Lib.hid ((hb5.block (w4.heap.size) (by (try simp only [World.size_alloc]); omega)).trans ((by have h := World.alloc_heap_new w4 (.cells #[.int .i64 (elD d b n), .int .u8 (elB d b n), .string (elS d b n)] 30); (try simp only [World.size_alloc] at h); exact h)))
  clear hb5
  have lt_t5 : w.heap.size < w5.heap.size := lt_of_heap K_t.out
  obtain ⟨t_05, t_15, t_25, ft_05, ft_15, ft_25⟩ := three_cells K_t.out
  go_wp2_with fail
  refine (rarr3 d b n (by omega) _).mono ?_
  rintro e w6 ⟨rfl, hb6⟩
  have z6 := hb6.size
  simp only [World.size_alloc] at z6
  have hB6 : Below w.heap.size w w6 := below_on (w := w) ((below_al hB5 _)) hb6
  replace K_t := Lib.hid ((hb6.block w.heap.size (by (try simp only [World.size_alloc]); have := lt_of_heap K_t.out; omega)).trans (((Below.heap_alloc _ _ _ (by (try simp only [World.size_alloc]); have := lt_of_heap K_t.out; omega)).trans (K_t.out))))
  replace K_x := Lib.hid ((hb6.block w3.heap.size (by (try simp only [World.size_alloc]); have := lt_of_heap K_x.out; omega)).trans (((Below.heap_alloc _ _ _ (by (try simp only [World.size_alloc]); have := lt_of_heap K_x.out; omega)).trans (K_x.out))))
  replace K_y := Lib.hid ((hb6.block w4.heap.size (by (try simp only [World.size_alloc]); have := lt_of_heap K_y.out; omega)).trans (((Below.heap_alloc _ _ _ (by (try simp only [World.size_alloc]); have := lt_of_heap K_y.out; omega)).trans (K_y.out))))
  have K_u : Hid (w6.heap[w5.heap.size]? = some (.cells #[.int .i64 (arD d b n), .int .u8 (arB d b n), .string (arS d b n)] 30)) := Lib.hid ((hb6.block (w5.heap.size) (by (try simp only [World.size_alloc]); omega)).trans ((by have h := World.alloc_heap_new w5 (.cells #[.int .i64 (arD d b n), .int .u8 (arB d b n), .string (arS d b n)] 30); (try simp only [World.size_alloc] at h); exact h)))
  clear hb6
  have lt_t6 : w.heap.size < w6.heap.size := lt_of_heap K_t.out
  obtain ⟨t_06, t_16, t_26, ft_06, ft_16, ft_26⟩ := three_cells K_t.out
  go_wp2_with fail
  refine (fcc_any d b n (by omega) _).mono ?_
  rintro e w7 ⟨rfl, hb7⟩
  have z7 := hb7.size
  simp only [World.size_alloc] at z7
  have hB7 : Below w.heap.size w w7 := below_on (w := w) ((below_al hB6 _)) hb7
  replace K_t := Lib.hid ((hb7.block w.heap.size (by (try simp only [World.size_alloc]); have := lt_of_heap K_t.out; omega)).trans (((Below.heap_alloc _ _ _ (by (try simp only [World.size_alloc]); have := lt_of_heap K_t.out; omega)).trans (K_t.out))))
  replace K_x := Lib.hid ((hb7.block w3.heap.size (by (try simp only [World.size_alloc]); have := lt_of_heap K_x.out; omega)).trans (((Below.heap_alloc _ _ _ (by (try simp only [World.size_alloc]); have := lt_of_heap K_x.out; omega)).trans (K_x.out))))
  replace K_y := Lib.hid ((hb7.block w4.heap.size (by (try simp only [World.size_alloc]); have := lt_of_heap K_y.out; omega)).trans (((Below.heap_alloc _ _ _ (by (try simp only [World.size_alloc]); have := lt_of_heap K_y.out; omega)).trans (K_y.out))))
  replace K_u := Lib.hid ((hb7.block w5.heap.size (by (try simp only [World.size_alloc]); have := lt_of_heap K_u.out; omega)).trans (((Below.heap_alloc _ _ _ (by (try simp only [World.size_alloc]); have := lt_of_heap K_u.out; omega)).trans (K_u.out))))
  have K_v : Hid (w7.heap[w6.heap.size]? = some (.cells #[.int .i64 (arD d b n), .int .u8 (arB d b n), .string (arS d b n)] 30)) := Lib.hid ((hb7.block (w6.heap.size) (by (try simp only [World.size_alloc]); omega)).trans ((by have h := World.alloc_heap_new w6 (.cells #[.int .i64 (arD d b n), .int .u8 (arB d b n), .string (arS d b n)] 30); (try simp only [World.size_alloc] at h); exact h)))
  clear hb7
  have lt_t7 : w.heap.size < w7.heap.size := lt_of_heap K_t.out
  obtain ⟨t_07, t_17, t_27, ft_07, ft_17, ft_27⟩ := three_cells K_t.out
  go_wp2_with fail
  refine (rfcc_any d b n (by omega) _).mono ?_
  rintro e w8 ⟨rfl, hb8⟩
  have z8 := hb8.size
  have hB8 : Below w.heap.size w w8 := below_on (w := w) (hB7) hb8
  replace K_t := Lib.hid ((hb8.block w.heap.size (by (try simp only [World.size_alloc]); have := lt_of_heap K_t.out; omega)).trans (K_t.out))
  replace K_x := Lib.hid ((hb8.block w3.heap.size (by (try simp only [World.size_alloc]); have := lt_of_heap K_x.out; omega)).trans (K_x.out))
  replace K_y := Lib.hid ((hb8.block w4.heap.size (by (try simp only [World.size_alloc]); have := lt_of_heap K_y.out; omega)).trans (K_y.out))
  replace K_u := Lib.hid ((hb8.block w5.heap.size (by (try simp only [World.size_alloc]); have := lt_of_heap K_u.out; omega)).trans (K_u.out))
  replace K_v := Lib.hid ((hb8.block w6.heap.size (by (try simp only [World.size_alloc]); have := lt_of_heap K_v.out; omega)).trans (K_v.out))
  clear hb8
  have lt_t8 : w.heap.size < w8.heap.size := lt_of_heap K_t.out
  obtain ⟨t_08, t_18, t_28, ft_08, ft_18, ft_28⟩ := three_cells K_t.out
  have lt_x : w3.heap.size < w8.heap.size := lt_of_heap K_x.out
  obtain ⟨x_0, x_1, x_2, fx_0, fx_1, fx_2⟩ := three_cells K_x.out
  have lt_y : w4.heap.size < w8.heap.size := lt_of_heap K_y.out
  obtain ⟨y_0, y_1, y_2, fy_0, fy_1, fy_2⟩ := three_cells K_y.out
  have lt_u : w5.heap.size < w8.heap.size := lt_of_heap K_u.out
  obtain ⟨u_0, u_1, u_2, fu_0, fu_1, fu_2⟩ := three_cells K_u.out
  have lt_v : w6.heap.size < w8.heap.size := lt_of_heap K_v.out
  obtain ⟨v_0, v_1, v_2, fv_0, fv_1, fv_2⟩ := three_cells K_v.out
  have hB := hB8
  go_upto_region 11 with fail
  go_region_held3 (fun w' => w'.cell? ⟨w.heap.size, 0, none⟩ = some (.int .i64 d) ∧ w'.cell? ⟨w.heap.size, 1, none⟩ = some (.int .u8 b) ∧ w'.cell? ⟨w.heap.size, 2, none⟩ = some (.string n) ∧ w'.cell? ⟨w3.heap.size, 0, none⟩ = some (.int .i64 (elD d b n)) ∧ w'.cell? ⟨w3.heap.size, 1, none⟩ = some (.int .u8 (elB d b n)) ∧ w'.cell? ⟨w3.heap.size, 2, none⟩ = some (.string (elS d b n)) ∧ w'.cell? ⟨w4.heap.size, 0, none⟩ = some (.int .i64 (elD d b n)) ∧ w'.cell? ⟨w4.heap.size, 1, none⟩ = some (.int .u8 (elB d b n)) ∧ w'.cell? ⟨w4.heap.size, 2, none⟩ = some (.string (elS d b n)) ∧ w'.cell? ⟨w5.heap.size, 0, none⟩ = some (.int .i64 (arD d b n)) ∧ w'.cell? ⟨w5.heap.size, 1, none⟩ = some (.int .u8 (arB d b n)) ∧ w'.cell? ⟨w5.heap.size, 2, none⟩ = some (.string (arS d b n)) ∧ w'.cell? ⟨w6.heap.size, 0, none⟩ = some (.int .i64 (arD d b n)) ∧ w'.cell? ⟨w6.heap.size, 1, none⟩ = some (.int .u8 (arB d b n)) ∧ w'.cell? ⟨w6.heap.size, 2, none⟩ = some (.string (arS d b n)) ∧ w8.heap.size ≤ w'.heap.size ∧ Below w.heap.size w w') (((try go_split_ands); (repeat' apply And.intro) <;> (first | assumption | exact (Below.cell hq (by first | (dsimp only; omega) | (simp; omega))).trans (by assumption) | (have := hq.size; omega) | exact below_on (w := w) (by assumption) hq | exact Below.drew (by assumption) | go_keep)))
    (first | (go_at_call 38; refine (valid_any d b n _).mono ?_; rintro e wq ⟨rfl, hq⟩) | (go_at_call 39; refine (rvalid_any d b n (by omega) _).mono ?_; rintro e wq ⟨rfl, hq⟩) | (go_at_call 40; refine (kind_any d b n _).mono ?_; rintro e wq ⟨rfl, hq⟩) | (go_at_call 41; refine (rkind_any d b n (by omega) _).mono ?_; rintro e wq ⟨rfl, hq⟩) | (go_at_call 29; refine (works_any _).mono ?_; rintro e wq ⟨rfl, hq⟩))
  go_wp2
  go_ret
  refine ⟨rfl, ?_⟩
  go_split_ands
  assumption

theorem ref_big (d b : Int) (n : ByteArray) (hn : 500 < n.size) (w : World) : Calls Tryd.prog 7 #[.agg #[.int .i64 d, .int .u8 b, .string n]] w fun e w' => e = .returned (.bool true) ∧ Below w.heap.size w w' := by
  have hB : Below w.heap.size w w := Below.refl _ _
  go_enter Tryd.func7, Tryd.ntmps7
  go_wp2_with (go_at_call 29; refine (works_any _).mono ?_; rintro e w1 ⟨rfl, hb1⟩; obtain ⟨hc1, hf1⟩ := bcell hb1; have hz1 := hb1.size; (try simp only [World.size_alloc, World.size_setCell] at hz1); (try have hza : w.heap.size < w1.heap.size := by omega); (try have hzb : w.heap.size + 1 < w1.heap.size := by omega); (try have hzc : w.heap.size + 1 + 1 < w1.heap.size := by omega); replace hB := below_on (w := w) ((by repeat (first | exact hB | exact Below.refl _ _ | refine below_al ?_ _ | refine below_st ?_ (by first | exact Nat.le_refl _ | exact Nat.le_add_right _ _ | (simp; omega)) _))) hb1; clear hb1)
  go_ret
  exact ⟨rfl, hB⟩

theorem ref_law (d b : Int) (n : ByteArray) (w : World) : Calls Tryd.prog 7 #[.agg #[.int .i64 d, .int .u8 b, .string n]] w fun e w' => e = .returned (.bool true) ∧ Below w.heap.size w w' := by
  by_cases hn : n.size ≤ 500
  · exact ref_small d b n hn w
  · exact ref_big d b n (by omega) w

end Go.Proofs.YtfafmanjgillcaaDoor
