/- Layer 5: PoolReadReference, the walk. -/
import Derived.Test.YtfcefeepkpkcmaaDoorPoolAwake
import Derived.Deep.RegionHeld3
import Derived.Deep.DrawnRows
namespace Go.Proofs.YtfcefeepkpkcmaaDoor
open Go.ChangeShapes Go.WideShapes Go.ChangeAt Go.RowKit Go.PlainAid
set_option linter.unusedSimpArgs false
set_option linter.unusedVariables false

theorem few_any (A : Option Addr) (n c : Nat) (w : World) : Calls Tryd.prog 12 #[.slice A n c] w fun e w' => e = .returned (.bool (decide (n ≤ 1100))) ∧ Below w.heap.size w w' := by
  have hB : Below w.heap.size w w := Below.refl _ _
  by_cases h : n ≤ 1100
  · go_enter Tryd.func12, Tryd.ntmps12
    go_wp2
    go_ret
    exact ⟨ret_bool (by simp; omega), hB⟩
  · go_enter Tryd.func12, Tryd.ntmps12
    go_wp2
    go_ret
    exact ⟨ret_bool (by simp; omega), hB⟩
theorem few_yes {A : Option Addr} {n c : Nat} (h : n ≤ 1100) (w : World) : Calls Tryd.prog 12 #[.slice A n c] w fun e w' => e = .returned (.bool true) ∧ Below w.heap.size w w' := by
  have g := few_any A n c w; rwa [decide_eq_true h] at g
theorem few_no {A : Option Addr} {n c : Nat} (h : ¬ n ≤ 1100) (w : World) : Calls Tryd.prog 12 #[.slice A n c] w fun e w' => e = .returned (.bool false) ∧ Below w.heap.size w w' := by
  have g := few_any A n c w; rwa [decide_eq_false h] at g

set_option maxRecDepth 100000 in
set_option maxHeartbeats 2000000 in
theorem read_law {A : Option Addr} {n c : Nat} {L : List Cn} (i t : Int) (hn : L.length = n) (w : World) (hp : Pool w w.heap.size A L) :
    Calls Tryd.prog 3 #[.slice A n c, .int .i64 i, .int .i64 t] w fun e w' => e = .returned (.bool true) ∧ Below w.heap.size w w' := by
  have HP := Lib.hid hp
  have HN := Lib.hid hn
  clear hp hn
  by_cases hf : n ≤ 1100
  · have hN : n ≤ 100000 := by omega
    go_enter Tryd.func3, Tryd.ntmps3
    go_wp2_with fail
    refine (few_yes hf _).mono ?_
    rintro e w1 ⟨rfl, hb1⟩
    have z1 := hb1.size
    have hB1 : Below w.heap.size w w1 := below_on (w := w) ((Below.refl w.heap.size w)) hb1
    clear hb1
    go_wp2_with fail
    refine (at_any i HN.out hN HP.out _ (hB1)).mono ?_
    rintro e w2 ⟨rfl, hb2⟩
    have z2 := hb2.size
    have hB2 : Below w.heap.size w w2 := below_on (w := w) (hB1) hb2
    clear hb2
    go_wp2_with fail
    refine (rat_any i HN.out hN HP.out _ ((below_al hB2 _))).mono ?_
    rintro e w3 ⟨rfl, hb3⟩
    have z3 := hb3.size
    simp only [World.size_alloc] at z3
    have hB3 : Below w.heap.size w w3 := below_on (w := w) ((below_al hB2 _)) hb3
    have K_a : Hid (w3.heap[w2.heap.size]? = some (.cells #[.int .i64 (atC L i).t, .string (atC L i).s, .int .i64 (atC L i).n, .int .i64 (atC L i).a, .int .i64 (atC L i).b] 26)) := Lib.hid ((hb3.block (w2.heap.size) (by (try simp only [World.size_alloc]); omega)).trans ((by have h := World.alloc_heap_new w2 (.cells #[.int .i64 (atC L i).t, .string (atC L i).s, .int .i64 (atC L i).n, .int .i64 (atC L i).a, .int .i64 (atC L i).b] 26); (try simp only [World.size_alloc] at h); exact h)))
    clear hb3
    go_wp2_with fail
    refine (utf_any i HN.out hN HP.out _ ((below_al hB3 _))).mono ?_
    rintro e w4 ⟨rfl, hb4⟩
    have z4 := hb4.size
    simp only [World.size_alloc] at z4
    have hB4 : Below w.heap.size w w4 := below_on (w := w) ((below_al hB3 _)) hb4
    replace K_a := Lib.hid ((hb4.block w2.heap.size (by (try simp only [World.size_alloc]); have := lt_of_heap K_a.out; omega)).trans (((Below.heap_alloc _ _ _ (by (try simp only [World.size_alloc]); have := lt_of_heap K_a.out; omega)).trans (K_a.out))))
    have K_b : Hid (w4.heap[w3.heap.size]? = some (.cells #[.int .i64 (atC L i).t, .string (atC L i).s, .int .i64 (atC L i).n, .int .i64 (atC L i).a, .int .i64 (atC L i).b] 26)) := Lib.hid ((hb4.block (w3.heap.size) (by (try simp only [World.size_alloc]); omega)).trans ((by have h := World.alloc_heap_new w3 (.cells #[.int .i64 (atC L i).t, .string (atC L i).s, .int .i64 (atC L i).n, .int .i64 (atC L i).a, .int .i64 (atC L i).b] 26); (try simp only [World.size_alloc] at h); exact h)))
    clear hb4
    go_wp2_with fail
    refine (rutf_any i HN.out hN HP.out _ (hB4)).mono ?_
    rintro e w5 ⟨rfl, hb5⟩
    have z5 := hb5.size
    have hB5 : Below w.heap.size w w5 := below_on (w := w) (hB4) hb5
    replace K_a := Lib.hid ((hb5.block w2.heap.size (by (try simp only [World.size_alloc]); have := lt_of_heap K_a.out; omega)).trans (K_a.out))
    replace K_b := Lib.hid ((hb5.block w3.heap.size (by (try simp only [World.size_alloc]); have := lt_of_heap K_b.out; omega)).trans (K_b.out))
    clear hb5
    go_wp2_with fail
    refine (cn_any i HN.out hN HP.out _ (hB5)).mono ?_
    rintro e w6 ⟨rfl, hb6⟩
    have z6 := hb6.size
    have hB6 : Below w.heap.size w w6 := below_on (w := w) (hB5) hb6
    replace K_a := Lib.hid ((hb6.block w2.heap.size (by (try simp only [World.size_alloc]); have := lt_of_heap K_a.out; omega)).trans (K_a.out))
    replace K_b := Lib.hid ((hb6.block w3.heap.size (by (try simp only [World.size_alloc]); have := lt_of_heap K_b.out; omega)).trans (K_b.out))
    clear hb6
    go_wp2_with fail
    refine (rcn_any i HN.out hN HP.out _ (hB6)).mono ?_
    rintro e w7 ⟨rfl, hb7⟩
    have z7 := hb7.size
    have hB7 : Below w.heap.size w w7 := below_on (w := w) (hB6) hb7
    replace K_a := Lib.hid ((hb7.block w2.heap.size (by (try simp only [World.size_alloc]); have := lt_of_heap K_a.out; omega)).trans (K_a.out))
    replace K_b := Lib.hid ((hb7.block w3.heap.size (by (try simp only [World.size_alloc]); have := lt_of_heap K_b.out; omega)).trans (K_b.out))
    clear hb7
    go_wp2_with fail
    refine (sv_any i HN.out hN HP.out _ (hB7)).mono ?_
    rintro e w8 ⟨rfl, hb8⟩
    have z8 := hb8.size
    have hB8 : Below w.heap.size w w8 := below_on (w := w) (hB7) hb8
    replace K_a := Lib.hid ((hb8.block w2.heap.size (by (try simp only [World.size_alloc]); have := lt_of_heap K_a.out; omega)).trans (K_a.out))
    replace K_b := Lib.hid ((hb8.block w3.heap.size (by (try simp only [World.size_alloc]); have := lt_of_heap K_b.out; omega)).trans (K_b.out))
    clear hb8
    go_wp2_with fail
    refine (rsv_any i HN.out hN HP.out _ (hB8)).mono ?_
    rintro e w9 ⟨rfl, hb9⟩
    have z9 := hb9.size
    have hB9 : Below w.heap.size w w9 := below_on (w := w) (hB8) hb9
    replace K_a := Lib.hid ((hb9.block w2.heap.size (by (try simp only [World.size_alloc]); have := lt_of_heap K_a.out; omega)).trans (K_a.out))
    replace K_b := Lib.hid ((hb9.block w3.heap.size (by (try simp only [World.size_alloc]); have := lt_of_heap K_b.out; omega)).trans (K_b.out))
    clear hb9
    go_wp2_with fail
    refine (nt_any i HN.out hN HP.out _ (hB9)).mono ?_
    rintro e w10 ⟨rfl, hb10⟩
    have z10 := hb10.size
    have hB10 : Below w.heap.size w w10 := below_on (w := w) (hB9) hb10
    replace K_a := Lib.hid ((hb10.block w2.heap.size (by (try simp only [World.size_alloc]); have := lt_of_heap K_a.out; omega)).trans (K_a.out))
    replace K_b := Lib.hid ((hb10.block w3.heap.size (by (try simp only [World.size_alloc]); have := lt_of_heap K_b.out; omega)).trans (K_b.out))
    clear hb10
    go_wp2_with fail
    refine (rnt_any i HN.out hN HP.out _ (hB10)).mono ?_
    rintro e w11 ⟨rfl, hb11⟩
    have z11 := hb11.size
    have hB11 : Below w.heap.size w w11 := below_on (w := w) (hB10) hb11
    replace K_a := Lib.hid ((hb11.block w2.heap.size (by (try simp only [World.size_alloc]); have := lt_of_heap K_a.out; omega)).trans (K_a.out))
    replace K_b := Lib.hid ((hb11.block w3.heap.size (by (try simp only [World.size_alloc]); have := lt_of_heap K_b.out; omega)).trans (K_b.out))
    clear hb11
    go_wp2_with fail
    refine (mr_any i t HN.out hN HP.out _ (hB11)).mono ?_
    rintro e w12 ⟨rfl, hb12⟩
    have z12 := hb12.size
    have hB12 : Below w.heap.size w w12 := below_on (w := w) (hB11) hb12
    replace K_a := Lib.hid ((hb12.block w2.heap.size (by (try simp only [World.size_alloc]); have := lt_of_heap K_a.out; omega)).trans (K_a.out))
    replace K_b := Lib.hid ((hb12.block w3.heap.size (by (try simp only [World.size_alloc]); have := lt_of_heap K_b.out; omega)).trans (K_b.out))
    clear hb12
    go_wp2_with fail
    refine (rmr_any i t HN.out hN HP.out _ ((below_al hB12 _))).mono ?_
    rintro e w13 ⟨rfl, hb13⟩
    have z13 := hb13.size
    simp only [World.size_alloc] at z13
    have hB13 : Below w.heap.size w w13 := below_on (w := w) ((below_al hB12 _)) hb13
    replace K_a := Lib.hid ((hb13.block w2.heap.size (by (try simp only [World.size_alloc]); have := lt_of_heap K_a.out; omega)).trans (((Below.heap_alloc _ _ _ (by (try simp only [World.size_alloc]); have := lt_of_heap K_a.out; omega)).trans (K_a.out))))
    replace K_b := Lib.hid ((hb13.block w3.heap.size (by (try simp only [World.size_alloc]); have := lt_of_heap K_b.out; omega)).trans (((Below.heap_alloc _ _ _ (by (try simp only [World.size_alloc]); have := lt_of_heap K_b.out; omega)).trans (K_b.out))))
    have K_g : Hid (w13.heap[w12.heap.size]? = some (.cells #[.string (mrC L i t), .string (mrN L i t), .string (mrD L i t)] 35)) := Lib.hid ((hb13.block (w12.heap.size) (by (try simp only [World.size_alloc]); omega)).trans ((by have h := World.alloc_heap_new w12 (.cells #[.string (mrC L i t), .string (mrN L i t), .string (mrD L i t)] 35); (try simp only [World.size_alloc] at h); exact h)))
    clear hb13
    have hB := hB13
    have lt_a : w2.heap.size < w13.heap.size := lt_of_heap K_a.out
    obtain ⟨a_0, a_1, a_2, a_3, a_4, fa_0, fa_1, fa_2, fa_3, fa_4⟩ := five_cells K_a.out
    have lt_b : w3.heap.size < w13.heap.size := lt_of_heap K_b.out
    obtain ⟨b_0, b_1, b_2, b_3, b_4, fb_0, fb_1, fb_2, fb_3, fb_4⟩ := five_cells K_b.out
    have lt_g : w12.heap.size < w13.heap.size := lt_of_heap K_g.out
    obtain ⟨g_0, g_1, g_2, fg_0, fg_1, fg_2⟩ := three_cells K_g.out
    clear z1 z2 z3 z4 z5 z6 z7 z8 z9 z10 z11 z12 z13 hB1 hB2 hB3 hB4 hB5 hB6 hB7 hB8 hB9 hB10 hB11 hB12 hB13
    clear fa_0 fa_1 fa_2 fa_3 fa_4 fb_0 fb_1 fb_2 fb_3 fb_4 fg_0 fg_1 fg_2 K_a K_b K_g
    go_wp2_with (go_at_call 13; refine (awake_any _).mono ?_; rintro e w1 ⟨rfl, hb1⟩; obtain ⟨hc1, hf1⟩ := bcell hb1; have hz1 := hb1.size; (try simp only [World.size_alloc, World.size_setCell] at hz1); (try have hza : w.heap.size < w1.heap.size := by omega); (try have hzb : w.heap.size + 1 < w1.heap.size := by omega); (try have hzc : w.heap.size + 1 + 1 < w1.heap.size := by omega); (try have hzd : wa.heap.size < w1.heap.size := by omega); (try replace hR := (hb1.block w.heap.size (by first | exact lt_heap hR | (have := lt_heap hR; simp; omega))).trans (by first | with_reducible exact hR | with_reducible exact laid_old hR)); replace hB := below_on (w := w) ((by repeat (first | with_reducible exact hB | with_reducible exact Below.refl _ _ | with_reducible refine below_al ?_ _ | with_reducible refine below_st ?_ (by first | exact Nat.le_refl _ | exact Nat.le_add_right _ _ | (simp; omega)) _))) hb1; clear hb1)
    go_ret
    exact ⟨rfl, hB⟩
  · have hB : Below w.heap.size w w := Below.refl _ _
    go_enter Tryd.func3, Tryd.ntmps3
    go_wp2_with (first | (go_at_call 12; refine (few_no hf _).mono ?_; rintro e w1 ⟨rfl, hb1⟩; obtain ⟨hc1, hf1⟩ := bcell hb1; have hz1 := hb1.size; (try simp only [World.size_alloc, World.size_setCell] at hz1); (try have hza : w.heap.size < w1.heap.size := by omega); (try have hzb : w.heap.size + 1 < w1.heap.size := by omega); (try have hzc : w.heap.size + 1 + 1 < w1.heap.size := by omega); (try have hzd : wa.heap.size < w1.heap.size := by omega); (try replace hR := (hb1.block w.heap.size (by first | exact lt_heap hR | (have := lt_heap hR; simp; omega))).trans (by first | with_reducible exact hR | with_reducible exact laid_old hR)); replace hB := below_on (w := w) ((by repeat (first | with_reducible exact hB | with_reducible exact Below.refl _ _ | with_reducible refine below_al ?_ _ | with_reducible refine below_st ?_ (by first | exact Nat.le_refl _ | exact Nat.le_add_right _ _ | (simp; omega)) _))) hb1; clear hb1) | (go_at_call 13; refine (awake_any _).mono ?_; rintro e w1 ⟨rfl, hb1⟩; obtain ⟨hc1, hf1⟩ := bcell hb1; have hz1 := hb1.size; (try simp only [World.size_alloc, World.size_setCell] at hz1); (try have hza : w.heap.size < w1.heap.size := by omega); (try have hzb : w.heap.size + 1 < w1.heap.size := by omega); (try have hzc : w.heap.size + 1 + 1 < w1.heap.size := by omega); (try have hzd : wa.heap.size < w1.heap.size := by omega); (try replace hR := (hb1.block w.heap.size (by first | exact lt_heap hR | (have := lt_heap hR; simp; omega))).trans (by first | with_reducible exact hR | with_reducible exact laid_old hR)); replace hB := below_on (w := w) ((by repeat (first | with_reducible exact hB | with_reducible exact Below.refl _ _ | with_reducible refine below_al ?_ _ | with_reducible refine below_st ?_ (by first | exact Nat.le_refl _ | exact Nat.le_add_right _ _ | (simp; omega)) _))) hb1; clear hb1))
    go_ret
    exact ⟨rfl, hB⟩

end Go.Proofs.YtfcefeepkpkcmaaDoor
