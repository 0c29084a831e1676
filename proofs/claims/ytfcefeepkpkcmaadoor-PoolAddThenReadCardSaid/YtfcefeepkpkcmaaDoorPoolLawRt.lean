/- Layer 5: PoolAddThenRead, the walk. -/
import Derived.Test.YtfcefeepkpkcmaaDoorPoolLawRd
import Derived.Test.YtfcefeepkpkcmaaDoorPoolSame
import Derived.Test.YtfcefeepkpkcmaaDoorPoolHas
namespace Go.Proofs.YtfcefeepkpkcmaaDoor
open Go.ChangeShapes Go.WideShapes Go.ChangeAt Go.RowKit Go.PlainAid
set_option linter.unusedSimpArgs false
set_option linter.unusedVariables false

theorem rt_full1 {L : List Cn} {n : Nat} {s : ByteArray} (hn : L.length = n) (t1 : (anE L 7 s != 0) = true) : (991 : Int) < (n : Int) := by
  have := an_full (bneT t1)
  omega
theorem rt_full2 {L : List Cn} {n : Nat} {s : ByteArray} (hn : L.length = n) (t1 : (anE L 7 s != 0) = false) (t2 : (anE (anL L 7 s) 8 s != 0) = true) : (991 : Int) < (n : Int) := by
  have := an_full (bneT t2)
  have := an_le L 7 s
  omega
theorem rt_full3 {L : List Cn} {n : Nat} {s ra rb rd : ByteArray} (hn : L.length = n) (t1 : (anE L 7 s != 0) = false) (t2 : (anE (anL L 7 s) 8 s != 0) = false) (t3 : (amE (anL (anL L 7 s) 8 s) 9 ra rb rd != 0) = true) : (991 : Int) < (n : Int) := by
  have h1 := (am_le (anL (anL L 7 s) 8 s) 9 ra rb rd).2 (bneT t3)
  obtain ⟨i, p1, _, _⟩ := an_has (bneF t1)
  have h2 := an_le1 (t := 8) p1
  have h3 := an_le L 7 s
  omega
set_option maxRecDepth 100000 in
set_option maxHeartbeats 4000000 in
theorem rt_1 {A : Option Addr} {n c : Nat} {L : List Cn} (s ra rb rd : ByteArray) (hn : L.length = n) (hc : n ≤ c) (w : World) (hp : Pool w w.heap.size A L) (hf : n ≤ 1100) (t1 : (anE L 7 s != 0) = true) :
    Calls Tryd.prog 6 #[.slice A n c, .string s, .agg #[.string ra, .string rb, .string rd]] w fun e w' => e = .returned (.bool true) ∧ Below w.heap.size w w' := by
  have HP := Lib.hid hp
  have HN := Lib.hid hn
  clear hp hn
  have hN : n ≤ 100000 := by omega
  have h991 := rt_full1 HN.out t1
  go_enter Tryd.func6, Tryd.ntmps6
  go_wp2_with fail
  refine (few_yes hf _).mono ?_
  rintro e w1 ⟨rfl, hb1⟩
  replace HP := Lib.hid (HP.out.up (below_on (below_al (Below.refl _ _) _) hb1))
  have z1 := hb1.size
  simp only [World.size_alloc] at z1
  have hB1 : Below w.heap.size w w1 := below_on (w := w) ((below_al (Below.refl w.heap.size w) _)) hb1
  have K_r : Hid (w1.heap[w.heap.size]? = some (.cells #[.string ra, .string rb, .string rd] 35)) := Lib.hid ((hb1.block (w.heap.size) (by (try simp only [World.size_alloc]); omega)).trans ((by have h := World.alloc_heap_new w (.cells #[.string ra, .string rb, .string rd] 35); (try simp only [World.size_alloc] at h); exact h)))
  clear hb1
  have lt_r1 : w.heap.size < w1.heap.size := lt_of_heap K_r.out
  obtain ⟨r_01, r_11, r_21, fr_01, fr_11, fr_21⟩ := three_cells K_r.out
  go_wp2_with fail
  refine (ac_any s HN.out hN hc HP.out _ (Below.refl _ _)).mono ?_
  rintro e w2 ⟨A2, n2, m2, rfl, hl2, hm2, hq2, hb2⟩
  replace HP := Lib.hid (HP.out.up (hb2))
  have HQ2 := Lib.hid hq2
  have HL2 := Lib.hid hl2
  have hN2 : n2 ≤ 100000 := HL2.out ▸ an_len (HN.out ▸ hN)
  clear hq2 hl2
  have z2 := hb2.size
  have hB2 : Below w.heap.size w w2 := below_on (w := w) (hB1) hb2
  replace K_r := Lib.hid ((hb2.block (w.heap.size) (by (try simp only [World.size_alloc]); have := lt_of_heap K_r.out; omega)).trans (K_r.out))
  clear hb2
  clear lt_r1 r_01 r_11 r_21 fr_01 fr_11 fr_21
  have lt_r2 : w.heap.size < w2.heap.size := lt_of_heap K_r.out
  obtain ⟨r_02, r_12, r_22, fr_02, fr_12, fr_22⟩ := three_cells K_r.out
  go_wp2_with fail
  refine (as_any s HL2.out hN2 hm2 HQ2.out _ (Below.refl _ _)).mono ?_
  rintro e w3 ⟨A3, n3, m3, rfl, hl3, hm3, hq3, hb3⟩
  replace HP := Lib.hid (HP.out.up (hb3))
  replace HQ2 := Lib.hid (HQ2.out.up (hb3))
  have HQ3 := Lib.hid hq3
  have HL3 := Lib.hid hl3
  have hN3 : n3 ≤ 100000 := HL3.out ▸ an_len (HL2.out ▸ hN2)
  clear hq3 hl3
  have z3 := hb3.size
  have hB3 : Below w.heap.size w w3 := below_on (w := w) (hB2) hb3
  replace K_r := Lib.hid ((hb3.block (w.heap.size) (by (try simp only [World.size_alloc]); have := lt_of_heap K_r.out; omega)).trans (K_r.out))
  clear hb3
  clear lt_r2 r_02 r_12 r_22 fr_02 fr_12 fr_22
  have lt_r3 : w.heap.size < w3.heap.size := lt_of_heap K_r.out
  obtain ⟨r_03, r_13, r_23, fr_03, fr_13, fr_23⟩ := three_cells K_r.out
  go_wp2_with fail
  refine (am_any 9 ra rb rd HL3.out hN3 hm3 HQ3.out _ (Below.refl _ _)).mono ?_
  rintro e w4 ⟨A4, n4, m4, rfl, hl4, hm4, hq4, hb4⟩
  replace HP := Lib.hid (HP.out.up (hb4))
  replace HQ2 := Lib.hid (HQ2.out.up (hb4))
  replace HQ3 := Lib.hid (HQ3.out.up (hb4))
  have HQ4 := Lib.hid hq4
  have HL4 := Lib.hid hl4
  have hN4 : n4 ≤ 100000 := HL4.out ▸ am_len (HL3.out ▸ hN3)
  clear hq4 hl4
  have z4 := hb4.size
  have hB4 : Below w.heap.size w w4 := below_on (w := w) (hB3) hb4
  replace K_r := Lib.hid ((hb4.block (w.heap.size) (by (try simp only [World.size_alloc]); have := lt_of_heap K_r.out; omega)).trans (K_r.out))
  clear hb4
  clear lt_r3 r_03 r_13 r_23 fr_03 fr_13 fr_23
  have lt_r4 : w.heap.size < w4.heap.size := lt_of_heap K_r.out
  obtain ⟨r_04, r_14, r_24, fr_04, fr_14, fr_24⟩ := three_cells K_r.out
  have hB := hB4
  go_wp2_with (go_at_call 13; refine (awake_any _).mono ?_; rintro e w1 ⟨rfl, hb1⟩; obtain ⟨hc1, hf1⟩ := bcell hb1; have hz1 := hb1.size; (try simp only [World.size_alloc, World.size_setCell] at hz1); (try have hza : w.heap.size < w1.heap.size := by omega); (try have hzb : w.heap.size + 1 < w1.heap.size := by omega); (try have hzc : w.heap.size + 1 + 1 < w1.heap.size := by omega); (try have hzd : wa.heap.size < w1.heap.size := by omega); (try replace hR := (hb1.block w.heap.size (by first | exact lt_heap hR | (have := lt_heap hR; simp; omega))).trans (by first | with_reducible exact hR | with_reducible exact laid_old hR)); replace hB := below_on (w := w) ((by repeat (first | with_reducible exact hB | with_reducible exact Below.refl _ _ | with_reducible refine below_al ?_ _ | with_reducible refine below_st ?_ (by first | exact Nat.le_refl _ | exact Nat.le_add_right _ _ | (simp; omega)) _))) hb1; clear hb1)
  go_ret
  exact ⟨rfl, hB⟩

set_option maxRecDepth 100000 in
set_option maxHeartbeats 4000000 in
theorem rt_2 {A : Option Addr} {n c : Nat} {L : List Cn} (s ra rb rd : ByteArray) (hn : L.length = n) (hc : n ≤ c) (w : World) (hp : Pool w w.heap.size A L) (hf : n ≤ 1100) (t1 : (anE L 7 s != 0) = false) (t2 : (anE (anL L 7 s) 8 s != 0) = true) :
    Calls Tryd.prog 6 #[.slice A n c, .string s, .agg #[.string ra, .string rb, .string rd]] w fun e w' => e = .returned (.bool true) ∧ Below w.heap.size w w' := by
  have HP := Lib.hid hp
  have HN := Lib.hid hn
  clear hp hn
  have hN : n ≤ 100000 := by omega
  have h991 := rt_full2 HN.out t1 t2
  go_enter Tryd.func6, Tryd.ntmps6
  go_wp2_with fail
  refine (few_yes hf _).mono ?_
  rintro e w1 ⟨rfl, hb1⟩
  replace HP := Lib.hid (HP.out.up (below_on (below_al (Below.refl _ _) _) hb1))
  have z1 := hb1.size
  simp only [World.size_alloc] at z1
  have hB1 : Below w.heap.size w w1 := below_on (w := w) ((below_al (Below.refl w.heap.size w) _)) hb1
  have K_r : Hid (w1.heap[w.heap.size]? = some (.cells #[.string ra, .string rb, .string rd] 35)) := Lib.hid ((hb1.block (w.heap.size) (by (try simp only [World.size_alloc]); omega)).trans ((by have h := World.alloc_heap_new w (.cells #[.string ra, .string rb, .string rd] 35); (try simp only [World.size_alloc] at h); exact h)))
  clear hb1
  have lt_r1 : w.heap.size < w1.heap.size := lt_of_heap K_r.out
  obtain ⟨r_01, r_11, r_21, fr_01, fr_11, fr_21⟩ := three_cells K_r.out
  go_wp2_with fail
  refine (ac_any s HN.out hN hc HP.out _ (Below.refl _ _)).mono ?_
  rintro e w2 ⟨A2, n2, m2, rfl, hl2, hm2, hq2, hb2⟩
  replace HP := Lib.hid (HP.out.up (hb2))
  have HQ2 := Lib.hid hq2
  have HL2 := Lib.hid hl2
  have hN2 : n2 ≤ 100000 := HL2.out ▸ an_len (HN.out ▸ hN)
  clear hq2 hl2
  have z2 := hb2.size
  have hB2 : Below w.heap.size w w2 := below_on (w := w) (hB1) hb2
  replace K_r := Lib.hid ((hb2.block (w.heap.size) (by (try simp only [World.size_alloc]); have := lt_of_heap K_r.out; omega)).trans (K_r.out))
  clear hb2
  clear lt_r1 r_01 r_11 r_21 fr_01 fr_11 fr_21
  have lt_r2 : w.heap.size < w2.heap.size := lt_of_heap K_r.out
  obtain ⟨r_02, r_12, r_22, fr_02, fr_12, fr_22⟩ := three_cells K_r.out
  go_wp2_with fail
  refine (as_any s HL2.out hN2 hm2 HQ2.out _ (Below.refl _ _)).mono ?_
  rintro e w3 ⟨A3, n3, m3, rfl, hl3, hm3, hq3, hb3⟩
  replace HP := Lib.hid (HP.out.up (hb3))
  replace HQ2 := Lib.hid (HQ2.out.up (hb3))
  have HQ3 := Lib.hid hq3
  have HL3 := Lib.hid hl3
  have hN3 : n3 ≤ 100000 := HL3.out ▸ an_len (HL2.out ▸ hN2)
  clear hq3 hl3
  have z3 := hb3.size
  have hB3 : Below w.heap.size w w3 := below_on (w := w) (hB2) hb3
  replace K_r := Lib.hid ((hb3.block (w.heap.size) (by (try simp only [World.size_alloc]); have := lt_of_heap K_r.out; omega)).trans (K_r.out))
  clear hb3
  clear lt_r2 r_02 r_12 r_22 fr_02 fr_12 fr_22
  have lt_r3 : w.heap.size < w3.heap.size := lt_of_heap K_r.out
  obtain ⟨r_03, r_13, r_23, fr_03, fr_13, fr_23⟩ := three_cells K_r.out
  go_wp2_with fail
  refine (am_any 9 ra rb rd HL3.out hN3 hm3 HQ3.out _ (Below.refl _ _)).mono ?_
  rintro e w4 ⟨A4, n4, m4, rfl, hl4, hm4, hq4, hb4⟩
  replace HP := Lib.hid (HP.out.up (hb4))
  replace HQ2 := Lib.hid (HQ2.out.up (hb4))
  replace HQ3 := Lib.hid (HQ3.out.up (hb4))
  have HQ4 := Lib.hid hq4
  have HL4 := Lib.hid hl4
  have hN4 : n4 ≤ 100000 := HL4.out ▸ am_len (HL3.out ▸ hN3)
  clear hq4 hl4
  have z4 := hb4.size
  have hB4 : Below w.heap.size w w4 := below_on (w := w) (hB3) hb4
  replace K_r := Lib.hid ((hb4.block (w.heap.size) (by (try simp only [World.size_alloc]); have := lt_of_heap K_r.out; omega)).trans (K_r.out))
  clear hb4
  clear lt_r3 r_03 r_13 r_23 fr_03 fr_13 fr_23
  have lt_r4 : w.heap.size < w4.heap.size := lt_of_heap K_r.out
  obtain ⟨r_04, r_14, r_24, fr_04, fr_14, fr_24⟩ := three_cells K_r.out
  have hB := hB4
  go_wp2_with (go_at_call 13; refine (awake_any _).mono ?_; rintro e w1 ⟨rfl, hb1⟩; obtain ⟨hc1, hf1⟩ := bcell hb1; have hz1 := hb1.size; (try simp only [World.size_alloc, World.size_setCell] at hz1); (try have hza : w.heap.size < w1.heap.size := by omega); (try have hzb : w.heap.size + 1 < w1.heap.size := by omega); (try have hzc : w.heap.size + 1 + 1 < w1.heap.size := by omega); (try have hzd : wa.heap.size < w1.heap.size := by omega); (try replace hR := (hb1.block w.heap.size (by first | exact lt_heap hR | (have := lt_heap hR; simp; omega))).trans (by first | with_reducible exact hR | with_reducible exact laid_old hR)); replace hB := below_on (w := w) ((by repeat (first | with_reducible exact hB | with_reducible exact Below.refl _ _ | with_reducible refine below_al ?_ _ | with_reducible refine below_st ?_ (by first | exact Nat.le_refl _ | exact Nat.le_add_right _ _ | (simp; omega)) _))) hb1; clear hb1)
  go_ret
  exact ⟨rfl, hB⟩

set_option maxRecDepth 100000 in
set_option maxHeartbeats 4000000 in
theorem rt_3 {A : Option Addr} {n c : Nat} {L : List Cn} (s ra rb rd : ByteArray) (hn : L.length = n) (hc : n ≤ c) (w : World) (hp : Pool w w.heap.size A L) (hf : n ≤ 1100) (t1 : (anE L 7 s != 0) = false) (t2 : (anE (anL L 7 s) 8 s != 0) = false) (t3 : (amE (anL (anL L 7 s) 8 s) 9 ra rb rd != 0) = true) :
    Calls Tryd.prog 6 #[.slice A n c, .string s, .agg #[.string ra, .string rb, .string rd]] w fun e w' => e = .returned (.bool true) ∧ Below w.heap.size w w' := by
  have HP := Lib.hid hp
  have HN := Lib.hid hn
  clear hp hn
  have hN : n ≤ 100000 := by omega
  have h991 := rt_full3 HN.out t1 t2 t3
  go_enter Tryd.func6, Tryd.ntmps6
  go_wp2_with fail
  refine (few_yes hf _).mono ?_
  rintro e w1 ⟨rfl, hb1⟩
  replace HP := Lib.hid (HP.out.up (below_on (below_al (Below.refl _ _) _) hb1))
  have z1 := hb1.size
  simp only [World.size_alloc] at z1
  have hB1 : Below w.heap.size w w1 := below_on (w := w) ((below_al (Below.refl w.heap.size w) _)) hb1
  have K_r : Hid (w1.heap[w.heap.size]? = some (.cells #[.string ra, .string rb, .string rd] 35)) := Lib.hid ((hb1.block (w.heap.size) (by (try simp only [World.size_alloc]); omega)).trans ((by have h := World.alloc_heap_new w (.cells #[.string ra, .string rb, .string rd] 35); (try simp only [World.size_alloc] at h); exact h)))
  clear hb1
  have lt_r1 : w.heap.size < w1.heap.size := lt_of_heap K_r.out
  obtain ⟨r_01, r_11, r_21, fr_01, fr_11, fr_21⟩ := three_cells K_r.out
  go_wp2_with fail
  refine (ac_any s HN.out hN hc HP.out _ (Below.refl _ _)).mono ?_
  rintro e w2 ⟨A2, n2, m2, rfl, hl2, hm2, hq2, hb2⟩
  replace HP := Lib.hid (HP.out.up (hb2))
  have HQ2 := Lib.hid hq2
  have HL2 := Lib.hid hl2
  have hN2 : n2 ≤ 100000 := HL2.out ▸ an_len (HN.out ▸ hN)
  clear hq2 hl2
  have z2 := hb2.size
  have hB2 : Below w.heap.size w w2 := below_on (w := w) (hB1) hb2
  replace K_r := Lib.hid ((hb2.block (w.heap.size) (by (try simp only [World.size_alloc]); have := lt_of_heap K_r.out; omega)).trans (K_r.out))
  clear hb2
  clear lt_r1 r_01 r_11 r_21 fr_01 fr_11 fr_21
  have lt_r2 : w.heap.size < w2.heap.size := lt_of_heap K_r.out
  obtain ⟨r_02, r_12, r_22, fr_02, fr_12, fr_22⟩ := three_cells K_r.out
  go_wp2_with fail
  refine (as_any s HL2.out hN2 hm2 HQ2.out _ (Below.refl _ _)).mono ?_
  rintro e w3 ⟨A3, n3, m3, rfl, hl3, hm3, hq3, hb3⟩
  replace HP := Lib.hid (HP.out.up (hb3))
  replace HQ2 := Lib.hid (HQ2.out.up (hb3))
  have HQ3 := Lib.hid hq3
  have HL3 := Lib.hid hl3
  have hN3 : n3 ≤ 100000 := HL3.out ▸ an_len (HL2.out ▸ hN2)
  clear hq3 hl3
  have z3 := hb3.size
  have hB3 : Below w.heap.size w w3 := below_on (w := w) (hB2) hb3
  replace K_r := Lib.hid ((hb3.block (w.heap.size) (by (try simp only [World.size_alloc]); have := lt_of_heap K_r.out; omega)).trans (K_r.out))
  clear hb3
  clear lt_r2 r_02 r_12 r_22 fr_02 fr_12 fr_22
  have lt_r3 : w.heap.size < w3.heap.size := lt_of_heap K_r.out
  obtain ⟨r_03, r_13, r_23, fr_03, fr_13, fr_23⟩ := three_cells K_r.out
  go_wp2_with fail
  refine (am_any 9 ra rb rd HL3.out hN3 hm3 HQ3.out _ (Below.refl _ _)).mono ?_
  rintro e w4 ⟨A4, n4, m4, rfl, hl4, hm4, hq4, hb4⟩
  replace HP := Lib.hid (HP.out.up (hb4))
  replace HQ2 := Lib.hid (HQ2.out.up (hb4))
  replace HQ3 := Lib.hid (HQ3.out.up (hb4))
  have HQ4 := Lib.hid hq4
  have HL4 := Lib.hid hl4
  have hN4 : n4 ≤ 100000 := HL4.out ▸ am_len (HL3.out ▸ hN3)
  clear hq4 hl4
  have z4 := hb4.size
  have hB4 : Below w.heap.size w w4 := below_on (w := w) (hB3) hb4
  replace K_r := Lib.hid ((hb4.block (w.heap.size) (by (try simp only [World.size_alloc]); have := lt_of_heap K_r.out; omega)).trans (K_r.out))
  clear hb4
  clear lt_r3 r_03 r_13 r_23 fr_03 fr_13 fr_23
  have lt_r4 : w.heap.size < w4.heap.size := lt_of_heap K_r.out
  obtain ⟨r_04, r_14, r_24, fr_04, fr_14, fr_24⟩ := three_cells K_r.out
  have hB := hB4
  go_wp2_with (go_at_call 13; refine (awake_any _).mono ?_; rintro e w1 ⟨rfl, hb1⟩; obtain ⟨hc1, hf1⟩ := bcell hb1; have hz1 := hb1.size; (try simp only [World.size_alloc, World.size_setCell] at hz1); (try have hza : w.heap.size < w1.heap.size := by omega); (try have hzb : w.heap.size + 1 < w1.heap.size := by omega); (try have hzc : w.heap.size + 1 + 1 < w1.heap.size := by omega); (try have hzd : wa.heap.size < w1.heap.size := by omega); (try replace hR := (hb1.block w.heap.size (by first | exact lt_heap hR | (have := lt_heap hR; simp; omega))).trans (by first | with_reducible exact hR | with_reducible exact laid_old hR)); replace hB := below_on (w := w) ((by repeat (first | with_reducible exact hB | with_reducible exact Below.refl _ _ | with_reducible refine below_al ?_ _ | with_reducible refine below_st ?_ (by first | exact Nat.le_refl _ | exact Nat.le_add_right _ _ | (simp; omega)) _))) hb1; clear hb1)
  go_ret
  exact ⟨rfl, hB⟩

set_option maxRecDepth 100000 in
set_option maxHeartbeats 4000000 in
theorem rt_4 {A : Option Addr} {n c : Nat} {L : List Cn} (s ra rb rd : ByteArray) (hn : L.length = n) (hc : n ≤ c) (w : World) (hp : Pool w w.heap.size A L) (hf : n ≤ 1100) (t1 : (anE L 7 s != 0) = false) (t2 : (anE (anL L 7 s) 8 s != 0) = false) (t3 : (amE (anL (anL L 7 s) 8 s) 9 ra rb rd != 0) = false) :
    Calls Tryd.prog 6 #[.slice A n c, .string s, .agg #[.string ra, .string rb, .string rd]] w fun e w' => e = .returned (.bool true) ∧ Below w.heap.size w w' := by
  have HP := Lib.hid hp
  have HN := Lib.hid hn
  clear hp hn
  have hN : n ≤ 100000 := by omega
  have HI := Lib.hid (an_has (bneF t1))
  have HJ := Lib.hid (an_has (bneF t2))
  have HK := Lib.hid (am_has (bneF t3))
  go_enter Tryd.func6, Tryd.ntmps6
  go_wp2_with fail
  refine (few_yes hf _).mono ?_
  rintro e w1 ⟨rfl, hb1⟩
  replace HP := Lib.hid (HP.out.up (below_on (below_al (Below.refl _ _) _) hb1))
  have z1 := hb1.size
  simp only [World.size_alloc] at z1
  have hB1 : Below w.heap.size w w1 := below_on (w := w) ((below_al (Below.refl w.heap.size w) _)) hb1
  have K_r : Hid (w1.heap[w.heap.size]? = some (.cells #[.string ra, .string rb, .string rd] 35)) := Lib.hid ((hb1.block (w.heap.size) (by (try simp only [World.size_alloc]); omega)).trans ((by have h := World.alloc_heap_new w (.cells #[.string ra, .string rb, .string rd] 35); (try simp only [World.size_alloc] at h); exact h)))
  clear hb1
  have lt_r1 : w.heap.size < w1.heap.size := lt_of_heap K_r.out
  obtain ⟨r_01, r_11, r_21, fr_01, fr_11, fr_21⟩ := three_cells K_r.out
  go_wp2_with fail
  refine (ac_any s HN.out hN hc HP.out _ (Below.refl _ _)).mono ?_
  rintro e w2 ⟨A2, n2, m2, rfl, hl2, hm2, hq2, hb2⟩
  replace HP := Lib.hid (HP.out.up (hb2))
  have HQ2 := Lib.hid hq2
  have HL2 := Lib.hid hl2
  have hN2 : n2 ≤ 100000 := HL2.out ▸ an_len (HN.out ▸ hN)
  clear hq2 hl2
  have z2 := hb2.size
  have hB2 : Below w.heap.size w w2 := below_on (w := w) (hB1) hb2
  replace K_r := Lib.hid ((hb2.block (w.heap.size) (by (try simp only [World.size_alloc]); have := lt_of_heap K_r.out; omega)).trans (K_r.out))
  clear hb2
  clear lt_r1 r_01 r_11 r_21 fr_01 fr_11 fr_21
  have lt_r2 : w.heap.size < w2.heap.size := lt_of_heap K_r.out
  obtain ⟨r_02, r_12, r_22, fr_02, fr_12, fr_22⟩ := three_cells K_r.out
  go_wp2_with fail
  refine (as_any s HL2.out hN2 hm2 HQ2.out _ (Below.refl _ _)).mono ?_
  rintro e w3 ⟨A3, n3, m3, rfl, hl3, hm3, hq3, hb3⟩
  replace HP := Lib.hid (HP.out.up (hb3))
  replace HQ2 := Lib.hid (HQ2.out.up (hb3))
  have HQ3 := Lib.hid hq3
  have HL3 := Lib.hid hl3
  have hN3 : n3 ≤ 100000 := HL3.out ▸ an_len (HL2.out ▸ hN2)
  clear hq3 hl3
  have z3 := hb3.size
  have hB3 : Below w.heap.size w w3 := below_on (w := w) (hB2) hb3
  replace K_r := Lib.hid ((hb3.block (w.heap.size) (by (try simp only [World.size_alloc]); have := lt_of_heap K_r.out; omega)).trans (K_r.out))
  clear hb3
  clear lt_r2 r_02 r_12 r_22 fr_02 fr_12 fr_22
  have lt_r3 : w.heap.size < w3.heap.size := lt_of_heap K_r.out
  obtain ⟨r_03, r_13, r_23, fr_03, fr_13, fr_23⟩ := three_cells K_r.out
  go_wp2_with fail
  refine (am_any 9 ra rb rd HL3.out hN3 hm3 HQ3.out _ (Below.refl _ _)).mono ?_
  rintro e w4 ⟨A4, n4, m4, rfl, hl4, hm4, hq4, hb4⟩
  replace HP := Lib.hid (HP.out.up (hb4))
  replace HQ2 := Lib.hid (HQ2.out.up (hb4))
  replace HQ3 := Lib.hid (HQ3.out.up (hb4))
  have HQ4 := Lib.hid hq4
  have HL4 := Lib.hid hl4
  have hN4 : n4 ≤ 100000 := HL4.out ▸ am_len (HL3.out ▸ hN3)
  clear hq4 hl4
  have z4 := hb4.size
  have hB4 : Below w.heap.size w w4 := below_on (w := w) (hB3) hb4
  replace K_r := Lib.hid ((hb4.block (w.heap.size) (by (try simp only [World.size_alloc]); have := lt_of_heap K_r.out; omega)).trans (K_r.out))
  clear hb4
  clear lt_r3 r_03 r_13 r_23 fr_03 fr_13 fr_23
  have lt_r4 : w.heap.size < w4.heap.size := lt_of_heap K_r.out
  obtain ⟨r_04, r_14, r_24, fr_04, fr_14, fr_24⟩ := three_cells K_r.out
  obtain ⟨i0, pi1, pi2, pi3⟩ := HI.out
  obtain ⟨j0, pj1, pj2, pj3⟩ := HJ.out
  obtain ⟨ka, kc, kb, kd, km, pk1, pk2, pk3, pk4, pk5, pk6, pk7⟩ := HK.out
  have X1 := Lib.hid (nm_has (pi1.pre (pj3.trans pk7)) (pi2.pre (pj3.trans pk7)))
  have X2 := Lib.hid (nm_has (pj1.pre pk7) (pj2.pre pk7))
  have X3 := Lib.hid (mr_has (t := 9) rfl pk1 pk2 pk3 pk4 pk5 pk6)
  have X4 := Lib.hid (mr_not (t' := 10) (by decide) pk6)
  have X5 := Lib.hid (am_again pk1 pk2 pk3 pk4 pk5 pk6)
  have X6 := Lib.hid (pi3.trans (pj3.trans pk7))
  have hne : 0 < n4 := by have h9 := pk6.1; rw [HL4.out] at h9; omega
  have hge : n ≤ n4 := by have h9 := X6.out.len; rw [HL4.out, HN.out] at h9; exact h9
  have hle : n4 ≤ n + 9 := by have h9 := (am_le (anL (anL L 7 s) 8 s) 9 ra rb rd).1; have h8 := an_le1 (t := 8) pi1; have h7 := an_le L 7 s; rw [HL4.out] at h9; have := HN.out; omega
  have i1 : (0 : Int) ≤ (n : Int) := by omega
  have i2 : (n : Int) ≤ (m4 : Int) := by omega
  have i3 : (n : Int) ≤ (n4 : Int) := by omega
  have i4 : (n4 : Int) ≤ (n : Int) + 9 := by omega
  obtain ⟨G4, O4, rfl⟩ : ∃ g o, A4 = some ⟨g, o, none⟩ := by
      rcases HQ4.out with h0 | ⟨g, o, e, _⟩
      · rw [h0] at HL4; have := HL4.out; simp at this; omega
      · exact ⟨g, o, e⟩
  clear pi1 pi2 pi3 pj1 pj2 pj3 pk1 pk2 pk3 pk4 pk5 pk6 pk7 HI HJ HK
  have C5 := cn_any (c := m4) (anI L 7 s) HL4.out hN4 HQ4.out w4 (Below.refl _ _)
  rw [X1.out.1, X1.out.2] at C5
  go_wp2_with fail
  refine (C5).mono ?_
  rintro e w5 ⟨rfl, hb5⟩
  replace HP := Lib.hid (HP.out.up (hb5))
  replace HQ2 := Lib.hid (HQ2.out.up (hb5))
  replace HQ3 := Lib.hid (HQ3.out.up (hb5))
  replace HQ4 := Lib.hid (HQ4.out.up (hb5))
  have z5 := hb5.size
  have hB5 : Below w.heap.size w w5 := below_on (w := w) (hB4) hb5
  replace K_r := Lib.hid ((hb5.block (w.heap.size) (by (try simp only [World.size_alloc]); have := lt_of_heap K_r.out; omega)).trans (K_r.out))
  clear hb5
  clear lt_r4 r_04 r_14 r_24 fr_04 fr_14 fr_24
  have lt_r5 : w.heap.size < w5.heap.size := lt_of_heap K_r.out
  obtain ⟨r_05, r_15, r_25, fr_05, fr_15, fr_25⟩ := three_cells K_r.out
  have C6 := sv_any (c := m4) (anI (anL L 7 s) 8 s) HL4.out hN4 HQ4.out w5 (Below.refl _ _)
  rw [X2.out.1, X2.out.2] at C6
  go_wp2_with fail
  refine (C6).mono ?_
  rintro e w6 ⟨rfl, hb6⟩
  replace HP := Lib.hid (HP.out.up (hb6))
  replace HQ2 := Lib.hid (HQ2.out.up (hb6))
  replace HQ3 := Lib.hid (HQ3.out.up (hb6))
  replace HQ4 := Lib.hid (HQ4.out.up (hb6))
  have z6 := hb6.size
  have hB6 : Below w.heap.size w w6 := below_on (w := w) (hB5) hb6
  replace K_r := Lib.hid ((hb6.block (w.heap.size) (by (try simp only [World.size_alloc]); have := lt_of_heap K_r.out; omega)).trans (K_r.out))
  clear hb6
  clear lt_r5 r_05 r_15 r_25 fr_05 fr_15 fr_25
  have lt_r6 : w.heap.size < w6.heap.size := lt_of_heap K_r.out
  obtain ⟨r_06, r_16, r_26, fr_06, fr_16, fr_26⟩ := three_cells K_r.out
  have C7 := mr_any (c := m4) (amI (anL (anL L 7 s) 8 s) 9 ra rb rd) 9 HL4.out hN4 HQ4.out w6 (Below.refl _ _)
  rw [X3.out.1, X3.out.2.1, X3.out.2.2.1, X3.out.2.2.2] at C7
  go_wp2_with fail
  refine (C7).mono ?_
  rintro e w7 ⟨rfl, hb7⟩
  replace HP := Lib.hid (HP.out.up (hb7))
  replace HQ2 := Lib.hid (HQ2.out.up (hb7))
  replace HQ3 := Lib.hid (HQ3.out.up (hb7))
  replace HQ4 := Lib.hid (HQ4.out.up (hb7))
  have z7 := hb7.size
  have hB7 : Below w.heap.size w w7 := below_on (w := w) (hB6) hb7
  replace K_r := Lib.hid ((hb7.block (w.heap.size) (by (try simp only [World.size_alloc]); have := lt_of_heap K_r.out; omega)).trans (K_r.out))
  clear hb7
  clear lt_r6 r_06 r_16 r_26 fr_06 fr_16 fr_26
  have lt_r7 : w.heap.size < w7.heap.size := lt_of_heap K_r.out
  obtain ⟨r_07, r_17, r_27, fr_07, fr_17, fr_27⟩ := three_cells K_r.out
  have C8 := mr_any (c := m4) (amI (anL (anL L 7 s) 8 s) 9 ra rb rd) 10 HL4.out hN4 HQ4.out ((w7.alloc (.cells #[.string ra, .string rb, .string rd] 35))) (below_al (Below.refl _ _) _)
  rw [X4.out.1, X4.out.2.1, X4.out.2.2.1, X4.out.2.2.2] at C8
  go_wp2_with fail
  refine (C8).mono ?_
  rintro e w8 ⟨rfl, hb8⟩
  replace HP := Lib.hid (HP.out.up (below_on (below_al (Below.refl _ _) _) hb8))
  replace HQ2 := Lib.hid (HQ2.out.up (below_on (below_al (Below.refl _ _) _) hb8))
  replace HQ3 := Lib.hid (HQ3.out.up (below_on (below_al (Below.refl _ _) _) hb8))
  replace HQ4 := Lib.hid (HQ4.out.up (below_on (below_al (Below.refl _ _) _) hb8))
  have z8 := hb8.size
  simp only [World.size_alloc] at z8
  have hB8 : Below w.heap.size w w8 := below_on (w := w) ((below_al hB7 _)) hb8
  replace K_r := Lib.hid ((hb8.block (w.heap.size) (by (try simp only [World.size_alloc]); have := lt_of_heap K_r.out; omega)).trans (((Below.heap_alloc _ _ _ (by (try simp only [World.size_alloc]); have := lt_of_heap K_r.out; omega)).trans (K_r.out))))
  have K_g : Hid (w8.heap[w7.heap.size]? = some (.cells #[.string ra, .string rb, .string rd] 35)) := Lib.hid ((hb8.block (w7.heap.size) (by (try simp only [World.size_alloc]); omega)).trans ((by have h := World.alloc_heap_new w7 (.cells #[.string ra, .string rb, .string rd] 35); (try simp only [World.size_alloc] at h); exact h)))
  clear hb8
  clear lt_r7 r_07 r_17 r_27 fr_07 fr_17 fr_27
  have lt_r8 : w.heap.size < w8.heap.size := lt_of_heap K_r.out
  obtain ⟨r_08, r_18, r_28, fr_08, fr_18, fr_28⟩ := three_cells K_r.out
  have lt_g8 : w7.heap.size < w8.heap.size := lt_of_heap K_g.out
  obtain ⟨g_08, g_18, g_28, fg_08, fg_18, fg_28⟩ := three_cells K_g.out
  have C9 := am_any 9 ra rb rd HL4.out hN4 hm4 HQ4.out ((w8.alloc (.cells #[.string ⟨#[]⟩, .string ⟨#[]⟩, .string ⟨#[]⟩] 35))) (below_al (Below.refl _ _) _)
  rw [X5.out.1, X5.out.2.1, X5.out.2.2] at C9
  go_wp2_with fail
  refine (C9).mono ?_
  rintro e w9 ⟨A9, n9, m9, rfl, hl9, hm9, hq9, hb9⟩
  replace HP := Lib.hid (HP.out.up (below_on (below_al (Below.refl _ _) _) hb9))
  replace HQ2 := Lib.hid (HQ2.out.up (below_on (below_al (Below.refl _ _) _) hb9))
  replace HQ3 := Lib.hid (HQ3.out.up (below_on (below_al (Below.refl _ _) _) hb9))
  replace HQ4 := Lib.hid (HQ4.out.up (below_on (below_al (Below.refl _ _) _) hb9))
  obtain rfl : n9 = n4 := hl9.symm.trans HL4.out
  have HQ9 := Lib.hid hq9
  clear hq9 hl9
  have z9 := hb9.size
  simp only [World.size_alloc] at z9
  have hB9 : Below w.heap.size w w9 := below_on (w := w) ((below_al hB8 _)) hb9
  replace K_r := Lib.hid ((hb9.block (w.heap.size) (by (try simp only [World.size_alloc]); have := lt_of_heap K_r.out; omega)).trans (((Below.heap_alloc _ _ _ (by (try simp only [World.size_alloc]); have := lt_of_heap K_r.out; omega)).trans (K_r.out))))
  replace K_g := Lib.hid ((hb9.block (w7.heap.size) (by (try simp only [World.size_alloc]); have := lt_of_heap K_g.out; omega)).trans (((Below.heap_alloc _ _ _ (by (try simp only [World.size_alloc]); have := lt_of_heap K_g.out; omega)).trans (K_g.out))))
  have K_e : Hid (w9.heap[w8.heap.size]? = some (.cells #[.string ⟨#[]⟩, .string ⟨#[]⟩, .string ⟨#[]⟩] 35)) := Lib.hid ((hb9.block (w8.heap.size) (by (try simp only [World.size_alloc]); omega)).trans ((by have h := World.alloc_heap_new w8 (.cells #[.string ⟨#[]⟩, .string ⟨#[]⟩, .string ⟨#[]⟩] 35); (try simp only [World.size_alloc] at h); exact h)))
  clear hb9
  clear lt_r8 r_08 r_18 r_28 fr_08 fr_18 fr_28
  clear lt_g8 g_08 g_18 g_28 fg_08 fg_18 fg_28
  have lt_r9 : w.heap.size < w9.heap.size := lt_of_heap K_r.out
  obtain ⟨r_09, r_19, r_29, fr_09, fr_19, fr_29⟩ := three_cells K_r.out
  have lt_g9 : w7.heap.size < w9.heap.size := lt_of_heap K_g.out
  obtain ⟨g_09, g_19, g_29, fg_09, fg_19, fg_29⟩ := three_cells K_g.out
  go_wp2_with fail
  refine (same_any HL4.out hN4 HQ9.out HQ4.out _ (Below.refl _ _)).mono ?_
  rintro e w10 ⟨rfl, hb10⟩
  replace HP := Lib.hid (HP.out.up (hb10))
  replace HQ2 := Lib.hid (HQ2.out.up (hb10))
  replace HQ3 := Lib.hid (HQ3.out.up (hb10))
  replace HQ4 := Lib.hid (HQ4.out.up (hb10))
  replace HQ9 := Lib.hid (HQ9.out.up (hb10))
  have z10 := hb10.size
  have hB10 : Below w.heap.size w w10 := below_on (w := w) (hB9) hb10
  replace K_r := Lib.hid ((hb10.block (w.heap.size) (by (try simp only [World.size_alloc]); have := lt_of_heap K_r.out; omega)).trans (K_r.out))
  replace K_g := Lib.hid ((hb10.block (w7.heap.size) (by (try simp only [World.size_alloc]); have := lt_of_heap K_g.out; omega)).trans (K_g.out))
  replace K_e := Lib.hid ((hb10.block (w8.heap.size) (by (try simp only [World.size_alloc]); have := lt_of_heap K_e.out; omega)).trans (K_e.out))
  clear hb10
  clear lt_r9 r_09 r_19 r_29 fr_09 fr_19 fr_29
  clear lt_g9 g_09 g_19 g_29 fg_09 fg_19 fg_29
  have lt_r10 : w.heap.size < w10.heap.size := lt_of_heap K_r.out
  obtain ⟨r_010, r_110, r_210, fr_010, fr_110, fr_210⟩ := three_cells K_r.out
  have lt_g10 : w7.heap.size < w10.heap.size := lt_of_heap K_g.out
  obtain ⟨g_010, g_110, g_210, fg_010, fg_110, fg_210⟩ := three_cells K_g.out
  go_wp2_with fail
  refine (awake_any _).mono ?_
  rintro e w11 ⟨rfl, hb11⟩
  replace HP := Lib.hid (HP.out.up (hb11))
  replace HQ2 := Lib.hid (HQ2.out.up (hb11))
  replace HQ3 := Lib.hid (HQ3.out.up (hb11))
  replace HQ4 := Lib.hid (HQ4.out.up (hb11))
  replace HQ9 := Lib.hid (HQ9.out.up (hb11))
  have z11 := hb11.size
  have hB11 : Below w.heap.size w w11 := below_on (w := w) (hB10) hb11
  replace K_r := Lib.hid ((hb11.block (w.heap.size) (by (try simp only [World.size_alloc]); have := lt_of_heap K_r.out; omega)).trans (K_r.out))
  replace K_g := Lib.hid ((hb11.block (w7.heap.size) (by (try simp only [World.size_alloc]); have := lt_of_heap K_g.out; omega)).trans (K_g.out))
  replace K_e := Lib.hid ((hb11.block (w8.heap.size) (by (try simp only [World.size_alloc]); have := lt_of_heap K_e.out; omega)).trans (K_e.out))
  clear hb11
  clear lt_r10 r_010 r_110 r_210 fr_010 fr_110 fr_210
  clear lt_g10 g_010 g_110 g_210 fg_010 fg_110 fg_210
  have lt_r11 : w.heap.size < w11.heap.size := lt_of_heap K_r.out
  obtain ⟨r_011, r_111, r_211, fr_011, fr_111, fr_211⟩ := three_cells K_r.out
  have lt_g11 : w7.heap.size < w11.heap.size := lt_of_heap K_g.out
  obtain ⟨g_011, g_111, g_211, fg_011, fg_111, fg_211⟩ := three_cells K_g.out
  go_wp2_with fail
  refine (same_any HN.out hN (HQ4.out.front X6.out) HP.out _ (Below.refl _ _)).mono ?_
  rintro e w12 ⟨rfl, hb12⟩
  replace HP := Lib.hid (HP.out.up (hb12))
  replace HQ2 := Lib.hid (HQ2.out.up (hb12))
  replace HQ3 := Lib.hid (HQ3.out.up (hb12))
  replace HQ4 := Lib.hid (HQ4.out.up (hb12))
  replace HQ9 := Lib.hid (HQ9.out.up (hb12))
  have z12 := hb12.size
  have hB12 : Below w.heap.size w w12 := below_on (w := w) (hB11) hb12
  replace K_r := Lib.hid ((hb12.block (w.heap.size) (by (try simp only [World.size_alloc]); have := lt_of_heap K_r.out; omega)).trans (K_r.out))
  replace K_g := Lib.hid ((hb12.block (w7.heap.size) (by (try simp only [World.size_alloc]); have := lt_of_heap K_g.out; omega)).trans (K_g.out))
  replace K_e := Lib.hid ((hb12.block (w8.heap.size) (by (try simp only [World.size_alloc]); have := lt_of_heap K_e.out; omega)).trans (K_e.out))
  clear hb12
  clear lt_r11 r_011 r_111 r_211 fr_011 fr_111 fr_211
  clear lt_g11 g_011 g_111 g_211 fg_011 fg_111 fg_211
  have lt_r12 : w.heap.size < w12.heap.size := lt_of_heap K_r.out
  obtain ⟨r_012, r_112, r_212, fr_012, fr_112, fr_212⟩ := three_cells K_r.out
  have lt_g12 : w7.heap.size < w12.heap.size := lt_of_heap K_g.out
  obtain ⟨g_012, g_112, g_212, fg_012, fg_112, fg_212⟩ := three_cells K_g.out
  have hB := hB12
  go_wp2
  go_ret
  exact ⟨rfl, hB⟩

theorem rt_law {A : Option Addr} {n c : Nat} {L : List Cn} (s ra rb rd : ByteArray) (hn : L.length = n) (hc : n ≤ c) (w : World) (hp : Pool w w.heap.size A L) :
    Calls Tryd.prog 6 #[.slice A n c, .string s, .agg #[.string ra, .string rb, .string rd]] w fun e w' => e = .returned (.bool true) ∧ Below w.heap.size w w' := by
  by_cases hf : n ≤ 1100
  · cases t1 : (anE L 7 s != 0) with
    | true => exact rt_1 s ra rb rd hn hc w hp hf t1
    | false =>
      cases t2 : (anE (anL L 7 s) 8 s != 0) with
      | true => exact rt_2 s ra rb rd hn hc w hp hf t1 t2
      | false =>
        cases t3 : (amE (anL (anL L 7 s) 8 s) 9 ra rb rd != 0) with
        | true => exact rt_3 s ra rb rd hn hc w hp hf t1 t2 t3
        | false => exact rt_4 s ra rb rd hn hc w hp hf t1 t2 t3
  · have hB : Below w.heap.size w w := Below.refl _ _
    go_enter Tryd.func6, Tryd.ntmps6
    go_wp2_with (first | (go_at_call 12; refine (few_no hf _).mono ?_; rintro e w1 ⟨rfl, hb1⟩; obtain ⟨hc1, hf1⟩ := bcell hb1; have hz1 := hb1.size; (try simp only [World.size_alloc, World.size_setCell] at hz1); (try have hza : w.heap.size < w1.heap.size := by omega); (try have hzb : w.heap.size + 1 < w1.heap.size := by omega); (try have hzc : w.heap.size + 1 + 1 < w1.heap.size := by omega); (try have hzd : wa.heap.size < w1.heap.size := by omega); (try replace hR := (hb1.block w.heap.size (by first | exact lt_heap hR | (have := lt_heap hR; simp; omega))).trans (by first | with_reducible exact hR | with_reducible exact laid_old hR)); replace hB := below_on (w := w) ((by repeat (first | with_reducible exact hB | with_reducible exact Below.refl _ _ | with_reducible refine below_al ?_ _ | with_reducible refine below_st ?_ (by first | exact Nat.le_refl _ | exact Nat.le_add_right _ _ | (simp; omega)) _))) hb1; clear hb1) | (go_at_call 13; refine (awake_any _).mono ?_; rintro e w1 ⟨rfl, hb1⟩; obtain ⟨hc1, hf1⟩ := bcell hb1; have hz1 := hb1.size; (try simp only [World.size_alloc, World.size_setCell] at hz1); (try have hza : w.heap.size < w1.heap.size := by omega); (try have hzb : w.heap.size + 1 < w1.heap.size := by omega); (try have hzc : w.heap.size + 1 + 1 < w1.heap.size := by omega); (try have hzd : wa.heap.size < w1.heap.size := by omega); (try replace hR := (hb1.block w.heap.size (by first | exact lt_heap hR | (have := lt_heap hR; simp; omega))).trans (by first | with_reducible exact hR | with_reducible exact laid_old hR)); replace hB := below_on (w := w) ((by repeat (first | with_reducible exact hB | with_reducible exact Below.refl _ _ | with_reducible refine below_al ?_ _ | with_reducible refine below_st ?_ (by first | exact Nat.le_refl _ | exact Nat.le_add_right _ _ | (simp; omega)) _))) hb1; clear hb1))
    go_ret
    exact ⟨rfl, hB⟩

end Go.Proofs.YtfcefeepkpkcmaaDoor
