/- Layer 5: PoolAddReference, the walk. -/
import Derived.Test.YtfcefeepkpkcmaaDoorPoolLawRd
import Derived.Test.YtfcefeepkpkcmaaDoorPoolSame
namespace Go.Proofs.YtfcefeepkpkcmaaDoor
open Go.ChangeShapes Go.WideShapes Go.ChangeAt Go.RowKit Go.PlainAid
set_option linter.unusedSimpArgs false
set_option linter.unusedVariables false

set_option maxRecDepth 100000 in
set_option maxHeartbeats 4000000 in
theorem add_law {A : Option Addr} {n c : Nat} {L : List Cn} (x : Cn) (s : ByteArray) (t : Int) (ra rb rd : ByteArray) (hn : L.length = n) (hc : n ≤ c) (w : World) (hp : Pool w w.heap.size A L) :
    Calls Tryd.prog 5 #[.slice A n c, (Value.agg #[Value.int IntKind.i64 (Cn.t x), Value.string (Cn.s x), Value.int IntKind.i64 (Cn.n x), Value.int IntKind.i64 (Cn.a x), Value.int IntKind.i64 (Cn.b x)]), .string s, .int .i64 t, .agg #[.string ra, .string rb, .string rd]] w fun e w' => e = .returned (.bool true) ∧ Below w.heap.size w w' := by
  have HP := Lib.hid hp
  have HN := Lib.hid hn
  clear hp hn
  by_cases hf : n ≤ 1100
  · have hN : n ≤ 100000 := by omega
    go_enter Tryd.func5, Tryd.ntmps5
    go_wp2_with fail
    refine (few_yes hf _).mono ?_
    rintro e w1 ⟨rfl, hb1⟩
    replace HP := Lib.hid (HP.out.up (below_on (below_al (below_al (Below.refl _ _) _) _) hb1))
    have z1 := hb1.size
    simp only [World.size_alloc] at z1
    have hB1 : Below w.heap.size w w1 := below_on (w := w) ((below_al (below_al (Below.refl w.heap.size w) _) _)) hb1
    have K_c : Hid (w1.heap[w.heap.size]? = some (.cells #[.int .i64 x.t, .string x.s, .int .i64 x.n, .int .i64 x.a, .int .i64 x.b] 26)) := Lib.hid ((hb1.block (w.heap.size) (by (try simp only [World.size_alloc]); omega)).trans (((Below.heap_alloc _ _ _ (by (try simp only [World.size_alloc]); omega)).trans ((by have h := World.alloc_heap_new w (.cells #[.int .i64 x.t, .string x.s, .int .i64 x.n, .int .i64 x.a, .int .i64 x.b] 26); (try simp only [World.size_alloc] at h); exact h)))))
    have K_r : Hid (w1.heap[w.heap.size + 1]? = some (.cells #[.string ra, .string rb, .string rd] 35)) := Lib.hid ((hb1.block (w.heap.size + 1) (by (try simp only [World.size_alloc]); omega)).trans ((by have h := World.alloc_heap_new (w.alloc (.cells #[.int .i64 x.t, .string x.s, .int .i64 x.n, .int .i64 x.a, .int .i64 x.b] 26)) (.cells #[.string ra, .string rb, .string rd] 35); (try simp only [World.size_alloc] at h); exact h)))
    clear hb1
    have lt_c1 : w.heap.size < w1.heap.size := lt_of_heap K_c.out
    obtain ⟨c_01, c_11, c_21, c_31, c_41, fc_01, fc_11, fc_21, fc_31, fc_41⟩ := five_cells K_c.out
    have lt_r1 : w.heap.size + 1 < w1.heap.size := lt_of_heap K_r.out
    obtain ⟨r_01, r_11, r_21, fr_01, fr_11, fr_21⟩ := three_cells K_r.out
    go_upto_region 4 with (at_builtin; refine wpList_append_copy (n := n) (by rfl) _ _ (by rfl) (by rfl) (by rfl) (HP.out.up (below_al (Below.refl _ _) _)) HN.out hN ?_; intro AO cO w2 hO hb2)
    replace HP := Lib.hid (HP.out.up (below_on (below_al (Below.refl _ _) _) hb2))
    have HO := Lib.hid hO.pool
    have hOc := hO.2.1
    clear hO
    have z2 := hb2.size
    simp only [World.size_alloc] at z2
    have hB2 : Below w.heap.size w w2 := below_on (w := w) ((below_al hB1 _)) hb2
    replace K_c := Lib.hid ((hb2.block (w.heap.size) (by (try simp only [World.size_alloc]); have := lt_of_heap K_c.out; omega)).trans (((Below.heap_alloc _ _ _ (by (try simp only [World.size_alloc]); have := lt_of_heap K_c.out; omega)).trans (K_c.out))))
    replace K_r := Lib.hid ((hb2.block (w.heap.size + 1) (by (try simp only [World.size_alloc]); have := lt_of_heap K_r.out; omega)).trans (((Below.heap_alloc _ _ _ (by (try simp only [World.size_alloc]); have := lt_of_heap K_r.out; omega)).trans (K_r.out))))
    have K_z : Hid (w2.heap[w1.heap.size]? = some (.cells #[] 26)) := Lib.hid ((hb2.block (w1.heap.size) (by (try simp only [World.size_alloc]); omega)).trans ((by have h := World.alloc_heap_new w1 (.cells #[] 26); (try simp only [World.size_alloc] at h); exact h)))
    clear hb2
    clear lt_c1 c_01 c_11 c_21 c_31 c_41 fc_01 fc_11 fc_21 fc_31 fc_41
    clear lt_r1 r_01 r_11 r_21 fr_01 fr_11 fr_21
    have lt_c2 : w.heap.size < w2.heap.size := lt_of_heap K_c.out
    obtain ⟨c_02, c_12, c_22, c_32, c_42, fc_02, fc_12, fc_22, fc_32, fc_42⟩ := five_cells K_c.out
    have lt_r2 : w.heap.size + 1 < w2.heap.size := lt_of_heap K_r.out
    obtain ⟨r_02, r_12, r_22, fr_02, fr_12, fr_22⟩ := three_cells K_r.out
    clear K_z
    go_wp2_with fail
    refine (add_any x HN.out hN hOc HO.out _ (Below.refl _ _)).mono ?_
    rintro e w3 ⟨A3, n3, m3, rfl, hl3, hm3, hq3, hb3⟩
    replace HP := Lib.hid (HP.out.up (hb3))
    replace HO := Lib.hid (HO.out.up (hb3))
    have HQ3 := Lib.hid hq3
    have HL3 := Lib.hid hl3
    have hN3 : n3 ≤ 100000 := HL3.out ▸ ad_len (HN.out ▸ hN)
    clear hq3 hl3
    have z3 := hb3.size
    have hB3 : Below w.heap.size w w3 := below_on (w := w) (hB2) hb3
    replace K_c := Lib.hid ((hb3.block (w.heap.size) (by (try simp only [World.size_alloc]); have := lt_of_heap K_c.out; omega)).trans (K_c.out))
    replace K_r := Lib.hid ((hb3.block (w.heap.size + 1) (by (try simp only [World.size_alloc]); have := lt_of_heap K_r.out; omega)).trans (K_r.out))
    clear hb3
    clear lt_c2 c_02 c_12 c_22 c_32 c_42 fc_02 fc_12 fc_22 fc_32 fc_42
    clear lt_r2 r_02 r_12 r_22 fr_02 fr_12 fr_22
    have lt_c3 : w.heap.size < w3.heap.size := lt_of_heap K_c.out
    obtain ⟨c_03, c_13, c_23, c_33, c_43, fc_03, fc_13, fc_23, fc_33, fc_43⟩ := five_cells K_c.out
    have lt_r3 : w.heap.size + 1 < w3.heap.size := lt_of_heap K_r.out
    obtain ⟨r_03, r_13, r_23, fr_03, fr_13, fr_23⟩ := three_cells K_r.out
    go_wp2_with fail
    refine (radd_any x HN.out hN hc HP.out _ (Below.refl _ _)).mono ?_
    rintro e w4 ⟨A4, n4, m4, rfl, hl4, hm4, hq4, hb4⟩
    replace HP := Lib.hid (HP.out.up (hb4))
    replace HO := Lib.hid (HO.out.up (hb4))
    replace HQ3 := Lib.hid (HQ3.out.up (hb4))
    obtain rfl : n4 = n3 := hl4.symm.trans HL3.out
    have HQ4 := Lib.hid hq4
    clear hq4 hl4
    have z4 := hb4.size
    have hB4 : Below w.heap.size w w4 := below_on (w := w) (hB3) hb4
    replace K_c := Lib.hid ((hb4.block (w.heap.size) (by (try simp only [World.size_alloc]); have := lt_of_heap K_c.out; omega)).trans (K_c.out))
    replace K_r := Lib.hid ((hb4.block (w.heap.size + 1) (by (try simp only [World.size_alloc]); have := lt_of_heap K_r.out; omega)).trans (K_r.out))
    clear hb4
    clear lt_c3 c_03 c_13 c_23 c_33 c_43 fc_03 fc_13 fc_23 fc_33 fc_43
    clear lt_r3 r_03 r_13 r_23 fr_03 fr_13 fr_23
    have lt_c4 : w.heap.size < w4.heap.size := lt_of_heap K_c.out
    obtain ⟨c_04, c_14, c_24, c_34, c_44, fc_04, fc_14, fc_24, fc_34, fc_44⟩ := five_cells K_c.out
    have lt_r4 : w.heap.size + 1 < w4.heap.size := lt_of_heap K_r.out
    obtain ⟨r_04, r_14, r_24, fr_04, fr_14, fr_24⟩ := three_cells K_r.out
    go_wp2_with fail
    refine (au_any s HN.out hN hOc HO.out _ (Below.refl _ _)).mono ?_
    rintro e w5 ⟨A5, n5, m5, rfl, hl5, hm5, hq5, hb5⟩
    replace HP := Lib.hid (HP.out.up (hb5))
    replace HO := Lib.hid (HO.out.up (hb5))
    replace HQ3 := Lib.hid (HQ3.out.up (hb5))
    replace HQ4 := Lib.hid (HQ4.out.up (hb5))
    have HQ5 := Lib.hid hq5
    have HL5 := Lib.hid hl5
    have hN5 : n5 ≤ 100000 := HL5.out ▸ ad_len (HN.out ▸ hN)
    clear hq5 hl5
    have z5 := hb5.size
    have hB5 : Below w.heap.size w w5 := below_on (w := w) (hB4) hb5
    replace K_c := Lib.hid ((hb5.block (w.heap.size) (by (try simp only [World.size_alloc]); have := lt_of_heap K_c.out; omega)).trans (K_c.out))
    replace K_r := Lib.hid ((hb5.block (w.heap.size + 1) (by (try simp only [World.size_alloc]); have := lt_of_heap K_r.out; omega)).trans (K_r.out))
    clear hb5
    clear lt_c4 c_04 c_14 c_24 c_34 c_44 fc_04 fc_14 fc_24 fc_34 fc_44
    clear lt_r4 r_04 r_14 r_24 fr_04 fr_14 fr_24
    have lt_c5 : w.heap.size < w5.heap.size := lt_of_heap K_c.out
    obtain ⟨c_05, c_15, c_25, c_35, c_45, fc_05, fc_15, fc_25, fc_35, fc_45⟩ := five_cells K_c.out
    have lt_r5 : w.heap.size + 1 < w5.heap.size := lt_of_heap K_r.out
    obtain ⟨r_05, r_15, r_25, fr_05, fr_15, fr_25⟩ := three_cells K_r.out
    go_wp2_with fail
    refine (rau_any s HN.out hN hc HP.out _ (Below.refl _ _)).mono ?_
    rintro e w6 ⟨A6, n6, m6, rfl, hl6, hm6, hq6, hb6⟩
    replace HP := Lib.hid (HP.out.up (hb6))
    replace HO := Lib.hid (HO.out.up (hb6))
    replace HQ3 := Lib.hid (HQ3.out.up (hb6))
    replace HQ4 := Lib.hid (HQ4.out.up (hb6))
    replace HQ5 := Lib.hid (HQ5.out.up (hb6))
    obtain rfl : n6 = n5 := hl6.symm.trans HL5.out
    have HQ6 := Lib.hid hq6
    clear hq6 hl6
    have z6 := hb6.size
    have hB6 : Below w.heap.size w w6 := below_on (w := w) (hB5) hb6
    replace K_c := Lib.hid ((hb6.block (w.heap.size) (by (try simp only [World.size_alloc]); have := lt_of_heap K_c.out; omega)).trans (K_c.out))
    replace K_r := Lib.hid ((hb6.block (w.heap.size + 1) (by (try simp only [World.size_alloc]); have := lt_of_heap K_r.out; omega)).trans (K_r.out))
    clear hb6
    clear lt_c5 c_05 c_15 c_25 c_35 c_45 fc_05 fc_15 fc_25 fc_35 fc_45
    clear lt_r5 r_05 r_15 r_25 fr_05 fr_15 fr_25
    have lt_c6 : w.heap.size < w6.heap.size := lt_of_heap K_c.out
    obtain ⟨c_06, c_16, c_26, c_36, c_46, fc_06, fc_16, fc_26, fc_36, fc_46⟩ := five_cells K_c.out
    have lt_r6 : w.heap.size + 1 < w6.heap.size := lt_of_heap K_r.out
    obtain ⟨r_06, r_16, r_26, fr_06, fr_16, fr_26⟩ := three_cells K_r.out
    go_wp2_with fail
    refine (ac_any s HN.out hN hOc HO.out _ (Below.refl _ _)).mono ?_
    rintro e w7 ⟨A7, n7, m7, rfl, hl7, hm7, hq7, hb7⟩
    replace HP := Lib.hid (HP.out.up (hb7))
    replace HO := Lib.hid (HO.out.up (hb7))
    replace HQ3 := Lib.hid (HQ3.out.up (hb7))
    replace HQ4 := Lib.hid (HQ4.out.up (hb7))
    replace HQ5 := Lib.hid (HQ5.out.up (hb7))
    replace HQ6 := Lib.hid (HQ6.out.up (hb7))
    have HQ7 := Lib.hid hq7
    have HL7 := Lib.hid hl7
    have hN7 : n7 ≤ 100000 := HL7.out ▸ an_len (HN.out ▸ hN)
    clear hq7 hl7
    have z7 := hb7.size
    have hB7 : Below w.heap.size w w7 := below_on (w := w) (hB6) hb7
    replace K_c := Lib.hid ((hb7.block (w.heap.size) (by (try simp only [World.size_alloc]); have := lt_of_heap K_c.out; omega)).trans (K_c.out))
    replace K_r := Lib.hid ((hb7.block (w.heap.size + 1) (by (try simp only [World.size_alloc]); have := lt_of_heap K_r.out; omega)).trans (K_r.out))
    clear hb7
    clear lt_c6 c_06 c_16 c_26 c_36 c_46 fc_06 fc_16 fc_26 fc_36 fc_46
    clear lt_r6 r_06 r_16 r_26 fr_06 fr_16 fr_26
    have lt_c7 : w.heap.size < w7.heap.size := lt_of_heap K_c.out
    obtain ⟨c_07, c_17, c_27, c_37, c_47, fc_07, fc_17, fc_27, fc_37, fc_47⟩ := five_cells K_c.out
    have lt_r7 : w.heap.size + 1 < w7.heap.size := lt_of_heap K_r.out
    obtain ⟨r_07, r_17, r_27, fr_07, fr_17, fr_27⟩ := three_cells K_r.out
    go_wp2_with fail
    refine (rac_any s HN.out hN hc HP.out _ (Below.refl _ _)).mono ?_
    rintro e w8 ⟨A8, n8, m8, rfl, hl8, hm8, hq8, hb8⟩
    replace HP := Lib.hid (HP.out.up (hb8))
    replace HO := Lib.hid (HO.out.up (hb8))
    replace HQ3 := Lib.hid (HQ3.out.up (hb8))
    replace HQ4 := Lib.hid (HQ4.out.up (hb8))
    replace HQ5 := Lib.hid (HQ5.out.up (hb8))
    replace HQ6 := Lib.hid (HQ6.out.up (hb8))
    replace HQ7 := Lib.hid (HQ7.out.up (hb8))
    obtain rfl : n8 = n7 := hl8.symm.trans HL7.out
    have HQ8 := Lib.hid hq8
    clear hq8 hl8
    have z8 := hb8.size
    have hB8 : Below w.heap.size w w8 := below_on (w := w) (hB7) hb8
    replace K_c := Lib.hid ((hb8.block (w.heap.size) (by (try simp only [World.size_alloc]); have := lt_of_heap K_c.out; omega)).trans (K_c.out))
    replace K_r := Lib.hid ((hb8.block (w.heap.size + 1) (by (try simp only [World.size_alloc]); have := lt_of_heap K_r.out; omega)).trans (K_r.out))
    clear hb8
    clear lt_c7 c_07 c_17 c_27 c_37 c_47 fc_07 fc_17 fc_27 fc_37 fc_47
    clear lt_r7 r_07 r_17 r_27 fr_07 fr_17 fr_27
    have lt_c8 : w.heap.size < w8.heap.size := lt_of_heap K_c.out
    obtain ⟨c_08, c_18, c_28, c_38, c_48, fc_08, fc_18, fc_28, fc_38, fc_48⟩ := five_cells K_c.out
    have lt_r8 : w.heap.size + 1 < w8.heap.size := lt_of_heap K_r.out
    obtain ⟨r_08, r_18, r_28, fr_08, fr_18, fr_28⟩ := three_cells K_r.out
    go_wp2_with fail
    refine (as_any s HN.out hN hOc HO.out _ (Below.refl _ _)).mono ?_
    rintro e w9 ⟨A9, n9, m9, rfl, hl9, hm9, hq9, hb9⟩
    replace HP := Lib.hid (HP.out.up (hb9))
    replace HO := Lib.hid (HO.out.up (hb9))
    replace HQ3 := Lib.hid (HQ3.out.up (hb9))
    replace HQ4 := Lib.hid (HQ4.out.up (hb9))
    replace HQ5 := Lib.hid (HQ5.out.up (hb9))
    replace HQ6 := Lib.hid (HQ6.out.up (hb9))
    replace HQ7 := Lib.hid (HQ7.out.up (hb9))
    replace HQ8 := Lib.hid (HQ8.out.up (hb9))
    have HQ9 := Lib.hid hq9
    have HL9 := Lib.hid hl9
    have hN9 : n9 ≤ 100000 := HL9.out ▸ an_len (HN.out ▸ hN)
    clear hq9 hl9
    have z9 := hb9.size
    have hB9 : Below w.heap.size w w9 := below_on (w := w) (hB8) hb9
    replace K_c := Lib.hid ((hb9.block (w.heap.size) (by (try simp only [World.size_alloc]); have := lt_of_heap K_c.out; omega)).trans (K_c.out))
    replace K_r := Lib.hid ((hb9.block (w.heap.size + 1) (by (try simp only [World.size_alloc]); have := lt_of_heap K_r.out; omega)).trans (K_r.out))
    clear hb9
    clear lt_c8 c_08 c_18 c_28 c_38 c_48 fc_08 fc_18 fc_28 fc_38 fc_48
    clear lt_r8 r_08 r_18 r_28 fr_08 fr_18 fr_28
    have lt_c9 : w.heap.size < w9.heap.size := lt_of_heap K_c.out
    obtain ⟨c_09, c_19, c_29, c_39, c_49, fc_09, fc_19, fc_29, fc_39, fc_49⟩ := five_cells K_c.out
    have lt_r9 : w.heap.size + 1 < w9.heap.size := lt_of_heap K_r.out
    obtain ⟨r_09, r_19, r_29, fr_09, fr_19, fr_29⟩ := three_cells K_r.out
    go_wp2_with fail
    refine (ras_any s HN.out hN hc HP.out _ (Below.refl _ _)).mono ?_
    rintro e w10 ⟨A10, n10, m10, rfl, hl10, hm10, hq10, hb10⟩
    replace HP := Lib.hid (HP.out.up (hb10))
    replace HO := Lib.hid (HO.out.up (hb10))
    replace HQ3 := Lib.hid (HQ3.out.up (hb10))
    replace HQ4 := Lib.hid (HQ4.out.up (hb10))
    replace HQ5 := Lib.hid (HQ5.out.up (hb10))
    replace HQ6 := Lib.hid (HQ6.out.up (hb10))
    replace HQ7 := Lib.hid (HQ7.out.up (hb10))
    replace HQ8 := Lib.hid (HQ8.out.up (hb10))
    replace HQ9 := Lib.hid (HQ9.out.up (hb10))
    obtain rfl : n10 = n9 := hl10.symm.trans HL9.out
    have HQ10 := Lib.hid hq10
    clear hq10 hl10
    have z10 := hb10.size
    have hB10 : Below w.heap.size w w10 := below_on (w := w) (hB9) hb10
    replace K_c := Lib.hid ((hb10.block (w.heap.size) (by (try simp only [World.size_alloc]); have := lt_of_heap K_c.out; omega)).trans (K_c.out))
    replace K_r := Lib.hid ((hb10.block (w.heap.size + 1) (by (try simp only [World.size_alloc]); have := lt_of_heap K_r.out; omega)).trans (K_r.out))
    clear hb10
    clear lt_c9 c_09 c_19 c_29 c_39 c_49 fc_09 fc_19 fc_29 fc_39 fc_49
    clear lt_r9 r_09 r_19 r_29 fr_09 fr_19 fr_29
    have lt_c10 : w.heap.size < w10.heap.size := lt_of_heap K_c.out
    obtain ⟨c_010, c_110, c_210, c_310, c_410, fc_010, fc_110, fc_210, fc_310, fc_410⟩ := five_cells K_c.out
    have lt_r10 : w.heap.size + 1 < w10.heap.size := lt_of_heap K_r.out
    obtain ⟨r_010, r_110, r_210, fr_010, fr_110, fr_210⟩ := three_cells K_r.out
    go_wp2_with fail
    refine (am_any t ra rb rd HN.out hN hOc HO.out _ (Below.refl _ _)).mono ?_
    rintro e w11 ⟨A11, n11, m11, rfl, hl11, hm11, hq11, hb11⟩
    replace HP := Lib.hid (HP.out.up (hb11))
    replace HO := Lib.hid (HO.out.up (hb11))
    replace HQ3 := Lib.hid (HQ3.out.up (hb11))
    replace HQ4 := Lib.hid (HQ4.out.up (hb11))
    replace HQ5 := Lib.hid (HQ5.out.up (hb11))
    replace HQ6 := Lib.hid (HQ6.out.up (hb11))
    replace HQ7 := Lib.hid (HQ7.out.up (hb11))
    replace HQ8 := Lib.hid (HQ8.out.up (hb11))
    replace HQ9 := Lib.hid (HQ9.out.up (hb11))
    replace HQ10 := Lib.hid (HQ10.out.up (hb11))
    have HQ11 := Lib.hid hq11
    have HL11 := Lib.hid hl11
    have hN11 : n11 ≤ 100000 := HL11.out ▸ am_len (HN.out ▸ hN)
    clear hq11 hl11
    have z11 := hb11.size
    have hB11 : Below w.heap.size w w11 := below_on (w := w) (hB10) hb11
    replace K_c := Lib.hid ((hb11.block (w.heap.size) (by (try simp only [World.size_alloc]); have := lt_of_heap K_c.out; omega)).trans (K_c.out))
    replace K_r := Lib.hid ((hb11.block (w.heap.size + 1) (by (try simp only [World.size_alloc]); have := lt_of_heap K_r.out; omega)).trans (K_r.out))
    clear hb11
    clear lt_c10 c_010 c_110 c_210 c_310 c_410 fc_010 fc_110 fc_210 fc_310 fc_410
    clear lt_r10 r_010 r_110 r_210 fr_010 fr_110 fr_210
    have lt_c11 : w.heap.size < w11.heap.size := lt_of_heap K_c.out
    obtain ⟨c_011, c_111, c_211, c_311, c_411, fc_011, fc_111, fc_211, fc_311, fc_411⟩ := five_cells K_c.out
    have lt_r11 : w.heap.size + 1 < w11.heap.size := lt_of_heap K_r.out
    obtain ⟨r_011, r_111, r_211, fr_011, fr_111, fr_211⟩ := three_cells K_r.out
    go_wp2_with fail
    refine (ram_any t ra rb rd HN.out hN hc HP.out _ (Below.refl _ _)).mono ?_
    rintro e w12 ⟨A12, n12, m12, rfl, hl12, hm12, hq12, hb12⟩
    replace HP := Lib.hid (HP.out.up (hb12))
    replace HO := Lib.hid (HO.out.up (hb12))
    replace HQ3 := Lib.hid (HQ3.out.up (hb12))
    replace HQ4 := Lib.hid (HQ4.out.up (hb12))
    replace HQ5 := Lib.hid (HQ5.out.up (hb12))
    replace HQ6 := Lib.hid (HQ6.out.up (hb12))
    replace HQ7 := Lib.hid (HQ7.out.up (hb12))
    replace HQ8 := Lib.hid (HQ8.out.up (hb12))
    replace HQ9 := Lib.hid (HQ9.out.up (hb12))
    replace HQ10 := Lib.hid (HQ10.out.up (hb12))
    replace HQ11 := Lib.hid (HQ11.out.up (hb12))
    obtain rfl : n12 = n11 := hl12.symm.trans HL11.out
    have HQ12 := Lib.hid hq12
    clear hq12 hl12
    have z12 := hb12.size
    have hB12 : Below w.heap.size w w12 := below_on (w := w) (hB11) hb12
    replace K_c := Lib.hid ((hb12.block (w.heap.size) (by (try simp only [World.size_alloc]); have := lt_of_heap K_c.out; omega)).trans (K_c.out))
    replace K_r := Lib.hid ((hb12.block (w.heap.size + 1) (by (try simp only [World.size_alloc]); have := lt_of_heap K_r.out; omega)).trans (K_r.out))
    clear hb12
    clear lt_c11 c_011 c_111 c_211 c_311 c_411 fc_011 fc_111 fc_211 fc_311 fc_411
    clear lt_r11 r_011 r_111 r_211 fr_011 fr_111 fr_211
    have lt_c12 : w.heap.size < w12.heap.size := lt_of_heap K_c.out
    obtain ⟨c_012, c_112, c_212, c_312, c_412, fc_012, fc_112, fc_212, fc_312, fc_412⟩ := five_cells K_c.out
    have lt_r12 : w.heap.size + 1 < w12.heap.size := lt_of_heap K_r.out
    obtain ⟨r_012, r_112, r_212, fr_012, fr_112, fr_212⟩ := three_cells K_r.out
    clear K_c K_r
    clear lt_c12 c_012 c_112 c_212 c_312 c_412 fc_012 fc_112 fc_212 fc_312 fc_412
    clear lt_r12 r_012 r_112 r_212 fr_012 fr_112 fr_212
    go_wp2_with fail
    refine (same_any HL3.out hN3 HQ3.out HQ4.out _ (Below.refl _ _)).mono ?_
    rintro e w13 ⟨rfl, hb13⟩
    replace HP := Lib.hid (HP.out.up (hb13))
    replace HO := Lib.hid (HO.out.up (hb13))
    replace HQ3 := Lib.hid (HQ3.out.up (hb13))
    replace HQ4 := Lib.hid (HQ4.out.up (hb13))
    replace HQ5 := Lib.hid (HQ5.out.up (hb13))
    replace HQ6 := Lib.hid (HQ6.out.up (hb13))
    replace HQ7 := Lib.hid (HQ7.out.up (hb13))
    replace HQ8 := Lib.hid (HQ8.out.up (hb13))
    replace HQ9 := Lib.hid (HQ9.out.up (hb13))
    replace HQ10 := Lib.hid (HQ10.out.up (hb13))
    replace HQ11 := Lib.hid (HQ11.out.up (hb13))
    replace HQ12 := Lib.hid (HQ12.out.up (hb13))
    have z13 := hb13.size
    have hB13 : Below w.heap.size w w13 := below_on (w := w) (hB12) hb13
    clear hb13
    go_wp2_with fail
    refine (same_any HL5.out hN5 HQ5.out HQ6.out _ (Below.refl _ _)).mono ?_
    rintro e w14 ⟨rfl, hb14⟩
    replace HP := Lib.hid (HP.out.up (hb14))
    replace HO := Lib.hid (HO.out.up (hb14))
    replace HQ3 := Lib.hid (HQ3.out.up (hb14))
    replace HQ4 := Lib.hid (HQ4.out.up (hb14))
    replace HQ5 := Lib.hid (HQ5.out.up (hb14))
    replace HQ6 := Lib.hid (HQ6.out.up (hb14))
    replace HQ7 := Lib.hid (HQ7.out.up (hb14))
    replace HQ8 := Lib.hid (HQ8.out.up (hb14))
    replace HQ9 := Lib.hid (HQ9.out.up (hb14))
    replace HQ10 := Lib.hid (HQ10.out.up (hb14))
    replace HQ11 := Lib.hid (HQ11.out.up (hb14))
    replace HQ12 := Lib.hid (HQ12.out.up (hb14))
    have z14 := hb14.size
    have hB14 : Below w.heap.size w w14 := below_on (w := w) (hB13) hb14
    clear hb14
    go_wp2_with fail
    refine (same_any HL7.out hN7 HQ7.out HQ8.out _ (Below.refl _ _)).mono ?_
    rintro e w15 ⟨rfl, hb15⟩
    replace HP := Lib.hid (HP.out.up (hb15))
    replace HO := Lib.hid (HO.out.up (hb15))
    replace HQ3 := Lib.hid (HQ3.out.up (hb15))
    replace HQ4 := Lib.hid (HQ4.out.up (hb15))
    replace HQ5 := Lib.hid (HQ5.out.up (hb15))
    replace HQ6 := Lib.hid (HQ6.out.up (hb15))
    replace HQ7 := Lib.hid (HQ7.out.up (hb15))
    replace HQ8 := Lib.hid (HQ8.out.up (hb15))
    replace HQ9 := Lib.hid (HQ9.out.up (hb15))
    replace HQ10 := Lib.hid (HQ10.out.up (hb15))
    replace HQ11 := Lib.hid (HQ11.out.up (hb15))
    replace HQ12 := Lib.hid (HQ12.out.up (hb15))
    have z15 := hb15.size
    have hB15 : Below w.heap.size w w15 := below_on (w := w) (hB14) hb15
    clear hb15
    go_wp2_with fail
    refine (same_any HL9.out hN9 HQ9.out HQ10.out _ (Below.refl _ _)).mono ?_
    rintro e w16 ⟨rfl, hb16⟩
    replace HP := Lib.hid (HP.out.up (hb16))
    replace HO := Lib.hid (HO.out.up (hb16))
    replace HQ3 := Lib.hid (HQ3.out.up (hb16))
    replace HQ4 := Lib.hid (HQ4.out.up (hb16))
    replace HQ5 := Lib.hid (HQ5.out.up (hb16))
    replace HQ6 := Lib.hid (HQ6.out.up (hb16))
    replace HQ7 := Lib.hid (HQ7.out.up (hb16))
    replace HQ8 := Lib.hid (HQ8.out.up (hb16))
    replace HQ9 := Lib.hid (HQ9.out.up (hb16))
    replace HQ10 := Lib.hid (HQ10.out.up (hb16))
    replace HQ11 := Lib.hid (HQ11.out.up (hb16))
    replace HQ12 := Lib.hid (HQ12.out.up (hb16))
    have z16 := hb16.size
    have hB16 : Below w.heap.size w w16 := below_on (w := w) (hB15) hb16
    clear hb16
    go_wp2_with fail
    refine (same_any HL11.out hN11 HQ11.out HQ12.out _ (Below.refl _ _)).mono ?_
    rintro e w17 ⟨rfl, hb17⟩
    replace HP := Lib.hid (HP.out.up (hb17))
    replace HO := Lib.hid (HO.out.up (hb17))
    replace HQ3 := Lib.hid (HQ3.out.up (hb17))
    replace HQ4 := Lib.hid (HQ4.out.up (hb17))
    replace HQ5 := Lib.hid (HQ5.out.up (hb17))
    replace HQ6 := Lib.hid (HQ6.out.up (hb17))
    replace HQ7 := Lib.hid (HQ7.out.up (hb17))
    replace HQ8 := Lib.hid (HQ8.out.up (hb17))
    replace HQ9 := Lib.hid (HQ9.out.up (hb17))
    replace HQ10 := Lib.hid (HQ10.out.up (hb17))
    replace HQ11 := Lib.hid (HQ11.out.up (hb17))
    replace HQ12 := Lib.hid (HQ12.out.up (hb17))
    have z17 := hb17.size
    have hB17 : Below w.heap.size w w17 := below_on (w := w) (hB16) hb17
    clear hb17
    go_wp2_with fail
    refine (same_any HN.out hN HO.out HP.out _ (Below.refl _ _)).mono ?_
    rintro e w18 ⟨rfl, hb18⟩
    replace HP := Lib.hid (HP.out.up (hb18))
    replace HO := Lib.hid (HO.out.up (hb18))
    replace HQ3 := Lib.hid (HQ3.out.up (hb18))
    replace HQ4 := Lib.hid (HQ4.out.up (hb18))
    replace HQ5 := Lib.hid (HQ5.out.up (hb18))
    replace HQ6 := Lib.hid (HQ6.out.up (hb18))
    replace HQ7 := Lib.hid (HQ7.out.up (hb18))
    replace HQ8 := Lib.hid (HQ8.out.up (hb18))
    replace HQ9 := Lib.hid (HQ9.out.up (hb18))
    replace HQ10 := Lib.hid (HQ10.out.up (hb18))
    replace HQ11 := Lib.hid (HQ11.out.up (hb18))
    replace HQ12 := Lib.hid (HQ12.out.up (hb18))
    have z18 := hb18.size
    have hB18 : Below w.heap.size w w18 := below_on (w := w) (hB17) hb18
    clear hb18
    have hB := hB18
    go_wp2_with (go_at_call 13; refine (awake_any _).mono ?_; rintro e w1 ⟨rfl, hb1⟩; obtain ⟨hc1, hf1⟩ := bcell hb1; have hz1 := hb1.size; (try simp only [World.size_alloc, World.size_setCell] at hz1); (try have hza : w.heap.size < w1.heap.size := by omega); (try have hzb : w.heap.size + 1 < w1.heap.size := by omega); (try have hzc : w.heap.size + 1 + 1 < w1.heap.size := by omega); (try have hzd : wa.heap.size < w1.heap.size := by omega); (try replace hR := (hb1.block w.heap.size (by first | exact lt_heap hR | (have := lt_heap hR; simp; omega))).trans (by first | with_reducible exact hR | with_reducible exact laid_old hR)); replace hB := below_on (w := w) ((by repeat (first | with_reducible exact hB | with_reducible exact Below.refl _ _ | with_reducible refine below_al ?_ _ | with_reducible refine below_st ?_ (by first | exact Nat.le_refl _ | exact Nat.le_add_right _ _ | (simp; omega)) _))) hb1; clear hb1)
    go_ret
    exact ⟨rfl, hB⟩
  · have hB : Below w.heap.size w w := Below.refl _ _
    go_enter Tryd.func5, Tryd.ntmps5
    go_wp2_with (first | (go_at_call 12; refine (few_no hf _).mono ?_; rintro e w1 ⟨rfl, hb1⟩; obtain ⟨hc1, hf1⟩ := bcell hb1; have hz1 := hb1.size; (try simp only [World.size_alloc, World.size_setCell] at hz1); (try have hza : w.heap.size < w1.heap.size := by omega); (try have hzb : w.heap.size + 1 < w1.heap.size := by omega); (try have hzc : w.heap.size + 1 + 1 < w1.heap.size := by omega); (try have hzd : wa.heap.size < w1.heap.size := by omega); (try replace hR := (hb1.block w.heap.size (by first | exact lt_heap hR | (have := lt_heap hR; simp; omega))).trans (by first | with_reducible exact hR | with_reducible exact laid_old hR)); replace hB := below_on (w := w) ((by repeat (first | with_reducible exact hB | with_reducible exact Below.refl _ _ | with_reducible refine below_al ?_ _ | with_reducible refine below_st ?_ (by first | exact Nat.le_refl _ | exact Nat.le_add_right _ _ | (simp; omega)) _))) hb1; clear hb1) | (go_at_call 13; refine (awake_any _).mono ?_; rintro e w1 ⟨rfl, hb1⟩; obtain ⟨hc1, hf1⟩ := bcell hb1; have hz1 := hb1.size; (try simp only [World.size_alloc, World.size_setCell] at hz1); (try have hza : w.heap.size < w1.heap.size := by omega); (try have hzb : w.heap.size + 1 < w1.heap.size := by omega); (try have hzc : w.heap.size + 1 + 1 < w1.heap.size := by omega); (try have hzd : wa.heap.size < w1.heap.size := by omega); (try replace hR := (hb1.block w.heap.size (by first | exact lt_heap hR | (have := lt_heap hR; simp; omega))).trans (by first | with_reducible exact hR | with_reducible exact laid_old hR)); replace hB := below_on (w := w) ((by repeat (first | with_reducible exact hB | with_reducible exact Below.refl _ _ | with_reducible refine below_al ?_ _ | with_reducible refine below_st ?_ (by first | exact Nat.le_refl _ | exact Nat.le_add_right _ _ | (simp; omega)) _))) hb1; clear hb1))
    go_ret
    exact ⟨rfl, hB⟩

end Go.Proofs.YtfcefeepkpkcmaaDoor
