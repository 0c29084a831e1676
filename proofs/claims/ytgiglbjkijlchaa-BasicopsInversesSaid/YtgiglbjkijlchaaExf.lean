/- Layer 42: Execute (written by gen/boex.py). -/
import Derived.Test.YtgiglbjkijlchaaExa
namespace Go.Proofs.Ytgiglbjkijlchaa
open Go.ChangeShapes Go.WideShapes Go.ChangeAt Go.RowKit Go.PlainAid
set_option linter.unusedSimpArgs false
set_option linter.unusedVariables false
theorem popAnyS_ls4 (r : Rs) : (popAnyS r).ls = r.ls := by unfold popAnyS failS; split <;> (try split) <;> rfl
theorem failS_ls4 (x : Int) (r : Rs) : (failS x r).ls = r.ls := by unfold failS; split <;> rfl
theorem popS_ls4 (k : Int) (r : Rs) : (popS k r).ls = r.ls := by unfold popS; split <;> simp [failS_ls4, popAnyS_ls4]
theorem setS_len (n : Int) (v : Va) (r : Rs) : (setS n v r).ls.length = r.ls.length := by unfold setS; split <;> simp [failS_ls4]
theorem accessS_len (i : In) (r : Rs) : (accessS i r).ls.length = r.ls.length := by
  unfold accessS
  split
  · show (localS _ _ r).ls.length = _
    rw [localS_ls]
  · split
    · rw [setS_len, popS_ls4]
    · rw [setS_len, localS_ls]
theorem far_acc {a : Ac} {w w10 : World} {r' : Rs} {lA5 : Option Addr} (HA : a.ok w) (hl : r'.ls.length = a.ls.length) (hz : w.heap.size + 1 + 1 < w10.heap.size) (hf : lA5 = a.lA ∨ ∀ g o s, lA5 = some ⟨g, o, s⟩ → w10.heap.size ≤ g) : Nr w a.lA lA5 ∧ ∀ g o s, lA5 = some ⟨g, o, s⟩ → r'.ls ≠ [] → g ≠ w.heap.size + 1 + 1 := by
  refine ⟨hf.imp id (fun h g o s hA => by have := h g o s hA; omega), ?_⟩
  intro g o s hA h0
  rcases hf with e | hf
  · rw [e] at hA
    rcases HA.l with e | ⟨g2, o2, hA2, hg2, _⟩
    · rw [e] at hl
      exact absurd (List.length_eq_zero_iff.1 hl) h0
    · rw [hA2] at hA
      injection hA with hA
      injection hA with e1 _ _
      omega
  · have := hf g o s hA; omega

set_option maxRecDepth 100000 in
set_option maxHeartbeats 1000000 in
theorem ex_acc (a : Ac) (i : In) (w : World) (ha : a.ok w) (hi : i.ok w w.heap.size) (hl1 : a.ls.length ≤ 100000) (hl2 : a.ss.length ≤ 100000) (h1 : i.kn ≤ 100000) (h2 : i.tn ≤ 100000) (hra : Rg i.a) (hv : VsIn a.ss) (ho : ownI i = true) (hc : 4 ≤ i.op ∧ i.op ≤ 10) :
    Calls Try.prog 10 #[(Value.agg #[Value.int IntKind.i64 (Hd8.cl a.h), Value.int IntKind.i64 (Hd8.me a.h), Value.int IntKind.i64 (Hd8.pc a.h), ((.slice a.lA a.ls.length a.lc)), ((.slice a.sA a.ss.length a.sc)), Value.int IntKind.i64 (Hd8.lk a.h), Value.bool (Hd8.ii a.h), Value.bool (Hd8.dr a.h)]), (Value.agg #[Value.int IntKind.i64 (In.op i), Value.int IntKind.i64 (In.a i), Value.int IntKind.i64 (In.b i), Value.int IntKind.i64 (In.t i), Value.slice (In.kA i) (In.kn i) (In.kc i), Value.slice (In.tA i) (In.tn i) (In.tc i), Value.string (In.r1 i), Value.string (In.r2 i), Value.string (In.r3 i), Value.string (In.s i)])] w (ExRet a w (execS i ⟨a.h, a.ls, a.ss⟩) (execE i ⟨a.h, a.ls, a.ss⟩)) := by
  have HA := Lib.hid ha
  have HI := Lib.hid hi
  have HV := Lib.hid hv
  have hnil := ha.sl.2
  clear ha hi hv
  obtain ⟨n1, hn1⟩ : ∃ n, a.ls.length = n := ⟨_, rfl⟩
  obtain ⟨n2, hn2⟩ : ∃ n, a.ss.length = n := ⟨_, rfl⟩
  have HN := Lib.hid (And.intro hn1 hn2)
  have hh : hdl i.op = true := by unfold ownI at ho; revert ho; cases hdl i.op <;> simp
  have HO := Lib.hid ho
  rw [hn1] at hl1
  rw [hn2] at hl2
  rw [hn1, hn2]
  clear hn1 hn2 ho
  go_enter Try.func10, Try.ntmps10
  go_upto_region 1 with fail
  have h3 := three_new w (.cells #[.int .i64 a.h.cl, .int .i64 a.h.me, .int .i64 a.h.pc, .slice a.lA n1 a.lc, .slice a.sA n2 a.sc, .int .i64 a.h.lk, .bool a.h.ii, .bool a.h.dr] 24) (.cells #[.int .i64 i.op, .int .i64 i.a, .int .i64 i.b, .int .i64 i.t, .slice i.kA i.kn i.kc, .slice i.tA i.tn i.tc, .string i.r1, .string i.r2, .string i.r3, .string i.s] 29) (.cells #[.int .i64 0, .int .i64 0, .int .i64 0, .slice none 0 0, .slice none 0 0, .int .i64 0, .bool false, .bool false] 24)
  generalize ((w.alloc (.cells #[.int .i64 a.h.cl, .int .i64 a.h.me, .int .i64 a.h.pc, .slice a.lA n1 a.lc, .slice a.sA n2 a.sc, .int .i64 a.h.lk, .bool a.h.ii, .bool a.h.dr] 24)).alloc (.cells #[.int .i64 i.op, .int .i64 i.a, .int .i64 i.b, .int .i64 i.t, .slice i.kA i.kn i.kc, .slice i.tA i.tn i.tc, .string i.r1, .string i.r2, .string i.r3, .string i.s] 29)).alloc (.cells #[.int .i64 0, .int .i64 0, .int .i64 0, .slice none 0 0, .slice none 0 0, .int .i64 0, .bool false, .bool false] 24) = w3 at h3 ⊢
  obtain ⟨R0, R1, R2, hsz, hb3⟩ := h3
  have HRR := Lib.hid (And.intro R0 (And.intro R1 R2))
  obtain ⟨a0, a1, a2, a3, a4, a5, a6, a7⟩ := eight_cells R0
  obtain ⟨r0, r1, r2, r3, r4, r5, r6, r7, r8, r9⟩ := ten_cells R1
  have y0 := lt_heapV R0
  have y1 := lt_heapV R1
  have y2 := lt_heapV R2
  have HB3 := Lib.hid hb3
  clear R0 R1 R2 hb3
  have hn3 : (i.op == 3) = false := by simp; omega
  have hc0 : 4 ≤ i.op := by omega
  have hc1 : i.op < 36 := by omega
  have hc2 : i.op < 15 := by omega
  have hc3 : i.op < 11 := by omega
  go_upto_region 4 with (go_at_call 13; refine (handles_any _ _).mono ?_; rintro e w4 ⟨rfl, rfl⟩; rw [hh])
  have R3 := World.alloc_heap_new w3 (.cells #[.int .i64 a.h.cl, .int .i64 a.h.me, .int .i64 a.h.pc, .slice a.lA n1 a.lc, .slice a.sA n2 a.sc, .int .i64 a.h.lk, .bool a.h.ii, .bool a.h.dr, .int .i64 0] 48)
  have hb4 := below_al (Below.refl w3.heap.size w3) (.cells #[.int .i64 a.h.cl, .int .i64 a.h.me, .int .i64 a.h.pc, .slice a.lA n1 a.lc, .slice a.sA n2 a.sc, .int .i64 a.h.lk, .bool a.h.ii, .bool a.h.dr, .int .i64 0] 48)
  have hz4 : w3.heap.size + 1 = (w3.alloc (.cells #[.int .i64 a.h.cl, .int .i64 a.h.me, .int .i64 a.h.pc, .slice a.lA n1 a.lc, .slice a.sA n2 a.sc, .int .i64 a.h.lk, .bool a.h.ii, .bool a.h.dr, .int .i64 0] 48)).heap.size := by simp
  rw [hsz] at R3
  generalize w3.alloc (.cells #[.int .i64 a.h.cl, .int .i64 a.h.me, .int .i64 a.h.pc, .slice a.lA n1 a.lc, .slice a.sA n2 a.sc, .int .i64 a.h.lk, .bool a.h.ii, .bool a.h.dr, .int .i64 0] 48) = w4 at R3 hb4 hz4 ⊢
  clear a0 a1 a2 a3 a4 a5 a6 a7 r0 r1 r2 r3 r4 r5 r6 r7 r8 r9
  obtain ⟨q0, q1, q2⟩ := HRR.out
  have Q0 := Lib.hid ((hb4.block _ y0).trans q0)
  have Q1 := Lib.hid ((hb4.block _ y1).trans q1)
  have Q2 := Lib.hid ((hb4.block _ y2).trans q2)
  have Q3 := Lib.hid R3
  have HB4 := Lib.hid (below_on HB3.out hb4)
  have hs4 : w4.heap.size = w.heap.size + 4 := by omega
  clear q0 q1 q2 hb4 hz4 R3 HRR
  have f3 := frozV Q3.out 4
  obtain ⟨i0, hi, hz0, hz1, hz2⟩ := info_partsV infoV
  obtain ⟨Wm, hmk, hown, hgr⟩ := run_makeSlice_owned (P := Try.prog) w4.drew w.heap.size 22 42 i0 (.agg #[.int .i64 0, .int .i64 0]) 2 Try.underlying22 hi hz0 hz1 .i64 .i64 (n2 + 2) (by omega) (by rw [hz2]; omega) (by unfold maxLen; omega) (by show w.heap.size ≤ w4.heap.size; omega)
  have hs4d : w4.drew.heap.size = w.heap.size + 4 := hs4
  rw [hs4d] at hown hmk
  have hc2 : ((n2 + 2 : Nat) : Int) = (n2 : Int) + 2 := by omega
  have hw2 : IntKind.i64.wrap ((n2 : Int) + 2) = (n2 : Int) + 2 := by rw [IntKind.wrap_i64]; omega
  rw [hc2, ← hw2] at hmk
  clear hw2
  have hbm : Below w4.heap.size w4 Wm := (Below.refl w4.heap.size w4).drew.trans (grown_below (w := w4.drew) hgr (fun k hk => by cases hk) (Nat.le_refl _))
  have KS4 := Lib.hid (show w4.drew.cell? ⟨w.heap.size, 4, none⟩ = some (.slice a.sA n2 a.sc) from (eight_cells Q0.out).2.2.2.2.1)
  have KSm := Lib.hid (show Wm.cell? ⟨w.heap.size, 4, none⟩ = some (.slice a.sA n2 a.sc) from (eight_cells ((hbm.block _ (by omega)).trans Q0.out)).2.2.2.2.1)
  have HVm := Lib.hid (HA.out.s.up (below_on HB4.out hbm))
  have HOWN := Lib.hid hown
  have HNIL := Lib.hid hnil
  have HBM := Lib.hid hbm
  have hsm := hbm.size
  clear hown hgr hbm hi hz0 hz1 hz2 hc2 hnil
  refine regN_start (N := 10) (S := (fun w' => w'.cell? ⟨w.heap.size, 4, none⟩ = some (.slice a.sA n2 a.sc))) (by kernel_rfl) ?_
  change wpAnyN _ _ _ _ _ _ _ #[false, false, false, false, false, false, false, false, false, false, false] _ (World.drew _)
  have hS0 := KS4.out
  refine regN_take (i := 0) (d := (some 32)) (v := ?v4x1) (l2 := #[true, false, false, false, false, false, false, false, false, false, false]) rfl rfl rfl (by kernel_rfl) (by kernel_rfl) (by kernel_rfl) (by kernel_rfl) (fun _ _ _ h => h) (by rfl) ?hv4x1 hS0 ?h4x1
  case hv4x1 => intro u hSu; clear hSu; go_simp; (try with_reducible rfl)
  (try simp only [Act.put, List.setIfInBounds_toArray, List.set_cons_zero, List.set_cons_succ])
  refine regN_take (i := 1) (d := (some 33)) (v := ?v4x2) (l2 := #[true, true, false, false, false, false, false, false, false, false, false]) rfl rfl rfl (by kernel_rfl) (by kernel_rfl) (by kernel_rfl) (by kernel_rfl) (fun _ _ _ h => h) (by rfl) ?hv4x2 hS0 ?h4x2
  case hv4x2 => intro u hSu; (try dsimp only at hSu); (try go_split_ands); go_simp; (try with_reducible rfl)
  (try simp only [Act.put, List.setIfInBounds_toArray, List.set_cons_zero, List.set_cons_succ])
  refine regN_take (i := 2) (d := (some 34)) (v := ?v4x3) (l2 := #[true, true, true, false, false, false, false, false, false, false, false]) rfl rfl rfl (by kernel_rfl) (by kernel_rfl) (by kernel_rfl) (by kernel_rfl) (fun _ _ _ h => h) (by rfl) ?hv4x3 hS0 ?h4x3
  case hv4x3 => intro u hSu; clear hSu; go_simp; (try with_reducible rfl)
  (try simp only [Act.put, List.setIfInBounds_toArray, List.set_cons_zero, List.set_cons_succ])
  refine regN_take (i := 3) (d := (some 35)) (v := ?v4x4) (l2 := #[true, true, true, true, false, false, false, false, false, false, false]) rfl rfl rfl (by kernel_rfl) (by kernel_rfl) (by kernel_rfl) (by kernel_rfl) (fun _ _ _ h => h) (by rfl) ?hv4x4 hS0 ?h4x4
  case hv4x4 => intro u hSu; clear hSu; go_simp; (try with_reducible rfl)
  (try simp only [Act.put, List.setIfInBounds_toArray, List.set_cons_zero, List.set_cons_succ])
  refine regN_take (i := 5) (d := (some 37)) (v := ?v4x5) (l2 := #[true, true, true, true, false, true, false, false, false, false, false]) rfl rfl rfl (by kernel_rfl) (by kernel_rfl) (by kernel_rfl) (by kernel_rfl) (fun _ _ _ h => h) (by rfl) ?hv4x5 hS0 ?h4x5
  case hv4x5 => intro u hSu; clear hSu; go_simp; (try with_reducible rfl)
  (try simp only [Act.put, List.setIfInBounds_toArray, List.set_cons_zero, List.set_cons_succ])
  refine regN_take (i := 6) (d := (some 38)) (v := ?v4x6) (l2 := #[true, true, true, true, false, true, true, false, false, false, false]) rfl rfl rfl (by kernel_rfl) (by kernel_rfl) (by kernel_rfl) (by kernel_rfl) (fun _ _ _ h => h) (by rfl) ?hv4x6 hS0 ?h4x6
  case hv4x6 => intro u hSu; (try dsimp only at hSu); (try go_split_ands); go_simp; (try with_reducible rfl)
  (try simp only [Act.put, List.setIfInBounds_toArray, List.set_cons_zero, List.set_cons_succ])
  refine regN_ready (rs := [4]) (by kernel_rfl) (by simp) ?_
  refine (AllN.cons (i := 4) (l2 := #[true, true, true, true, true, true, true, false, false, false, false]) rfl rfl (fun K hK => ?_) AllN.nil)
  go_simp
  (try (rw [hmk]; go_simp))
  have hS1 : ((fun w' => w'.cell? ⟨w.heap.size, 4, none⟩ = some (.slice a.sA n2 a.sc)) : World → Prop) _ := (show Wm.cell? _ = _ from KSm.out)
  refine hK _ _ (fun _ => hS1) ?_
  clear hK K
  (try simp only [Act.put, List.setIfInBounds_toArray, List.set_cons_zero, List.set_cons_succ])
  refine regN_ready (rs := [7]) (by kernel_rfl) (by simp) ?_
  refine (AllN.cons (i := 7) (l2 := #[true, true, true, true, true, true, true, true, false, false, false]) rfl rfl (fun K hK => ?_) AllN.nil)
  refine step_app_any (by rfl) _ _ (by rfl) w.heap.size 0 n2 a.sc [] a.ss _ a.sA (by rfl) HOWN.out (by rfl) HN.out.2 HVm.out HNIL.out (by omega) (by omega) ?_
  intro v9 w9 ho9 hg9
  rw [List.nil_append, Nat.zero_add] at ho9
  obtain ⟨A9, c9, rfl, hc9, hm9, hn9⟩ := own_formV ho9
  have hbn := grown_below hg9 (fun k hk => show w4.heap.size ≤ k from by have hk := Option.some.inj hk; have hk : w.heap.size + 4 = k := hk; omega) hsm
  have hb9 := HBM.out.trans hbn
  have x0 := (hb9.block _ (by omega)).trans Q0.out
  have x3 := (hb9.block _ (by omega)).trans Q3.out
  have KS9 := (eight_cells x0).2.2.2.2.1
  have x34 := (nine_cells x3).2.2.2.2.1
  have xf := frozV x3 4
  have xz := lt_heapV x3
  have hS2 : ((fun w' => w'.cell? ⟨w.heap.size, 4, none⟩ = some (.slice a.sA n2 a.sc)) : World → Prop) _ := (show w9.cell? _ = _ from KS9)
  refine hK _ _ (fun _ => hS2) ?_
  clear hK K
  (try simp only [Act.put, List.setIfInBounds_toArray, List.set_cons_zero, List.set_cons_succ])
  refine regN_takeC [9] (i := 8) (d := (some 40)) (v := ?v4x7) (l2 := #[true, true, true, true, true, true, true, true, true, false, false]) rfl rfl rfl (by kernel_rfl) (by kernel_rfl) (by kernel_rfl) (by kernel_rfl) (fun _ _ _ h => h) (by rfl) ?hv4x7 hS2 ?h4x7
  case hv4x7 => intro u hSu; clear hSu; go_simp; (try with_reducible rfl)
  (try simp only [Act.put, List.setIfInBounds_toArray, List.set_cons_zero, List.set_cons_succ])
  refine regN_take (i := 9) (d := (some 41)) (v := ?v4x8) (l2 := #[true, true, true, true, true, true, true, true, true, true, false]) rfl rfl rfl (by kernel_rfl) (by kernel_rfl) (by kernel_rfl) (by kernel_rfl) (fun _ _ _ h => h) (by rfl) ?hv4x8 hS2 ?h4x8
  case hv4x8 => intro u hSu; clear hSu; go_simp; (try with_reducible rfl)
  (try simp only [Act.put, List.setIfInBounds_toArray, List.set_cons_zero, List.set_cons_succ])
  refine regN_ready (rs := [10]) (by kernel_rfl) (by simp) ?_
  refine (AllN.cons (i := 10) (l2 := #[true, true, true, true, true, true, true, true, true, true, true]) rfl rfl (fun K hK => ?_) AllN.nil)
  go_simp
  refine hK _ _ (fun h => absurd rfl h) ?_
  clear hK K
  (try simp only [Act.put, List.setIfInBounds_toArray, List.set_cons_zero, List.set_cons_succ])
  refine regN_done (by kernel_rfl) ?_ _
  have HR0 := Lib.hid (run_start HN.out.1 HN.out.2 ho9 x3 (below_on HB4.out hb9) (by omega) HA.out.l HA.out.ll)
  have hgs := grown_setV (w := w9) (g := w.heap.size + 3) (j := 4) (u := .slice A9 n2 c9)
  have u0 := (hgs.block w.heap.size (by omega) (fun e => by have := Option.some.inj e; omega)).trans x0
  have u1 := (hgs.block (w.heap.size + 1) (by omega) (fun e => by have := Option.some.inj e; omega)).trans ((hb9.block _ (by omega)).trans Q1.out)
  have u2 := (hgs.block (w.heap.size + 1 + 1) (by omega) (fun e => by have := Option.some.inj e; omega)).trans ((hb9.block _ (by omega)).trans Q2.out)
  generalize w9.setCell ⟨w.heap.size + 3, 4, none⟩ (.slice A9 n2 c9) = w10 at HR0 hgs u0 u1 u2 ⊢
  have m0 := own_no HR0.out.own u0 (by decide)
  have m2 := own_no HR0.out.own u2 (by decide)
  generalize Value.slice A9 n2 c9 = v9 at HR0 hgs m0 m2 ⊢
  have U0 := Lib.hid u0
  have U1 := Lib.hid u1
  have U2 := Lib.hid u2
  have z0 := lt_heapV u0
  have z1 := lt_heapV u1
  have z2 := lt_heapV u2
  clear KS9 x34 xf xz x0 x3 ho9 hg9 hbn hb9 hS2 hgs u0 u1 u2 KSm HVm HOWN HNIL HBM Q0 Q1 Q2 Q3 hs4d hsm f3 KS4 hS0 hS1 hmk
  obtain ⟨a0, a1, a2, a3, a4, a5, a6, a7⟩ := eight_cells U0.out
  obtain ⟨r0, r1, r2, r3, r4, r5, r6, r7, r8, r9⟩ := ten_cells U1.out
  have CL := Lib.hid (access_any i (by omega) (by omega) HR0.out (by show a.ss.length ≤ _; rw [HN.out.2]; omega) (by show a.ls.length ≤ _; rw [HN.out.1]; omega))
  obtain ⟨r', hr'⟩ : ∃ r', accessS i ⟨a.ls, a.ss, 0⟩ = r' := ⟨_, rfl⟩
  rw [hr'] at CL
  have HRR := Lib.hid (show runI i ⟨a.ls, a.ss, 0⟩ = r' from by unfold runI; rw [if_neg (by omega), if_neg (by omega), if_neg (by omega), if_pos (by omega)]; exact hr')
  have HLS := Lib.hid (show r'.ls.length = a.ls.length from by rw [← hr']; exact accessS_len i _)
  clear hr'
  go_upto_region 17 with (go_at_call 21; refine CL.out.mono ?_; rintro e w5 ⟨rfl, lA5, lc5, sv5, hr5, hk5, hl5, hf5⟩)
  have v0 := (hk5.block w.heap.size z0 (by omega) m0).trans U0.out
  have v2 := (hk5.block (w.heap.size + 1 + 1) z2 (by omega) m2).trans U2.out
  have H5 := Lib.hid hr5
  have bx := hr5.box
  obtain ⟨A5, c5, e5, hc5, hm5, hn5⟩ := own_formV hr5.own
  rw [e5] at bx
  obtain ⟨p0, p1, p2, p3, p4, p5, p6, p7, p8⟩ := nine_cells bx
  have y5 := lt_heapV bx
  have d0 := lt_heapV v0
  have d2 := lt_heapV v2
  have f2 := fun j => frozV v2 j
  have f3 := frozV bx 2
  have V0 := Lib.hid v0
  have V2 := Lib.hid v2
  have BX := Lib.hid bx
  have E5 := Lib.hid e5
  have HE := Lib.hid (show execE i ⟨a.h, a.ls, a.ss⟩ = r'.e from (if_pos HO.out).trans (congrArg Rs.e HRR.out))
  have HNX := Lib.hid (show nextI i ⟨a.ls, a.ss, 0⟩ a.h.pc = wrap64 (a.h.pc + 1) from if_neg (fun h => by omega))
  obtain ⟨j0, j1, j2, j3, j4, j5, j6, j7⟩ := eight_cells V0.out
  obtain ⟨t0, t1, t2, t3, t4, t5, t6, t7⟩ := eight_cells V2.out
  have HFAR := Lib.hid (far_acc HA.out HLS.out z2 hf5)
  clear a0 a1 a2 a3 a4 a5 a6 a7 r0 r1 r2 r3 r4 r5 r6 r7 r8 r9 v0 v2 bx e5 hr5 hk5 hl5 m0 m2 z0 z1 z2 hf5
  by_cases he : r'.e = 0
  · rw [he] at p8
    go_upto_region 20 with fail
    have hgs := grown_setV (w := w5) (g := w.heap.size + 3) (j := 2) (u := .int .i64 (wrap64 (a.h.pc + 1)))
    have hx6 := heap_setCell_same w5 (w.heap.size + 3) 2 _ _ (.int .i64 (wrap64 (a.h.pc + 1))) BX.out
    have hv6 := (hgs.block (w.heap.size + 1 + 1) d2 (fun e => by have := Option.some.inj e; omega)).trans V2.out
    generalize w5.setCell ⟨w.heap.size + 3, 2, none⟩ (.int .i64 (wrap64 (a.h.pc + 1))) = w6 at hgs hx6 hv6 ⊢
    clear p0 p1 p2 p3 p4 p5 p6 p7 p8 t0 t1 t2 t3 t4 t5 t6 t7 j0 j1 j2 j3 j4 j5 j6 j7 f2 f3
    obtain ⟨p0, p1, p2, p3, p4, p5, p6, p7, p8⟩ := nine_cells (a := .int .i64 a.h.cl) (b := .int .i64 a.h.me) (c := .int .i64 (wrap64 (a.h.pc + 1))) (d := .slice lA5 r'.ls.length lc5) (e := .slice A5 r'.ss.length c5) (f := .int .i64 a.h.lk) (g := .bool a.h.ii) (h := .bool a.h.dr) (i := .int .i64 r'.e) hx6
    obtain ⟨t0, t1, t2, t3, t4, t5, t6, t7⟩ := eight_cells hv6
    have f2 := fun j => frozV hv6 j
    have HV6 := Lib.hid hv6
    have HGS := Lib.hid hgs
    clear hv6 hgs hx6
    go_wp2
    (try simp only [Exit.inBlock, Exit.then])
    obtain ⟨hs8, hg8⟩ := set_eight (w := w6) (B := w.heap.size + 1 + 1) (a := .int .i64 a.h.cl) (b := .int .i64 a.h.me) (c := .int .i64 (wrap64 (a.h.pc + 1))) (d := .slice lA5 r'.ls.length lc5) (e := .slice A5 r'.ss.length c5) (f := .int .i64 a.h.lk) (g := .bool a.h.ii) (h := .bool a.h.dr) ⟨_, _, _, _, _, _, _, _, rfl⟩ HV6.out
    refine bodyPost_ret (ex_ret rfl rfl hs8 rfl) rfl ?_
    rw [show execS i ⟨a.h, a.ls, a.ss⟩ = ⟨{ a.h with pc := wrap64 (a.h.pc + 1) }, r'.ls, r'.ss⟩ from (if_neg (by rw [HE.out]; exact fun h => h he)).trans (by rw [HNX.out, HRR.out]), HE.out, he]
    exact ex_ok H5.out E5.out V2.out HGS.out hg8 HFAR.out
  · have hne : (r'.e == 0) = false := by simpa using he
    have KS18 := Lib.hid (show (fun w' => w'.cell? ⟨w.heap.size, 0, none⟩ = some (.int .i64 a.h.cl) ∧ w'.cell? ⟨w.heap.size, 1, none⟩ = some (.int .i64 a.h.me) ∧ w'.cell? ⟨w.heap.size, 2, none⟩ = some (.int .i64 a.h.pc) ∧ w'.cell? ⟨w.heap.size, 3, none⟩ = some (.slice a.lA n1 a.lc) ∧ w'.cell? ⟨w.heap.size, 4, none⟩ = some (.slice a.sA n2 a.sc) ∧ w'.cell? ⟨w.heap.size, 5, none⟩ = some (.int .i64 a.h.lk) ∧ w'.cell? ⟨w.heap.size, 6, none⟩ = some (.bool a.h.ii) ∧ w'.cell? ⟨w.heap.size, 7, none⟩ = some (.bool a.h.dr) ∧ w'.cell? ⟨w.heap.size + 3, 8, none⟩ = some (.int .i64 r'.e)) w5.drew from ⟨j0, j1, j2, j3, j4, j5, j6, j7, p8⟩)
    have hg8k := (set_eight (w := w5) (B := w.heap.size + 1 + 1) (a := .int .i64 a.h.cl) (b := .int .i64 a.h.me) (c := .int .i64 a.h.pc) (d := .slice a.lA n1 a.lc) (e := .slice a.sA n2 a.sc) (f := .int .i64 a.h.lk) (g := .bool a.h.ii) (h := .bool a.h.dr) ⟨_, _, _, _, _, _, _, _, rfl⟩ V2.out).2
    have g0 := eight_cells ((hg8k.block w.heap.size d0 (fun e => by have := Option.some.inj e; omega)).trans V0.out)
    have g3 := (nine_cells ((hg8k.block (w.heap.size + 3) y5 (fun e => by have := Option.some.inj e; omega)).trans BX.out)).2.2.2.2.2.2.2.2
    have KS19 := Lib.hid (And.intro g0.1 (And.intro g0.2.1 (And.intro g0.2.2.1 (And.intro g0.2.2.2.1 (And.intro g0.2.2.2.2.1 (And.intro g0.2.2.2.2.2.1 (And.intro g0.2.2.2.2.2.2.1 (And.intro g0.2.2.2.2.2.2.2 g3))))))))
    have KD := Lib.hid (fun (W : World) (h : (fun w' => w'.cell? ⟨w.heap.size, 0, none⟩ = some (.int .i64 a.h.cl) ∧ w'.cell? ⟨w.heap.size, 1, none⟩ = some (.int .i64 a.h.me) ∧ w'.cell? ⟨w.heap.size, 2, none⟩ = some (.int .i64 a.h.pc) ∧ w'.cell? ⟨w.heap.size, 3, none⟩ = some (.slice a.lA n1 a.lc) ∧ w'.cell? ⟨w.heap.size, 4, none⟩ = some (.slice a.sA n2 a.sc) ∧ w'.cell? ⟨w.heap.size, 5, none⟩ = some (.int .i64 a.h.lk) ∧ w'.cell? ⟨w.heap.size, 6, none⟩ = some (.bool a.h.ii) ∧ w'.cell? ⟨w.heap.size, 7, none⟩ = some (.bool a.h.dr) ∧ w'.cell? ⟨w.heap.size + 3, 8, none⟩ = some (.int .i64 r'.e)) W) => show (fun w' => w'.cell? ⟨w.heap.size, 0, none⟩ = some (.int .i64 a.h.cl) ∧ w'.cell? ⟨w.heap.size, 1, none⟩ = some (.int .i64 a.h.me) ∧ w'.cell? ⟨w.heap.size, 2, none⟩ = some (.int .i64 a.h.pc) ∧ w'.cell? ⟨w.heap.size, 3, none⟩ = some (.slice a.lA n1 a.lc) ∧ w'.cell? ⟨w.heap.size, 4, none⟩ = some (.slice a.sA n2 a.sc) ∧ w'.cell? ⟨w.heap.size, 5, none⟩ = some (.int .i64 a.h.lk) ∧ w'.cell? ⟨w.heap.size, 6, none⟩ = some (.bool a.h.ii) ∧ w'.cell? ⟨w.heap.size, 7, none⟩ = some (.bool a.h.dr) ∧ w'.cell? ⟨w.heap.size + 3, 8, none⟩ = some (.int .i64 r'.e)) W.drew from h)
    clear hg8k g0 g3
    go_upto_region 18 with fail
    refine regN_start (N := 4) (S := (fun w' => w'.cell? ⟨w.heap.size, 0, none⟩ = some (.int .i64 a.h.cl) ∧ w'.cell? ⟨w.heap.size, 1, none⟩ = some (.int .i64 a.h.me) ∧ w'.cell? ⟨w.heap.size, 2, none⟩ = some (.int .i64 a.h.pc) ∧ w'.cell? ⟨w.heap.size, 3, none⟩ = some (.slice a.lA n1 a.lc) ∧ w'.cell? ⟨w.heap.size, 4, none⟩ = some (.slice a.sA n2 a.sc) ∧ w'.cell? ⟨w.heap.size, 5, none⟩ = some (.int .i64 a.h.lk) ∧ w'.cell? ⟨w.heap.size, 6, none⟩ = some (.bool a.h.ii) ∧ w'.cell? ⟨w.heap.size, 7, none⟩ = some (.bool a.h.dr) ∧ w'.cell? ⟨w.heap.size + 3, 8, none⟩ = some (.int .i64 r'.e))) (by kernel_rfl) ?_
    change wpAnyN _ _ _ _ _ _ _ #[false, false, false, false, false] _ (World.drew _)
    have hS0 := KS18.out
    refine regN_take (i := 0) (d := (some 81)) (v := ?v18x1) (l2 := #[true, false, false, false, false]) rfl rfl rfl (by kernel_rfl) (by kernel_rfl) (by kernel_rfl) (by kernel_rfl) (fun _ _ _ h => h) (by rfl) ?hv18x1 hS0 ?h18x1
    case hv18x1 => intro u hSu; (try dsimp only at hSu); (try go_split_ands); go_simp; (try with_reducible rfl)
    (try simp only [Act.put, List.setIfInBounds_toArray, List.set_cons_zero, List.set_cons_succ])
    refine regN_take (i := 1) (d := (some 82)) (v := ?v18x2) (l2 := #[true, true, false, false, false]) rfl rfl rfl (by kernel_rfl) (by kernel_rfl) (by kernel_rfl) (by kernel_rfl) (fun _ _ _ h => h) (by rfl) ?hv18x2 hS0 ?h18x2
    case hv18x2 => intro u hSu; clear hSu; go_simp; (try with_reducible rfl)
    (try simp only [Act.put, List.setIfInBounds_toArray, List.set_cons_zero, List.set_cons_succ])
    refine regN_take (i := 2) (d := (some 83)) (v := ?v18x3) (l2 := #[true, true, true, false, false]) rfl rfl rfl (by kernel_rfl) (by kernel_rfl) (by kernel_rfl) (by kernel_rfl) (fun _ _ _ h => h) (by rfl) ?hv18x3 hS0 ?h18x3
    case hv18x3 => intro u hSu; (try dsimp only at hSu); (try go_split_ands); go_simp; (try with_reducible rfl)
    (try simp only [Act.put, List.setIfInBounds_toArray, List.set_cons_zero, List.set_cons_succ])
    refine regN_ready (rs := [3]) (by kernel_rfl) (by simp) ?_
    refine (AllN.cons (i := 3) (l2 := #[true, true, true, true, false]) rfl rfl (fun K hK => ?_) AllN.nil)
    go_simp
    have hS1 : ((fun w' => w'.cell? ⟨w.heap.size, 0, none⟩ = some (.int .i64 a.h.cl) ∧ w'.cell? ⟨w.heap.size, 1, none⟩ = some (.int .i64 a.h.me) ∧ w'.cell? ⟨w.heap.size, 2, none⟩ = some (.int .i64 a.h.pc) ∧ w'.cell? ⟨w.heap.size, 3, none⟩ = some (.slice a.lA n1 a.lc) ∧ w'.cell? ⟨w.heap.size, 4, none⟩ = some (.slice a.sA n2 a.sc) ∧ w'.cell? ⟨w.heap.size, 5, none⟩ = some (.int .i64 a.h.lk) ∧ w'.cell? ⟨w.heap.size, 6, none⟩ = some (.bool a.h.ii) ∧ w'.cell? ⟨w.heap.size, 7, none⟩ = some (.bool a.h.dr) ∧ w'.cell? ⟨w.heap.size + 3, 8, none⟩ = some (.int .i64 r'.e)) : World → Prop) _ := KD.out _ KS19.out
    refine hK _ _ (fun _ => hS1) ?_
    clear hK K
    (try simp only [Act.put, List.setIfInBounds_toArray, List.set_cons_zero, List.set_cons_succ])
    refine regN_ready (rs := [4]) (by kernel_rfl) (by simp) ?_
    refine (AllN.cons (i := 4) (l2 := #[true, true, true, true, true]) rfl rfl (fun K hK => ?_) AllN.nil)
    go_simp
    refine hK _ _ (fun h => absurd rfl h) ?_
    clear hK K
    (try simp only [Act.put, List.setIfInBounds_toArray, List.set_cons_zero, List.set_cons_succ])
    refine regN_done (by kernel_rfl) ?_ _
    go_wp2
    (try simp only [Exit.inBlock, Exit.then])
    obtain ⟨hs8, hg8⟩ := set_eight (w := w5) (B := w.heap.size + 1 + 1) (a := .int .i64 a.h.cl) (b := .int .i64 a.h.me) (c := .int .i64 a.h.pc) (d := .slice a.lA n1 a.lc) (e := .slice a.sA n2 a.sc) (f := .int .i64 a.h.lk) (g := .bool a.h.ii) (h := .bool a.h.dr) ⟨_, _, _, _, _, _, _, _, rfl⟩ V2.out
    have hb8 := H5.out.bel.trans (grown_below hg8 (fun k hk => by have := Option.some.inj hk; omega) H5.out.bel.size)
    generalize (((((((w5.setCell ⟨w.heap.size + 1 + 1, 0, none⟩ (.int .i64 a.h.cl)).setCell ⟨w.heap.size + 1 + 1, 1, none⟩ (.int .i64 a.h.me)).setCell ⟨w.heap.size + 1 + 1, 2, none⟩ (.int .i64 a.h.pc)).setCell ⟨w.heap.size + 1 + 1, 3, none⟩ (.slice a.lA n1 a.lc)).setCell ⟨w.heap.size + 1 + 1, 4, none⟩ (.slice a.sA n2 a.sc)).setCell ⟨w.heap.size + 1 + 1, 5, none⟩ (.int .i64 a.h.lk)).setCell ⟨w.heap.size + 1 + 1, 6, none⟩ (.bool a.h.ii)).setCell ⟨w.heap.size + 1 + 1, 7, none⟩ (.bool a.h.dr) = w9 at hs8 hg8 hb8 ⊢
    refine bodyPost_ret (ex_ret (w := w9.drew) rfl rfl hs8 rfl) rfl ?_
    have hb8 := below_dr1 hb8
    rw [show execS i ⟨a.h, a.ls, a.ss⟩ = ⟨a.h, a.ls, a.ss⟩ from if_pos (by rw [HE.out]; exact he), HE.out]
    exact ⟨a, by rw [← HN.out.1, ← HN.out.2]; rfl, ⟨HA.out.l.up hb8, HA.out.s.up hb8, HA.out.ll, HA.out.sl⟩, rfl, rfl, rfl, hb8, Or.inl rfl, Or.inl ⟨rfl, rfl⟩⟩

end Go.Proofs.Ytgiglbjkijlchaa
