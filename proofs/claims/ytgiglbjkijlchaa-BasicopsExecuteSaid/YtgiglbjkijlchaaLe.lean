/- Layer 42: BasicopsExecute (written by gen/bolaw.py). -/
import Derived.Test.YtgiglbjkijlchaaLd
import Derived.Test.YtgiglbjkijlchaaSa
import Derived.Test.YtgiglbjkijlchaaLo
import Derived.Test.YtgiglbjkijlchaaRyd
namespace Go.Proofs.Ytgiglbjkijlchaa
open Go.ChangeShapes Go.WideShapes Go.ChangeAt Go.RowKit Go.PlainAid
set_option linter.unusedSimpArgs false
set_option linter.unusedVariables false

set_option maxRecDepth 100000 in
set_option maxHeartbeats 4000000 in
theorem execute_law (a : Ac) (i : In) (w : World) (ha : a.raw w) (hi : i.ok w w.heap.size) (hra : Rg i.a) :
    Calls Try.prog 3 #[(Value.agg #[Value.int IntKind.i64 (Hd8.cl a.h), Value.int IntKind.i64 (Hd8.me a.h), Value.int IntKind.i64 (Hd8.pc a.h), ((.slice a.lA a.ls.length a.lc)), ((.slice a.sA a.ss.length a.sc)), Value.int IntKind.i64 (Hd8.lk a.h), Value.bool (Hd8.ii a.h), Value.bool (Hd8.dr a.h)]), (Value.agg #[Value.int IntKind.i64 (In.op i), Value.int IntKind.i64 (In.a i), Value.int IntKind.i64 (In.b i), Value.int IntKind.i64 (In.t i), Value.slice (In.kA i) (In.kn i) (In.kc i), Value.slice (In.tA i) (In.tn i) (In.tc i), Value.string (In.r1 i), Value.string (In.r2 i), Value.string (In.r3 i), Value.string (In.s i)])] w fun e w' => e = .returned (.bool true) ∧ Below w.heap.size w w' := by
  have HA := Lib.hid ha
  have HI := Lib.hid hi
  have HRA := Lib.hid hra
  obtain ⟨n1, hn1⟩ : ∃ n, a.ls.length = n := ⟨_, rfl⟩
  obtain ⟨n2, hn2⟩ : ∃ n, a.ss.length = n := ⟨_, rfl⟩
  have HN := Lib.hid (And.intro hn1 hn2)
  have HFY := Lib.hid (fun (W : World) (h : fewP a i) => few_yes (a := a) (i := i) W h)
  have HFN := Lib.hid (fun (W : World) (h : ¬ fewP a i) => few_no (a := a) (i := i) W h)
  rw [hn1, hn2] at HFY HFN
  rw [hn1, hn2]
  clear ha hi hra hn1 hn2
  by_cases hf : fewP a i
  · have hfw := hf
    unfold fewP at hfw
    rw [HN.out.1, HN.out.2] at hfw
    obtain ⟨f1, f2, f3, f4⟩ := hfw
    have HFW := Lib.hid hf
    clear hf
    have HEX := Lib.hid (fun (W : World) (h : Below w.heap.size w W) => exec_any a i W ⟨HA.out.ok.l.up h, HA.out.ok.s.up h, HA.out.ok.ll, HA.out.ok.sl⟩ (HI.out.up h) (by rw [HN.out.1]; omega) (by rw [HN.out.2]; omega) (by omega) (by omega) HRA.out HA.out.vs)
    have HRX := Lib.hid (fun (W : World) (h : Below w.heap.size w W) => rexec_any a i W ⟨HA.out.ok.l.up h, HA.out.ok.s.up h, HA.out.ok.ll, HA.out.ok.sl⟩ (HI.out.up h) (by rw [HN.out.1]; omega) (by rw [HN.out.2]; omega) (by omega) (by omega) HRA.out HA.out.vl HA.out.vs)
    rw [HN.out.1, HN.out.2] at HEX HRX
    obtain ⟨xs, hxs⟩ : ∃ xs, execS i ⟨a.h, a.ls, a.ss⟩ = xs := ⟨_, rfl⟩
    obtain ⟨xe, hxe⟩ : ∃ xe, execE i ⟨a.h, a.ls, a.ss⟩ = xe := ⟨_, rfl⟩
    rw [hxs, hxe] at HEX HRX
    have HXS := Lib.hid hxs
    clear hxs hxe
    obtain ⟨⟨xcl, xme, xpc, xlk, xii, xdr⟩, xls, xss⟩ := xs
    obtain ⟨p, hp⟩ : ∃ n, xls.length = n := ⟨_, rfl⟩
    obtain ⟨s, hs⟩ : ∃ n, xss.length = n := ⟨_, rfl⟩
    have HPS := Lib.hid (And.intro hp hs)
    have HPB := Lib.hid (show p ≤ 100 ∧ s ≤ 100 from by
      have hlen := exec_len i ⟨a.h, a.ls, a.ss⟩
      rw [HXS.out] at hlen
      have h1 : xls.length = a.ls.length := hlen.1
      have h2 : xss.length ≤ a.ss.length + 3 := hlen.2
      rw [HN.out.1] at h1
      rw [HN.out.2] at h2
      omega)
    clear hp hs
    go_enter Try.func3, Try.ntmps3
    go_upto_region 1 with fail
    have R0 := laid_old (o' := (.cells #[.int .i64 i.op, .int .i64 i.a, .int .i64 i.b, .int .i64 i.t, .slice i.kA i.kn i.kc, .slice i.tA i.tn i.tc, .string i.r1, .string i.r2, .string i.r3, .string i.s] 29)) (World.alloc_heap_new w (.cells #[.int .i64 a.h.cl, .int .i64 a.h.me, .int .i64 a.h.pc, .slice a.lA n1 a.lc, .slice a.sA n2 a.sc, .int .i64 a.h.lk, .bool a.h.ii, .bool a.h.dr] 24))
    have R1 := World.alloc_heap_new (w.alloc (.cells #[.int .i64 a.h.cl, .int .i64 a.h.me, .int .i64 a.h.pc, .slice a.lA n1 a.lc, .slice a.sA n2 a.sc, .int .i64 a.h.lk, .bool a.h.ii, .bool a.h.dr] 24)) (.cells #[.int .i64 i.op, .int .i64 i.a, .int .i64 i.b, .int .i64 i.t, .slice i.kA i.kn i.kc, .slice i.tA i.tn i.tc, .string i.r1, .string i.r2, .string i.r3, .string i.s] 29)
    have hsz : (w.alloc (.cells #[.int .i64 a.h.cl, .int .i64 a.h.me, .int .i64 a.h.pc, .slice a.lA n1 a.lc, .slice a.sA n2 a.sc, .int .i64 a.h.lk, .bool a.h.ii, .bool a.h.dr] 24)).heap.size = w.heap.size + 1 := by simp
    rw [hsz] at R1
    have hlt2 : w.heap.size + 2 ≤ ((w.alloc (.cells #[.int .i64 a.h.cl, .int .i64 a.h.me, .int .i64 a.h.pc, .slice a.lA n1 a.lc, .slice a.sA n2 a.sc, .int .i64 a.h.lk, .bool a.h.ii, .bool a.h.dr] 24)).alloc (.cells #[.int .i64 i.op, .int .i64 i.a, .int .i64 i.b, .int .i64 i.t, .slice i.kA i.kn i.kc, .slice i.tA i.tn i.tc, .string i.r1, .string i.r2, .string i.r3, .string i.s] 29)).heap.size := by simp
    have hB := below_al (below_al (Below.refl w.heap.size w) (.cells #[.int .i64 a.h.cl, .int .i64 a.h.me, .int .i64 a.h.pc, .slice a.lA n1 a.lc, .slice a.sA n2 a.sc, .int .i64 a.h.lk, .bool a.h.ii, .bool a.h.dr] 24)) (.cells #[.int .i64 i.op, .int .i64 i.a, .int .i64 i.b, .int .i64 i.t, .slice i.kA i.kn i.kc, .slice i.tA i.tn i.tc, .string i.r1, .string i.r2, .string i.r3, .string i.s] 29)
    generalize (w.alloc (.cells #[.int .i64 a.h.cl, .int .i64 a.h.me, .int .i64 a.h.pc, .slice a.lA n1 a.lc, .slice a.sA n2 a.sc, .int .i64 a.h.lk, .bool a.h.ii, .bool a.h.dr] 24)).alloc (.cells #[.int .i64 i.op, .int .i64 i.a, .int .i64 i.b, .int .i64 i.t, .slice i.kA i.kn i.kc, .slice i.tA i.tn i.tc, .string i.r1, .string i.r2, .string i.r3, .string i.s] 29) = W1 at R0 R1 hB hlt2 ⊢
    have HR0 := Lib.hid R0
    have HR1 := Lib.hid R1
    have HB := Lib.hid hB
    obtain ⟨a0, a1, a2, a3, a4, a5, a6, a7⟩ := eight_cells R0
    obtain ⟨r0, r1, r2, r3, r4, r5, r6, r7, r8, r9⟩ := ten_cells R1
    have y0 := lt_heapV R0
    have y1 := lt_heapV R1
    clear R0 R1 hsz hB
    go_upto_region 3 with (go_at_call 8; refine (HFY.out _ HFW.out).mono ?_; rintro e w2 ⟨rfl, hb2⟩)
    have HB2 := Lib.hid (below_on HB.out hb2)
    have HS0 := Lib.hid ((hb2.block _ y0).trans HR0.out)
    have HS1 := Lib.hid ((hb2.block _ y1).trans HR1.out)
    clear hb2 a0 a1 a2 a3 a4 a5 a6 a7 r0 r1 r2 r3 r4 r5 r6 r7 r8 r9
    obtain ⟨a0, a1, a2, a3, a4, a5, a6, a7⟩ := eight_cells HS0.out
    obtain ⟨r0, r1, r2, r3, r4, r5, r6, r7, r8, r9⟩ := ten_cells HS1.out
    have t0 := lt_heapV HS0.out
    have t1 := lt_heapV HS1.out
    go_upto_region 4 with (go_at_call 10; refine (HEX.out _ HB2.out).mono ?_; rintro e w5 ⟨⟨⟨cl5, me5, pc5, lk5, ii5, dr5⟩, ls5, ss5, lA5, lc5, sA5, sc5⟩, rfl, ho5, e51, e52, e53, hbb5, _, _⟩; dsimp only at e51 e52 e53 ho5; injection e51.symm with i1 i2 i3 i4 i5 i6; have e52 := e52.symm; have e53 := e53.symm; subst i1 i2 i3 i4 i5 i6 e52 e53; clear e51; dsimp only [Ac.val]; rw [HPS.out.1, HPS.out.2])
    have x5 := World.alloc_heap_new w5 (.cells #[.int .i64 xcl, .int .i64 xme, .int .i64 xpc, .slice lA5 p lc5, .slice sA5 s sc5, .int .i64 xlk, .bool xii, .bool xdr] 24)
    have hb5a := below_al (Below.refl w5.heap.size w5) (.cells #[.int .i64 xcl, .int .i64 xme, .int .i64 xpc, .slice lA5 p lc5, .slice sA5 s sc5, .int .i64 xlk, .bool xii, .bool xdr] 24)
    have hz5 : w5.heap.size < (w5.alloc (.cells #[.int .i64 xcl, .int .i64 xme, .int .i64 xpc, .slice lA5 p lc5, .slice sA5 s sc5, .int .i64 xlk, .bool xii, .bool xdr] 24)).heap.size := by simp
    generalize w5.alloc (.cells #[.int .i64 xcl, .int .i64 xme, .int .i64 xpc, .slice lA5 p lc5, .slice sA5 s sc5, .int .i64 xlk, .bool xii, .bool xdr] 24) = W5 at x5 hb5a hz5 ⊢
    have HX5 := Lib.hid x5
    have HO5 := Lib.hid (And.intro (ho5.l.up hb5a) (ho5.s.up hb5a))
    have HB5 := Lib.hid (below_on hbb5 hb5a)
    have K5 := Lib.hid (below_on hbb5 hb5a)
    have HU0 := Lib.hid ((K5.out.block _ t0).trans HS0.out)
    have HU1 := Lib.hid ((K5.out.block _ t1).trans HS1.out)
    have HC5 := Lib.hid (below_on HB2.out K5.out)
    clear a0 a1 a2 a3 a4 a5 a6 a7 r0 r1 r2 r3 r4 r5 r6 r7 r8 r9 x5 hb5a hbb5 ho5
    obtain ⟨a0, a1, a2, a3, a4, a5, a6, a7⟩ := eight_cells HU0.out
    obtain ⟨r0, r1, r2, r3, r4, r5, r6, r7, r8, r9⟩ := ten_cells HU1.out
    have u0 := lt_heapV HU0.out
    have u1 := lt_heapV HU1.out
    go_upto_region 5 with (go_at_call 11; refine (HRX.out _ HC5.out).mono ?_; rintro e w7 ⟨⟨⟨cl7, me7, pc7, lk7, ii7, dr7⟩, ls7, ss7, lA7, lc7, sA7, sc7⟩, rfl, ho7, e71, e72, e73, hbb7, _, _⟩; dsimp only at e71 e72 e73 ho7; injection e71.symm with i1 i2 i3 i4 i5 i6; have e72 := e72.symm; have e73 := e73.symm; subst i1 i2 i3 i4 i5 i6 e72 e73; clear e71; dsimp only [Ac.val]; rw [HPS.out.1, HPS.out.2])
    have x7 := World.alloc_heap_new w7 (.cells #[.int .i64 xcl, .int .i64 xme, .int .i64 xpc, .slice lA7 p lc7, .slice sA7 s sc7, .int .i64 xlk, .bool xii, .bool xdr] 24)
    have hb7a := below_al (Below.refl w7.heap.size w7) (.cells #[.int .i64 xcl, .int .i64 xme, .int .i64 xpc, .slice lA7 p lc7, .slice sA7 s sc7, .int .i64 xlk, .bool xii, .bool xdr] 24)
    have hz7 : w7.heap.size < (w7.alloc (.cells #[.int .i64 xcl, .int .i64 xme, .int .i64 xpc, .slice lA7 p lc7, .slice sA7 s sc7, .int .i64 xlk, .bool xii, .bool xdr] 24)).heap.size := by simp
    generalize w7.alloc (.cells #[.int .i64 xcl, .int .i64 xme, .int .i64 xpc, .slice lA7 p lc7, .slice sA7 s sc7, .int .i64 xlk, .bool xii, .bool xdr] 24) = W7 at x7 hb7a hz7 ⊢
    have HX7 := Lib.hid x7
    have HO7 := Lib.hid (And.intro (ho7.l.up hb7a) (ho7.s.up hb7a))
    have HB7 := Lib.hid (below_on hbb7 hb7a)
    have K7 := Lib.hid (below_on hbb7 hb7a)
    have HC7 := Lib.hid (below_on HC5.out K7.out)
    have HV1 := Lib.hid ((K7.out.block _ u1).trans HU1.out)
    have HV5 := Lib.hid ((K7.out.block _ hz5).trans HX5.out)
    have HO57 := Lib.hid (And.intro (HO5.out.1.up K7.out) (HO5.out.2.up K7.out))
    clear a0 a1 a2 a3 a4 a5 a6 a7 r0 r1 r2 r3 r4 r5 r6 r7 r8 r9 x7 hb7a hbb7 ho7
    obtain ⟨b0, b1, b2, b3, b4, b5, b6, b7⟩ := eight_cells HV5.out
    obtain ⟨c0, c1, c2, c3, c4, c5, c6, c7⟩ := eight_cells HX7.out
    have r0 := (ten_cells HV1.out).1
    have q1 := lt_heapV HV1.out
    have q5 := lt_heapV HV5.out
    have HSA := Lib.hid (fun (W : World) (h : Below W7.heap.size W7 W) => show Calls Try.prog 12 #[.agg #[.int .i64 xcl, .int .i64 xme, .int .i64 xpc, .slice lA5 p lc5, .slice sA5 s sc5, .int .i64 xlk, .bool xii, .bool xdr], .agg #[.int .i64 xcl, .int .i64 xme, .int .i64 xpc, .slice lA7 p lc7, .slice sA7 s sc7, .int .i64 xlk, .bool xii, .bool xdr]] W (fun e w' => e = .returned (.bool true) ∧ Below W.heap.size W w') by
      exact sa_yes _ _ _ _ _ _ (HO57.out.1.up h) (HO57.out.2.up h) (HO7.out.1.up h) (HO7.out.2.up h) HPS.out.1 HPS.out.2 (by have := HPB.out.1; omega) (by have := HPB.out.2; omega))
    obtain ⟨hv, hhv⟩ : ∃ hv, hdl i.op = hv := ⟨_, rfl⟩
    have HH := Lib.hid (fun (W : World) => show Calls Try.prog 13 #[.int .i64 i.op] W (fun e w' => e = .returned (.bool hv) ∧ Below W.heap.size W w') from (handles_any i.op W).mono fun e w' ⟨h, h2⟩ => ⟨by rw [← hhv]; exact h, by rw [← h2]; exact Below.refl _ _⟩)
    have HRH := Lib.hid (fun (W : World) => show Calls Try.prog 14 #[.int .i64 i.op] W (fun e w' => e = .returned (.bool hv) ∧ Below W.heap.size W w') from (rhandles_any i.op W).mono fun e w' ⟨h, h2⟩ => ⟨by rw [← hhv]; exact h, by rw [← h2]; exact Below.refl _ _⟩)
    clear hhv
    have hq0 : Below W7.heap.size W7 W7 := Below.refl _ _
    have KB := Lib.hid (show ∀ (W W' : World), Below W7.heap.size W7 W → Below W.heap.size W W' → Below W7.heap.size W7 W' from fun W W' h1 h2 => below_on h1 h2)
    clear f1 f2 f3 f4 t0 t1 u0 u1 y0 y1
    go_region_held3 (fun w' => w'.cell? ⟨w5.heap.size, 0, none⟩ = some (.int .i64 xcl) ∧ w'.cell? ⟨w5.heap.size, 1, none⟩ = some (.int .i64 xme) ∧ w'.cell? ⟨w5.heap.size, 2, none⟩ = some (.int .i64 xpc) ∧ w'.cell? ⟨w5.heap.size, 3, none⟩ = some (.slice lA5 p lc5) ∧ w'.cell? ⟨w5.heap.size, 4, none⟩ = some (.slice sA5 s sc5) ∧ w'.cell? ⟨w5.heap.size, 5, none⟩ = some (.int .i64 xlk) ∧ w'.cell? ⟨w5.heap.size, 6, none⟩ = some (.bool xii) ∧ w'.cell? ⟨w5.heap.size, 7, none⟩ = some (.bool xdr) ∧ w'.cell? ⟨w7.heap.size, 0, none⟩ = some (.int .i64 xcl) ∧ w'.cell? ⟨w7.heap.size, 1, none⟩ = some (.int .i64 xme) ∧ w'.cell? ⟨w7.heap.size, 2, none⟩ = some (.int .i64 xpc) ∧ w'.cell? ⟨w7.heap.size, 3, none⟩ = some (.slice lA7 p lc7) ∧ w'.cell? ⟨w7.heap.size, 4, none⟩ = some (.slice sA7 s sc7) ∧ w'.cell? ⟨w7.heap.size, 5, none⟩ = some (.int .i64 xlk) ∧ w'.cell? ⟨w7.heap.size, 6, none⟩ = some (.bool xii) ∧ w'.cell? ⟨w7.heap.size, 7, none⟩ = some (.bool xdr) ∧ w'.cell? ⟨w.heap.size + 1, 0, none⟩ = some (.int .i64 i.op) ∧ Below W7.heap.size W7 w') (((try go_split_ands); (repeat' apply And.intro) <;> (first | assumption | exact KB.out _ _ (by assumption) hq | exact Below.drew (by assumption) | exact (Below.cell (KB.out _ _ (by assumption) hq) (by first | assumption | omega)).trans (by assumption) | go_keep)))
      (first | (go_at_call 12; (with_reducible refine (HSA.out _ (by first | assumption | (go_split_ands; assumption))).mono ?_); rintro e w2 ⟨rfl, hq⟩) | (go_at_call 13; (with_reducible refine (HH.out _).mono ?_); rintro e w2 ⟨rfl, hq⟩) | (go_at_call 14; (with_reducible refine (HRH.out _).mono ?_); rintro e w2 ⟨rfl, hq⟩) | (go_at_call 9; (with_reducible refine (awake42_any _).mono ?_); rintro e w2 ⟨rfl, hq⟩))
    all_goals (go_split_ands; go_wp2; go_ret; exact ⟨rfl, below_on HC7.out (by assumption)⟩)
  · go_enter Try.func3, Try.ntmps3
    go_upto_region 1 with fail
    have R0 := laid_old (o' := (.cells #[.int .i64 i.op, .int .i64 i.a, .int .i64 i.b, .int .i64 i.t, .slice i.kA i.kn i.kc, .slice i.tA i.tn i.tc, .string i.r1, .string i.r2, .string i.r3, .string i.s] 29)) (World.alloc_heap_new w (.cells #[.int .i64 a.h.cl, .int .i64 a.h.me, .int .i64 a.h.pc, .slice a.lA n1 a.lc, .slice a.sA n2 a.sc, .int .i64 a.h.lk, .bool a.h.ii, .bool a.h.dr] 24))
    have R1 := World.alloc_heap_new (w.alloc (.cells #[.int .i64 a.h.cl, .int .i64 a.h.me, .int .i64 a.h.pc, .slice a.lA n1 a.lc, .slice a.sA n2 a.sc, .int .i64 a.h.lk, .bool a.h.ii, .bool a.h.dr] 24)) (.cells #[.int .i64 i.op, .int .i64 i.a, .int .i64 i.b, .int .i64 i.t, .slice i.kA i.kn i.kc, .slice i.tA i.tn i.tc, .string i.r1, .string i.r2, .string i.r3, .string i.s] 29)
    have hsz : (w.alloc (.cells #[.int .i64 a.h.cl, .int .i64 a.h.me, .int .i64 a.h.pc, .slice a.lA n1 a.lc, .slice a.sA n2 a.sc, .int .i64 a.h.lk, .bool a.h.ii, .bool a.h.dr] 24)).heap.size = w.heap.size + 1 := by simp
    rw [hsz] at R1
    have hlt2 : w.heap.size + 2 ≤ ((w.alloc (.cells #[.int .i64 a.h.cl, .int .i64 a.h.me, .int .i64 a.h.pc, .slice a.lA n1 a.lc, .slice a.sA n2 a.sc, .int .i64 a.h.lk, .bool a.h.ii, .bool a.h.dr] 24)).alloc (.cells #[.int .i64 i.op, .int .i64 i.a, .int .i64 i.b, .int .i64 i.t, .slice i.kA i.kn i.kc, .slice i.tA i.tn i.tc, .string i.r1, .string i.r2, .string i.r3, .string i.s] 29)).heap.size := by simp
    have hB := below_al (below_al (Below.refl w.heap.size w) (.cells #[.int .i64 a.h.cl, .int .i64 a.h.me, .int .i64 a.h.pc, .slice a.lA n1 a.lc, .slice a.sA n2 a.sc, .int .i64 a.h.lk, .bool a.h.ii, .bool a.h.dr] 24)) (.cells #[.int .i64 i.op, .int .i64 i.a, .int .i64 i.b, .int .i64 i.t, .slice i.kA i.kn i.kc, .slice i.tA i.tn i.tc, .string i.r1, .string i.r2, .string i.r3, .string i.s] 29)
    generalize (w.alloc (.cells #[.int .i64 a.h.cl, .int .i64 a.h.me, .int .i64 a.h.pc, .slice a.lA n1 a.lc, .slice a.sA n2 a.sc, .int .i64 a.h.lk, .bool a.h.ii, .bool a.h.dr] 24)).alloc (.cells #[.int .i64 i.op, .int .i64 i.a, .int .i64 i.b, .int .i64 i.t, .slice i.kA i.kn i.kc, .slice i.tA i.tn i.tc, .string i.r1, .string i.r2, .string i.r3, .string i.s] 29) = W1 at R0 R1 hB hlt2 ⊢
    have HR0 := Lib.hid R0
    have HR1 := Lib.hid R1
    have HB := Lib.hid hB
    obtain ⟨a0, a1, a2, a3, a4, a5, a6, a7⟩ := eight_cells R0
    obtain ⟨r0, r1, r2, r3, r4, r5, r6, r7, r8, r9⟩ := ten_cells R1
    have y0 := lt_heapV R0
    have y1 := lt_heapV R1
    clear R0 R1 hsz hB
    have HFW := Lib.hid hf
    clear hf
    go_wp2_with (first | (go_at_call 8; refine (HFN.out _ HFW.out).mono ?_; rintro e w2 ⟨rfl, hb2⟩; have HB2 := Lib.hid (below_on HB.out hb2); clear hb2) | (go_at_call 9; refine (awake42_any _).mono ?_; rintro e w4 ⟨rfl, hb4⟩; have HB4 := Lib.hid (below_on HB2.out hb4); clear hb4))
    go_ret
    exact ⟨rfl, HB4.out⟩
end Go.Proofs.Ytgiglbjkijlchaa
