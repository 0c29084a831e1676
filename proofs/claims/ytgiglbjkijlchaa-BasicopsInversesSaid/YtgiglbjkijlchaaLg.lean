/- Layer 42: BasicopsInverses (written by gen/boinv.py). -/
import Derived.Test.YtgiglbjkijlchaaLb
import Derived.Test.YtgiglbjkijlchaaRu
import Derived.Test.YtgiglbjkijlchaaSa
import Derived.Test.YtgiglbjkijlchaaLo
import Derived.Test.YtgiglbjkijlchaaLf
namespace Go.Proofs.Ytgiglbjkijlchaa
open Go.ChangeShapes Go.WideShapes Go.ChangeAt Go.RowKit Go.PlainAid
set_option linter.unusedSimpArgs false
set_option linter.unusedVariables false

theorem insX_ok (op l : Int) (w : World) (B : Nat) : (insX op l).ok w B := ⟨rfl, Nat.le_refl _, by show 0 ≤ 9223372036854775807; omega, Or.inl rfl, rfl, Nat.le_refl _, by show 0 ≤ 9223372036854775807; omega, Or.inl rfl⟩
theorem u8_wf {n : Int} (h : (Lit.int .u8 n).wf = true) : 0 ≤ n ∧ n ≤ 255 := by
  simp only [Lit.wf, Bool.and_eq_true, decide_eq_true_eq] at h
  have h1 := h.1
  have h2 := h.2
  rw [show IntKind.u8.min = 0 from by rfl] at h1
  rw [show IntKind.u8.max = 255 from by rfl] at h2
  exact ⟨h1, h2⟩
theorem mod5 (k : Int) (h0 : 0 ≤ k) : k.tmod 5 = 0 ∨ k.tmod 5 = 1 ∨ k.tmod 5 = 2 ∨ k.tmod 5 = 3 ∨ k.tmod 5 = 4 := by
  rw [Int.tmod_eq_emod_of_nonneg h0]
  omega
set_option maxRecDepth 100000 in
set_option maxHeartbeats 2000000 in
theorem inverses_0 (a : Ac) (k l : Int) (w : World) (ha : a.raw w) (hk0 : 0 ≤ k) (hk1 : k ≤ 255) (hl : Rg l) (hf : a.ls.length ≤ 40 ∧ a.ss.length ≤ 40) (hn : k.tmod 5 = 0) :
    Calls Try.prog 6 #[(Value.agg #[Value.int IntKind.i64 (Hd8.cl a.h), Value.int IntKind.i64 (Hd8.me a.h), Value.int IntKind.i64 (Hd8.pc a.h), ((.slice a.lA a.ls.length a.lc)), ((.slice a.sA a.ss.length a.sc)), Value.int IntKind.i64 (Hd8.lk a.h), Value.bool (Hd8.ii a.h), Value.bool (Hd8.dr a.h)]), .int .u8 k, .int .i64 l] w fun e w' => e = .returned (.bool true) ∧ Below w.heap.size w w' := by
  have HA := Lib.hid ha
  have HL := Lib.hid hl
  obtain ⟨n1, hn1⟩ : ∃ n, a.ls.length = n := ⟨_, rfl⟩
  obtain ⟨n2, hn2⟩ : ∃ n, a.ss.length = n := ⟨_, rfl⟩
  have HN := Lib.hid (And.intro hn1 hn2)
  rw [hn1, hn2] at hf
  rw [hn1, hn2]
  obtain ⟨f1, f2⟩ := hf
  clear ha hl hn1 hn2
  have hwk : IntKind.i64.wrap k = k := by rw [IntKind.wrap_i64]; omega
  have HEX := Lib.hid (fun (W : World) (h : Below w.heap.size w W) => exec_any a (insX 14 l) W ⟨HA.out.ok.l.up h, HA.out.ok.s.up h, HA.out.ok.ll, HA.out.ok.sl⟩ (insX_ok _ _ _ _) (by rw [HN.out.1]; omega) (by rw [HN.out.2]; omega) (by show 0 ≤ 100000; omega) (by show 0 ≤ 100000; omega) HL.out HA.out.vs)
  rw [HN.out.1, HN.out.2] at HEX
  dsimp only [insX] at HEX
  obtain ⟨xs, hxs⟩ : ∃ xs, execS (insX 14 l) ⟨a.h, a.ls, a.ss⟩ = xs := ⟨_, rfl⟩
  obtain ⟨xe, hxe⟩ : ∃ xe, execE (insX 14 l) ⟨a.h, a.ls, a.ss⟩ = xe := ⟨_, rfl⟩
  have HXS := Lib.hid hxs
  have HXE := Lib.hid hxe
  unfold insX at hxs hxe
  rw [hxs, hxe] at HEX
  clear hxs hxe
  obtain ⟨⟨xcl, xme, xpc, xlk, xii, xdr⟩, xls, xss⟩ := xs
  obtain ⟨p, hp⟩ : ∃ n, xls.length = n := ⟨_, rfl⟩
  obtain ⟨s, hs⟩ : ∃ n, xss.length = n := ⟨_, rfl⟩
  have HPS := Lib.hid (And.intro hp hs)
  have HPB := Lib.hid (show p ≤ 100 ∧ s ≤ 100 from by
    have hlen := exec_len (insX 14 l) ⟨a.h, a.ls, a.ss⟩
    rw [HXS.out] at hlen
    have h1 : xls.length = a.ls.length := hlen.1
    have h2 : xss.length ≤ a.ss.length + 3 := hlen.2
    rw [HN.out.1] at h1
    rw [HN.out.2] at h2
    omega)
  clear hp hs
  go_enter Try.func6, Try.ntmps6
  go_upto_region 1 with fail
  have R0 := World.alloc_heap_new w (.cells #[.int .i64 a.h.cl, .int .i64 a.h.me, .int .i64 a.h.pc, .slice a.lA n1 a.lc, .slice a.sA n2 a.sc, .int .i64 a.h.lk, .bool a.h.ii, .bool a.h.dr] 24)
  have hB := below_al (Below.refl w.heap.size w) (.cells #[.int .i64 a.h.cl, .int .i64 a.h.me, .int .i64 a.h.pc, .slice a.lA n1 a.lc, .slice a.sA n2 a.sc, .int .i64 a.h.lk, .bool a.h.ii, .bool a.h.dr] 24)
  generalize w.alloc (.cells #[.int .i64 a.h.cl, .int .i64 a.h.me, .int .i64 a.h.pc, .slice a.lA n1 a.lc, .slice a.sA n2 a.sc, .int .i64 a.h.lk, .bool a.h.ii, .bool a.h.dr] 24) = W1 at R0 hB ⊢
  have HR0 := Lib.hid R0
  have HB := Lib.hid hB
  obtain ⟨a0, a1, a2, a3, a4, a5, a6, a7⟩ := eight_cells R0
  have y0 := lt_heapV R0
  clear R0 hB
  go_upto_region 6 with fail
  have hB2 := below_al (below_al (Below.refl W1.heap.size W1) (.cells #[.int .i64 14, .int .i64 12, .int .i64 4, .int .i64 5, .int .i64 6] 3)) (.cells #[.int .i64 14, .int .i64 11, .int .i64 7, .int .i64 8, .int .i64 9] 3)
  generalize (W1.alloc (.cells #[.int .i64 14, .int .i64 12, .int .i64 4, .int .i64 5, .int .i64 6] 3)).alloc (.cells #[.int .i64 14, .int .i64 11, .int .i64 7, .int .i64 8, .int .i64 9] 3) = W2 at hB2 ⊢
  have HB2 := Lib.hid (below_on HB.out hB2)
  have HS0 := Lib.hid ((hB2.block _ y0).trans HR0.out)
  clear hB2 a0 a1 a2 a3 a4 a5 a6 a7
  obtain ⟨a0, a1, a2, a3, a4, a5, a6, a7⟩ := eight_cells HS0.out
  have t0 := lt_heapV HS0.out
  go_upto_region 7 with (go_at_call 10; refine (HEX.out _ HB2.out).mono ?_; rintro e w5 ⟨⟨⟨cl5, me5, pc5, lk5, ii5, dr5⟩, ls5, ss5, lA5, lc5, sA5, sc5⟩, rfl, ho5, e51, e52, e53, hbb5, _, _⟩; dsimp only at e51 e52 e53 ho5; injection e51.symm with i1 i2 i3 i4 i5 i6; have e52 := e52.symm; have e53 := e53.symm; subst i1 i2 i3 i4 i5 i6 e52 e53; clear e51; dsimp only [Ac.val]; rw [HPS.out.1, HPS.out.2])
  have x5 := World.alloc_heap_new w5 (.cells #[.int .i64 xcl, .int .i64 xme, .int .i64 xpc, .slice lA5 p lc5, .slice sA5 s sc5, .int .i64 xlk, .bool xii, .bool xdr] 24)
  have hb5a := below_al (Below.refl w5.heap.size w5) (.cells #[.int .i64 xcl, .int .i64 xme, .int .i64 xpc, .slice lA5 p lc5, .slice sA5 s sc5, .int .i64 xlk, .bool xii, .bool xdr] 24)
  have hz5 : w5.heap.size < (w5.alloc (.cells #[.int .i64 xcl, .int .i64 xme, .int .i64 xpc, .slice lA5 p lc5, .slice sA5 s sc5, .int .i64 xlk, .bool xii, .bool xdr] 24)).heap.size := by simp
  generalize w5.alloc (.cells #[.int .i64 xcl, .int .i64 xme, .int .i64 xpc, .slice lA5 p lc5, .slice sA5 s sc5, .int .i64 xlk, .bool xii, .bool xdr] 24) = W5 at x5 hb5a hz5 ⊢
  have K5 := Lib.hid (below_on hbb5 hb5a)
  have HU0 := Lib.hid ((K5.out.block _ t0).trans HS0.out)
  have HC5 := Lib.hid (below_on HB2.out K5.out)
  have HOK5 := Lib.hid (show Ac.ok W5 ⟨⟨xcl, xme, xpc, xlk, xii, xdr⟩, xls, xss, lA5, lc5, sA5, sc5⟩ from ⟨ho5.l.up hb5a, ho5.s.up hb5a, ho5.ll, ho5.sl⟩)
  have HX5 := Lib.hid x5
  clear a0 a1 a2 a3 a4 a5 a6 a7 hb5a hbb5 ho5 x5
  obtain ⟨a0, a1, a2, a3, a4, a5, a6, a7⟩ := eight_cells HU0.out
  have u0 := lt_heapV HU0.out
  by_cases he : xe = 0
  · have hX := HXE.out
    rw [he] at hX
    have hinv := inv_shape (i := insX 14 l) (j := insX 14 l) (h := a.h) (ls := a.ls) (ss := a.ss) (by show (14 : Int) < 36; decide) (by show (14 : Int) < 36; decide) (by rfl) hX (fun h => inv_swap h)
    rw [HXS.out] at hinv
    obtain ⟨hv1, hv2⟩ := hinv
    obtain ⟨q2, hq2⟩ : ∃ q, wrap64 (wrap64 (a.h.pc + 1) + 1) = q := ⟨_, rfl⟩
    rw [hq2] at hv2
    have HQ2 := Lib.hid hq2
    have hvs := exec_in (i := insX 14 l) (a := ⟨a.h, a.ls, a.ss⟩) HA.out.vl HA.out.vs HL.out
    rw [HXS.out] at hvs
    have CL := Lib.hid (exec_at (i := insX 14 l) (w := W5) HPS.out.1 HPS.out.2 HOK5.out (insX_ok _ _ _ _) (by have := HPB.out.1; omega) (by have := HPB.out.2; omega) (by show 0 ≤ 100000; omega) (by show 0 ≤ 100000; omega) HL.out hvs.2)
    rw [hv1, hv2] at CL
    dsimp only [insX] at CL
    clear hX hv1 hv2 hq2 hvs
    subst he
    obtain ⟨d0, d1, d2, d3, d4, d5, d6, d7⟩ := eight_cells HX5.out
    go_upto_region 10 with (go_at_call 10; refine CL.out.mono ?_; rintro e w7 ⟨⟨⟨cl7, me7, pc7, lk7, ii7, dr7⟩, ls7, ss7, lA7, lc7, sA7, sc7⟩, rfl, ho7, e71, e72, e73, hbb7, _, _⟩; dsimp only at e71 e72 e73 ho7; injection e71.symm with i1 i2 i3 i4 i5 i6; have e72 := e72.symm; have e73 := e73.symm; subst i1 i2 i3 i4 i5 i6 e72 e73; clear e71; dsimp only [Ac.val]; rw [HN.out.1, HN.out.2])
    have x7 := World.alloc_heap_new w7 (.cells #[.int .i64 a.h.cl, .int .i64 a.h.me, .int .i64 q2, .slice lA7 n1 lc7, .slice sA7 n2 sc7, .int .i64 a.h.lk, .bool a.h.ii, .bool a.h.dr] 24)
    have hb7a := below_al (Below.refl w7.heap.size w7) (.cells #[.int .i64 a.h.cl, .int .i64 a.h.me, .int .i64 q2, .slice lA7 n1 lc7, .slice sA7 n2 sc7, .int .i64 a.h.lk, .bool a.h.ii, .bool a.h.dr] 24)
    have hz7 : w7.heap.size < (w7.alloc (.cells #[.int .i64 a.h.cl, .int .i64 a.h.me, .int .i64 q2, .slice lA7 n1 lc7, .slice sA7 n2 sc7, .int .i64 a.h.lk, .bool a.h.ii, .bool a.h.dr] 24)).heap.size := by simp
    generalize w7.alloc (.cells #[.int .i64 a.h.cl, .int .i64 a.h.me, .int .i64 q2, .slice lA7 n1 lc7, .slice sA7 n2 sc7, .int .i64 a.h.lk, .bool a.h.ii, .bool a.h.dr] 24) = W7 at x7 hb7a hz7 ⊢
    have K7 := Lib.hid (below_on hbb7 hb7a)
    have HV0 := Lib.hid ((K7.out.block _ u0).trans HU0.out)
    have HC7 := Lib.hid (below_on HC5.out K7.out)
    have HL7 := Lib.hid (And.intro (ho7.l.up hb7a) (ho7.s.up hb7a))
    have HA7 := Lib.hid (And.intro (HA.out.ok.l.up HC7.out) (HA.out.ok.s.up HC7.out))
    have HX7 := Lib.hid x7
    clear d0 d1 d2 d3 d4 d5 d6 d7 a0 a1 a2 a3 a4 a5 a6 a7 hb7a hbb7 ho7 x7 u0 t0 y0 hz5
    obtain ⟨a0, a1, a2, a3, a4, a5, a6, a7⟩ := eight_cells HV0.out
    obtain ⟨c0, c1, c2, c3, c4, c5, c6, c7⟩ := eight_cells HX7.out
    have u0 := lt_heapV HV0.out
    have hpc : (q2 == wrap64 (a.h.pc + 2)) = true := by
      have := HQ2.out
      simp only [beq_iff_eq]
      rw [← this]
      unfold wrap64
      omega
    go_wp2_with (first
      | (go_at_call 17; with_reducible refine (sv_yes HA7.out.1 HL7.out.1 HN.out.1 (by omega)).mono ?_; rintro e w8 ⟨rfl, q, rfl⟩)
      | (go_at_call 17; with_reducible refine (sv_yes (HA7.out.2.up (below_dr (Below.refl _ _) _)) (HL7.out.2.up (below_dr (Below.refl _ _) _)) HN.out.2 (by omega)).mono ?_; rintro e w9 ⟨rfl, q3, rfl⟩)
      | (go_at_call 9; refine (awake42_any _).mono ?_; rintro e w10 ⟨rfl, hb10⟩))
    go_ret
    exact ⟨rfl, below_on (below_dr HC7.out _) hb10⟩
  · have hne : (xe == 0) = false := by simpa using he
    go_wp2_with (go_at_call 9; refine (awake42_any _).mono ?_; rintro e w9 ⟨rfl, hb9⟩)
    go_ret
    exact ⟨rfl, below_on HC5.out hb9⟩
set_option maxRecDepth 100000 in
set_option maxHeartbeats 2000000 in
theorem inverses_1 (a : Ac) (k l : Int) (w : World) (ha : a.raw w) (hk0 : 0 ≤ k) (hk1 : k ≤ 255) (hl : Rg l) (hf : a.ls.length ≤ 40 ∧ a.ss.length ≤ 40) (hn : k.tmod 5 = 1) :
    Calls Try.prog 6 #[(Value.agg #[Value.int IntKind.i64 (Hd8.cl a.h), Value.int IntKind.i64 (Hd8.me a.h), Value.int IntKind.i64 (Hd8.pc a.h), ((.slice a.lA a.ls.length a.lc)), ((.slice a.sA a.ss.length a.sc)), Value.int IntKind.i64 (Hd8.lk a.h), Value.bool (Hd8.ii a.h), Value.bool (Hd8.dr a.h)]), .int .u8 k, .int .i64 l] w fun e w' => e = .returned (.bool true) ∧ Below w.heap.size w w' := by
  have HA := Lib.hid ha
  have HL := Lib.hid hl
  obtain ⟨n1, hn1⟩ : ∃ n, a.ls.length = n := ⟨_, rfl⟩
  obtain ⟨n2, hn2⟩ : ∃ n, a.ss.length = n := ⟨_, rfl⟩
  have HN := Lib.hid (And.intro hn1 hn2)
  rw [hn1, hn2] at hf
  rw [hn1, hn2]
  obtain ⟨f1, f2⟩ := hf
  clear ha hl hn1 hn2
  have hwk : IntKind.i64.wrap k = k := by rw [IntKind.wrap_i64]; omega
  have HEX := Lib.hid (fun (W : World) (h : Below w.heap.size w W) => exec_any a (insX 12 l) W ⟨HA.out.ok.l.up h, HA.out.ok.s.up h, HA.out.ok.ll, HA.out.ok.sl⟩ (insX_ok _ _ _ _) (by rw [HN.out.1]; omega) (by rw [HN.out.2]; omega) (by show 0 ≤ 100000; omega) (by show 0 ≤ 100000; omega) HL.out HA.out.vs)
  rw [HN.out.1, HN.out.2] at HEX
  dsimp only [insX] at HEX
  obtain ⟨xs, hxs⟩ : ∃ xs, execS (insX 12 l) ⟨a.h, a.ls, a.ss⟩ = xs := ⟨_, rfl⟩
  obtain ⟨xe, hxe⟩ : ∃ xe, execE (insX 12 l) ⟨a.h, a.ls, a.ss⟩ = xe := ⟨_, rfl⟩
  have HXS := Lib.hid hxs
  have HXE := Lib.hid hxe
  unfold insX at hxs hxe
  rw [hxs, hxe] at HEX
  clear hxs hxe
  obtain ⟨⟨xcl, xme, xpc, xlk, xii, xdr⟩, xls, xss⟩ := xs
  obtain ⟨p, hp⟩ : ∃ n, xls.length = n := ⟨_, rfl⟩
  obtain ⟨s, hs⟩ : ∃ n, xss.length = n := ⟨_, rfl⟩
  have HPS := Lib.hid (And.intro hp hs)
  have HPB := Lib.hid (show p ≤ 100 ∧ s ≤ 100 from by
    have hlen := exec_len (insX 12 l) ⟨a.h, a.ls, a.ss⟩
    rw [HXS.out] at hlen
    have h1 : xls.length = a.ls.length := hlen.1
    have h2 : xss.length ≤ a.ss.length + 3 := hlen.2
    rw [HN.out.1] at h1
    rw [HN.out.2] at h2
    omega)
  clear hp hs
  go_enter Try.func6, Try.ntmps6
  go_upto_region 1 with fail
  have R0 := World.alloc_heap_new w (.cells #[.int .i64 a.h.cl, .int .i64 a.h.me, .int .i64 a.h.pc, .slice a.lA n1 a.lc, .slice a.sA n2 a.sc, .int .i64 a.h.lk, .bool a.h.ii, .bool a.h.dr] 24)
  have hB := below_al (Below.refl w.heap.size w) (.cells #[.int .i64 a.h.cl, .int .i64 a.h.me, .int .i64 a.h.pc, .slice a.lA n1 a.lc, .slice a.sA n2 a.sc, .int .i64 a.h.lk, .bool a.h.ii, .bool a.h.dr] 24)
  generalize w.alloc (.cells #[.int .i64 a.h.cl, .int .i64 a.h.me, .int .i64 a.h.pc, .slice a.lA n1 a.lc, .slice a.sA n2 a.sc, .int .i64 a.h.lk, .bool a.h.ii, .bool a.h.dr] 24) = W1 at R0 hB ⊢
  have HR0 := Lib.hid R0
  have HB := Lib.hid hB
  obtain ⟨a0, a1, a2, a3, a4, a5, a6, a7⟩ := eight_cells R0
  have y0 := lt_heapV R0
  clear R0 hB
  go_upto_region 6 with fail
  have hB2 := below_al (below_al (Below.refl W1.heap.size W1) (.cells #[.int .i64 14, .int .i64 12, .int .i64 4, .int .i64 5, .int .i64 6] 3)) (.cells #[.int .i64 14, .int .i64 11, .int .i64 7, .int .i64 8, .int .i64 9] 3)
  generalize (W1.alloc (.cells #[.int .i64 14, .int .i64 12, .int .i64 4, .int .i64 5, .int .i64 6] 3)).alloc (.cells #[.int .i64 14, .int .i64 11, .int .i64 7, .int .i64 8, .int .i64 9] 3) = W2 at hB2 ⊢
  have HB2 := Lib.hid (below_on HB.out hB2)
  have HS0 := Lib.hid ((hB2.block _ y0).trans HR0.out)
  clear hB2 a0 a1 a2 a3 a4 a5 a6 a7
  obtain ⟨a0, a1, a2, a3, a4, a5, a6, a7⟩ := eight_cells HS0.out
  have t0 := lt_heapV HS0.out
  go_upto_region 7 with (go_at_call 10; refine (HEX.out _ HB2.out).mono ?_; rintro e w5 ⟨⟨⟨cl5, me5, pc5, lk5, ii5, dr5⟩, ls5, ss5, lA5, lc5, sA5, sc5⟩, rfl, ho5, e51, e52, e53, hbb5, _, _⟩; dsimp only at e51 e52 e53 ho5; injection e51.symm with i1 i2 i3 i4 i5 i6; have e52 := e52.symm; have e53 := e53.symm; subst i1 i2 i3 i4 i5 i6 e52 e53; clear e51; dsimp only [Ac.val]; rw [HPS.out.1, HPS.out.2])
  have x5 := World.alloc_heap_new w5 (.cells #[.int .i64 xcl, .int .i64 xme, .int .i64 xpc, .slice lA5 p lc5, .slice sA5 s sc5, .int .i64 xlk, .bool xii, .bool xdr] 24)
  have hb5a := below_al (Below.refl w5.heap.size w5) (.cells #[.int .i64 xcl, .int .i64 xme, .int .i64 xpc, .slice lA5 p lc5, .slice sA5 s sc5, .int .i64 xlk, .bool xii, .bool xdr] 24)
  have hz5 : w5.heap.size < (w5.alloc (.cells #[.int .i64 xcl, .int .i64 xme, .int .i64 xpc, .slice lA5 p lc5, .slice sA5 s sc5, .int .i64 xlk, .bool xii, .bool xdr] 24)).heap.size := by simp
  generalize w5.alloc (.cells #[.int .i64 xcl, .int .i64 xme, .int .i64 xpc, .slice lA5 p lc5, .slice sA5 s sc5, .int .i64 xlk, .bool xii, .bool xdr] 24) = W5 at x5 hb5a hz5 ⊢
  have K5 := Lib.hid (below_on hbb5 hb5a)
  have HU0 := Lib.hid ((K5.out.block _ t0).trans HS0.out)
  have HC5 := Lib.hid (below_on HB2.out K5.out)
  have HOK5 := Lib.hid (show Ac.ok W5 ⟨⟨xcl, xme, xpc, xlk, xii, xdr⟩, xls, xss, lA5, lc5, sA5, sc5⟩ from ⟨ho5.l.up hb5a, ho5.s.up hb5a, ho5.ll, ho5.sl⟩)
  have HX5 := Lib.hid x5
  clear a0 a1 a2 a3 a4 a5 a6 a7 hb5a hbb5 ho5 x5
  obtain ⟨a0, a1, a2, a3, a4, a5, a6, a7⟩ := eight_cells HU0.out
  have u0 := lt_heapV HU0.out
  by_cases he : xe = 0
  · have hX := HXE.out
    rw [he] at hX
    have hinv := inv_shape (i := insX 12 l) (j := insX 11 l) (h := a.h) (ls := a.ls) (ss := a.ss) (by show (12 : Int) < 36; decide) (by show (11 : Int) < 36; decide) (by rfl) hX (fun h => inv_dup h)
    rw [HXS.out] at hinv
    obtain ⟨hv1, hv2⟩ := hinv
    obtain ⟨q2, hq2⟩ : ∃ q, wrap64 (wrap64 (a.h.pc + 1) + 1) = q := ⟨_, rfl⟩
    rw [hq2] at hv2
    have HQ2 := Lib.hid hq2
    have hvs := exec_in (i := insX 12 l) (a := ⟨a.h, a.ls, a.ss⟩) HA.out.vl HA.out.vs HL.out
    rw [HXS.out] at hvs
    have CL := Lib.hid (exec_at (i := insX 11 l) (w := W5) HPS.out.1 HPS.out.2 HOK5.out (insX_ok _ _ _ _) (by have := HPB.out.1; omega) (by have := HPB.out.2; omega) (by show 0 ≤ 100000; omega) (by show 0 ≤ 100000; omega) HL.out hvs.2)
    rw [hv1, hv2] at CL
    dsimp only [insX] at CL
    clear hX hv1 hv2 hq2 hvs
    subst he
    obtain ⟨d0, d1, d2, d3, d4, d5, d6, d7⟩ := eight_cells HX5.out
    go_upto_region 10 with (go_at_call 10; refine CL.out.mono ?_; rintro e w7 ⟨⟨⟨cl7, me7, pc7, lk7, ii7, dr7⟩, ls7, ss7, lA7, lc7, sA7, sc7⟩, rfl, ho7, e71, e72, e73, hbb7, _, _⟩; dsimp only at e71 e72 e73 ho7; injection e71.symm with i1 i2 i3 i4 i5 i6; have e72 := e72.symm; have e73 := e73.symm; subst i1 i2 i3 i4 i5 i6 e72 e73; clear e71; dsimp only [Ac.val]; rw [HN.out.1, HN.out.2])
    have x7 := World.alloc_heap_new w7 (.cells #[.int .i64 a.h.cl, .int .i64 a.h.me, .int .i64 q2, .slice lA7 n1 lc7, .slice sA7 n2 sc7, .int .i64 a.h.lk, .bool a.h.ii, .bool a.h.dr] 24)
    have hb7a := below_al (Below.refl w7.heap.size w7) (.cells #[.int .i64 a.h.cl, .int .i64 a.h.me, .int .i64 q2, .slice lA7 n1 lc7, .slice sA7 n2 sc7, .int .i64 a.h.lk, .bool a.h.ii, .bool a.h.dr] 24)
    have hz7 : w7.heap.size < (w7.alloc (.cells #[.int .i64 a.h.cl, .int .i64 a.h.me, .int .i64 q2, .slice lA7 n1 lc7, .slice sA7 n2 sc7, .int .i64 a.h.lk, .bool a.h.ii, .bool a.h.dr] 24)).heap.size := by simp
    generalize w7.alloc (.cells #[.int .i64 a.h.cl, .int .i64 a.h.me, .int .i64 q2, .slice lA7 n1 lc7, .slice sA7 n2 sc7, .int .i64 a.h.lk, .bool a.h.ii, .bool a.h.dr] 24) = W7 at x7 hb7a hz7 ⊢
    have K7 := Lib.hid (below_on hbb7 hb7a)
    have HV0 := Lib.hid ((K7.out.block _ u0).trans HU0.out)
    have HC7 := Lib.hid (below_on HC5.out K7.out)
    have HL7 := Lib.hid (And.intro (ho7.l.up hb7a) (ho7.s.up hb7a))
    have HA7 := Lib.hid (And.intro (HA.out.ok.l.up HC7.out) (HA.out.ok.s.up HC7.out))
    have HX7 := Lib.hid x7
    clear d0 d1 d2 d3 d4 d5 d6 d7 a0 a1 a2 a3 a4 a5 a6 a7 hb7a hbb7 ho7 x7 u0 t0 y0 hz5
    obtain ⟨a0, a1, a2, a3, a4, a5, a6, a7⟩ := eight_cells HV0.out
    obtain ⟨c0, c1, c2, c3, c4, c5, c6, c7⟩ := eight_cells HX7.out
    have u0 := lt_heapV HV0.out
    have hpc : (q2 == wrap64 (a.h.pc + 2)) = true := by
      have := HQ2.out
      simp only [beq_iff_eq]
      rw [← this]
      unfold wrap64
      omega
    go_wp2_with (first
      | (go_at_call 17; with_reducible refine (sv_yes HA7.out.1 HL7.out.1 HN.out.1 (by omega)).mono ?_; rintro e w8 ⟨rfl, q, rfl⟩)
      | (go_at_call 17; with_reducible refine (sv_yes (HA7.out.2.up (below_dr (Below.refl _ _) _)) (HL7.out.2.up (below_dr (Below.refl _ _) _)) HN.out.2 (by omega)).mono ?_; rintro e w9 ⟨rfl, q3, rfl⟩)
      | (go_at_call 9; refine (awake42_any _).mono ?_; rintro e w10 ⟨rfl, hb10⟩))
    go_ret
    exact ⟨rfl, below_on (below_dr HC7.out _) hb10⟩
  · have hne : (xe == 0) = false := by simpa using he
    go_wp2_with (go_at_call 9; refine (awake42_any _).mono ?_; rintro e w9 ⟨rfl, hb9⟩)
    go_ret
    exact ⟨rfl, below_on HC5.out hb9⟩
set_option maxRecDepth 100000 in
set_option maxHeartbeats 2000000 in
theorem inverses_2 (a : Ac) (k l : Int) (w : World) (ha : a.raw w) (hk0 : 0 ≤ k) (hk1 : k ≤ 255) (hl : Rg l) (hf : a.ls.length ≤ 40 ∧ a.ss.length ≤ 40) (hn : k.tmod 5 = 2) :
    Calls Try.prog 6 #[(Value.agg #[Value.int IntKind.i64 (Hd8.cl a.h), Value.int IntKind.i64 (Hd8.me a.h), Value.int IntKind.i64 (Hd8.pc a.h), ((.slice a.lA a.ls.length a.lc)), ((.slice a.sA a.ss.length a.sc)), Value.int IntKind.i64 (Hd8.lk a.h), Value.bool (Hd8.ii a.h), Value.bool (Hd8.dr a.h)]), .int .u8 k, .int .i64 l] w fun e w' => e = .returned (.bool true) ∧ Below w.heap.size w w' := by
  have HA := Lib.hid ha
  have HL := Lib.hid hl
  obtain ⟨n1, hn1⟩ : ∃ n, a.ls.length = n := ⟨_, rfl⟩
  obtain ⟨n2, hn2⟩ : ∃ n, a.ss.length = n := ⟨_, rfl⟩
  have HN := Lib.hid (And.intro hn1 hn2)
  rw [hn1, hn2] at hf
  rw [hn1, hn2]
  obtain ⟨f1, f2⟩ := hf
  clear ha hl hn1 hn2
  have hwk : IntKind.i64.wrap k = k := by rw [IntKind.wrap_i64]; omega
  have HEX := Lib.hid (fun (W : World) (h : Below w.heap.size w W) => exec_any a (insX 4 l) W ⟨HA.out.ok.l.up h, HA.out.ok.s.up h, HA.out.ok.ll, HA.out.ok.sl⟩ (insX_ok _ _ _ _) (by rw [HN.out.1]; omega) (by rw [HN.out.2]; omega) (by show 0 ≤ 100000; omega) (by show 0 ≤ 100000; omega) HL.out HA.out.vs)
  rw [HN.out.1, HN.out.2] at HEX
  dsimp only [insX] at HEX
  obtain ⟨xs, hxs⟩ : ∃ xs, execS (insX 4 l) ⟨a.h, a.ls, a.ss⟩ = xs := ⟨_, rfl⟩
  obtain ⟨xe, hxe⟩ : ∃ xe, execE (insX 4 l) ⟨a.h, a.ls, a.ss⟩ = xe := ⟨_, rfl⟩
  have HXS := Lib.hid hxs
  have HXE := Lib.hid hxe
  unfold insX at hxs hxe
  rw [hxs, hxe] at HEX
  clear hxs hxe
  obtain ⟨⟨xcl, xme, xpc, xlk, xii, xdr⟩, xls, xss⟩ := xs
  obtain ⟨p, hp⟩ : ∃ n, xls.length = n := ⟨_, rfl⟩
  obtain ⟨s, hs⟩ : ∃ n, xss.length = n := ⟨_, rfl⟩
  have HPS := Lib.hid (And.intro hp hs)
  have HPB := Lib.hid (show p ≤ 100 ∧ s ≤ 100 from by
    have hlen := exec_len (insX 4 l) ⟨a.h, a.ls, a.ss⟩
    rw [HXS.out] at hlen
    have h1 : xls.length = a.ls.length := hlen.1
    have h2 : xss.length ≤ a.ss.length + 3 := hlen.2
    rw [HN.out.1] at h1
    rw [HN.out.2] at h2
    omega)
  clear hp hs
  go_enter Try.func6, Try.ntmps6
  go_upto_region 1 with fail
  have R0 := World.alloc_heap_new w (.cells #[.int .i64 a.h.cl, .int .i64 a.h.me, .int .i64 a.h.pc, .slice a.lA n1 a.lc, .slice a.sA n2 a.sc, .int .i64 a.h.lk, .bool a.h.ii, .bool a.h.dr] 24)
  have hB := below_al (Below.refl w.heap.size w) (.cells #[.int .i64 a.h.cl, .int .i64 a.h.me, .int .i64 a.h.pc, .slice a.lA n1 a.lc, .slice a.sA n2 a.sc, .int .i64 a.h.lk, .bool a.h.ii, .bool a.h.dr] 24)
  generalize w.alloc (.cells #[.int .i64 a.h.cl, .int .i64 a.h.me, .int .i64 a.h.pc, .slice a.lA n1 a.lc, .slice a.sA n2 a.sc, .int .i64 a.h.lk, .bool a.h.ii, .bool a.h.dr] 24) = W1 at R0 hB ⊢
  have HR0 := Lib.hid R0
  have HB := Lib.hid hB
  obtain ⟨a0, a1, a2, a3, a4, a5, a6, a7⟩ := eight_cells R0
  have y0 := lt_heapV R0
  clear R0 hB
  go_upto_region 6 with fail
  have hB2 := below_al (below_al (Below.refl W1.heap.size W1) (.cells #[.int .i64 14, .int .i64 12, .int .i64 4, .int .i64 5, .int .i64 6] 3)) (.cells #[.int .i64 14, .int .i64 11, .int .i64 7, .int .i64 8, .int .i64 9] 3)
  generalize (W1.alloc (.cells #[.int .i64 14, .int .i64 12, .int .i64 4, .int .i64 5, .int .i64 6] 3)).alloc (.cells #[.int .i64 14, .int .i64 11, .int .i64 7, .int .i64 8, .int .i64 9] 3) = W2 at hB2 ⊢
  have HB2 := Lib.hid (below_on HB.out hB2)
  have HS0 := Lib.hid ((hB2.block _ y0).trans HR0.out)
  clear hB2 a0 a1 a2 a3 a4 a5 a6 a7
  obtain ⟨a0, a1, a2, a3, a4, a5, a6, a7⟩ := eight_cells HS0.out
  have t0 := lt_heapV HS0.out
  go_upto_region 7 with (go_at_call 10; refine (HEX.out _ HB2.out).mono ?_; rintro e w5 ⟨⟨⟨cl5, me5, pc5, lk5, ii5, dr5⟩, ls5, ss5, lA5, lc5, sA5, sc5⟩, rfl, ho5, e51, e52, e53, hbb5, _, _⟩; dsimp only at e51 e52 e53 ho5; injection e51.symm with i1 i2 i3 i4 i5 i6; have e52 := e52.symm; have e53 := e53.symm; subst i1 i2 i3 i4 i5 i6 e52 e53; clear e51; dsimp only [Ac.val]; rw [HPS.out.1, HPS.out.2])
  have x5 := World.alloc_heap_new w5 (.cells #[.int .i64 xcl, .int .i64 xme, .int .i64 xpc, .slice lA5 p lc5, .slice sA5 s sc5, .int .i64 xlk, .bool xii, .bool xdr] 24)
  have hb5a := below_al (Below.refl w5.heap.size w5) (.cells #[.int .i64 xcl, .int .i64 xme, .int .i64 xpc, .slice lA5 p lc5, .slice sA5 s sc5, .int .i64 xlk, .bool xii, .bool xdr] 24)
  have hz5 : w5.heap.size < (w5.alloc (.cells #[.int .i64 xcl, .int .i64 xme, .int .i64 xpc, .slice lA5 p lc5, .slice sA5 s sc5, .int .i64 xlk, .bool xii, .bool xdr] 24)).heap.size := by simp
  generalize w5.alloc (.cells #[.int .i64 xcl, .int .i64 xme, .int .i64 xpc, .slice lA5 p lc5, .slice sA5 s sc5, .int .i64 xlk, .bool xii, .bool xdr] 24) = W5 at x5 hb5a hz5 ⊢
  have K5 := Lib.hid (below_on hbb5 hb5a)
  have HU0 := Lib.hid ((K5.out.block _ t0).trans HS0.out)
  have HC5 := Lib.hid (below_on HB2.out K5.out)
  have HOK5 := Lib.hid (show Ac.ok W5 ⟨⟨xcl, xme, xpc, xlk, xii, xdr⟩, xls, xss, lA5, lc5, sA5, sc5⟩ from ⟨ho5.l.up hb5a, ho5.s.up hb5a, ho5.ll, ho5.sl⟩)
  have HX5 := Lib.hid x5
  clear a0 a1 a2 a3 a4 a5 a6 a7 hb5a hbb5 ho5 x5
  obtain ⟨a0, a1, a2, a3, a4, a5, a6, a7⟩ := eight_cells HU0.out
  have u0 := lt_heapV HU0.out
  by_cases he : xe = 0
  · have hX := HXE.out
    rw [he] at hX
    have hinv := inv_shape (i := insX 4 l) (j := insX 7 l) (h := a.h) (ls := a.ls) (ss := a.ss) (by show (4 : Int) < 36; decide) (by show (7 : Int) < 36; decide) (by rfl) hX (fun h => (by exact inv_load (o := 4) (k := 1) (Or.inl ⟨rfl, rfl⟩) h))
    rw [HXS.out] at hinv
    obtain ⟨hv1, hv2⟩ := hinv
    obtain ⟨q2, hq2⟩ : ∃ q, wrap64 (wrap64 (a.h.pc + 1) + 1) = q := ⟨_, rfl⟩
    rw [hq2] at hv2
    have HQ2 := Lib.hid hq2
    have hvs := exec_in (i := insX 4 l) (a := ⟨a.h, a.ls, a.ss⟩) HA.out.vl HA.out.vs HL.out
    rw [HXS.out] at hvs
    have CL := Lib.hid (exec_at (i := insX 7 l) (w := W5) HPS.out.1 HPS.out.2 HOK5.out (insX_ok _ _ _ _) (by have := HPB.out.1; omega) (by have := HPB.out.2; omega) (by show 0 ≤ 100000; omega) (by show 0 ≤ 100000; omega) HL.out hvs.2)
    rw [hv1, hv2] at CL
    dsimp only [insX] at CL
    clear hX hv1 hv2 hq2 hvs
    subst he
    obtain ⟨d0, d1, d2, d3, d4, d5, d6, d7⟩ := eight_cells HX5.out
    go_upto_region 10 with (go_at_call 10; refine CL.out.mono ?_; rintro e w7 ⟨⟨⟨cl7, me7, pc7, lk7, ii7, dr7⟩, ls7, ss7, lA7, lc7, sA7, sc7⟩, rfl, ho7, e71, e72, e73, hbb7, _, _⟩; dsimp only at e71 e72 e73 ho7; injection e71.symm with i1 i2 i3 i4 i5 i6; have e72 := e72.symm; have e73 := e73.symm; subst i1 i2 i3 i4 i5 i6 e72 e73; clear e71; dsimp only [Ac.val]; rw [HN.out.1, HN.out.2])
    have x7 := World.alloc_heap_new w7 (.cells #[.int .i64 a.h.cl, .int .i64 a.h.me, .int .i64 q2, .slice lA7 n1 lc7, .slice sA7 n2 sc7, .int .i64 a.h.lk, .bool a.h.ii, .bool a.h.dr] 24)
    have hb7a := below_al (Below.refl w7.heap.size w7) (.cells #[.int .i64 a.h.cl, .int .i64 a.h.me, .int .i64 q2, .slice lA7 n1 lc7, .slice sA7 n2 sc7, .int .i64 a.h.lk, .bool a.h.ii, .bool a.h.dr] 24)
    have hz7 : w7.heap.size < (w7.alloc (.cells #[.int .i64 a.h.cl, .int .i64 a.h.me, .int .i64 q2, .slice lA7 n1 lc7, .slice sA7 n2 sc7, .int .i64 a.h.lk, .bool a.h.ii, .bool a.h.dr] 24)).heap.size := by simp
    generalize w7.alloc (.cells #[.int .i64 a.h.cl, .int .i64 a.h.me, .int .i64 q2, .slice lA7 n1 lc7, .slice sA7 n2 sc7, .int .i64 a.h.lk, .bool a.h.ii, .bool a.h.dr] 24) = W7 at x7 hb7a hz7 ⊢
    have K7 := Lib.hid (below_on hbb7 hb7a)
    have HV0 := Lib.hid ((K7.out.block _ u0).trans HU0.out)
    have HC7 := Lib.hid (below_on HC5.out K7.out)
    have HL7 := Lib.hid (And.intro (ho7.l.up hb7a) (ho7.s.up hb7a))
    have HA7 := Lib.hid (And.intro (HA.out.ok.l.up HC7.out) (HA.out.ok.s.up HC7.out))
    have HX7 := Lib.hid x7
    clear d0 d1 d2 d3 d4 d5 d6 d7 a0 a1 a2 a3 a4 a5 a6 a7 hb7a hbb7 ho7 x7 u0 t0 y0 hz5
    obtain ⟨a0, a1, a2, a3, a4, a5, a6, a7⟩ := eight_cells HV0.out
    obtain ⟨c0, c1, c2, c3, c4, c5, c6, c7⟩ := eight_cells HX7.out
    have u0 := lt_heapV HV0.out
    have hpc : (q2 == wrap64 (a.h.pc + 2)) = true := by
      have := HQ2.out
      simp only [beq_iff_eq]
      rw [← this]
      unfold wrap64
      omega
    go_wp2_with (first
      | (go_at_call 17; with_reducible refine (sv_yes HA7.out.1 HL7.out.1 HN.out.1 (by omega)).mono ?_; rintro e w8 ⟨rfl, q, rfl⟩)
      | (go_at_call 17; with_reducible refine (sv_yes (HA7.out.2.up (below_dr (Below.refl _ _) _)) (HL7.out.2.up (below_dr (Below.refl _ _) _)) HN.out.2 (by omega)).mono ?_; rintro e w9 ⟨rfl, q3, rfl⟩)
      | (go_at_call 9; refine (awake42_any _).mono ?_; rintro e w10 ⟨rfl, hb10⟩))
    go_ret
    exact ⟨rfl, below_on (below_dr HC7.out _) hb10⟩
  · have hne : (xe == 0) = false := by simpa using he
    go_wp2_with (go_at_call 9; refine (awake42_any _).mono ?_; rintro e w9 ⟨rfl, hb9⟩)
    go_ret
    exact ⟨rfl, below_on HC5.out hb9⟩
set_option maxRecDepth 100000 in
set_option maxHeartbeats 2000000 in
theorem inverses_3 (a : Ac) (k l : Int) (w : World) (ha : a.raw w) (hk0 : 0 ≤ k) (hk1 : k ≤ 255) (hl : Rg l) (hf : a.ls.length ≤ 40 ∧ a.ss.length ≤ 40) (hn : k.tmod 5 = 3) :
    Calls Try.prog 6 #[(Value.agg #[Value.int IntKind.i64 (Hd8.cl a.h), Value.int IntKind.i64 (Hd8.me a.h), Value.int IntKind.i64 (Hd8.pc a.h), ((.slice a.lA a.ls.length a.lc)), ((.slice a.sA a.ss.length a.sc)), Value.int IntKind.i64 (Hd8.lk a.h), Value.bool (Hd8.ii a.h), Value.bool (Hd8.dr a.h)]), .int .u8 k, .int .i64 l] w fun e w' => e = .returned (.bool true) ∧ Below w.heap.size w w' := by
  have HA := Lib.hid ha
  have HL := Lib.hid hl
  obtain ⟨n1, hn1⟩ : ∃ n, a.ls.length = n := ⟨_, rfl⟩
  obtain ⟨n2, hn2⟩ : ∃ n, a.ss.length = n := ⟨_, rfl⟩
  have HN := Lib.hid (And.intro hn1 hn2)
  rw [hn1, hn2] at hf
  rw [hn1, hn2]
  obtain ⟨f1, f2⟩ := hf
  clear ha hl hn1 hn2
  have hwk : IntKind.i64.wrap k = k := by rw [IntKind.wrap_i64]; omega
  have HEX := Lib.hid (fun (W : World) (h : Below w.heap.size w W) => exec_any a (insX 5 l) W ⟨HA.out.ok.l.up h, HA.out.ok.s.up h, HA.out.ok.ll, HA.out.ok.sl⟩ (insX_ok _ _ _ _) (by rw [HN.out.1]; omega) (by rw [HN.out.2]; omega) (by show 0 ≤ 100000; omega) (by show 0 ≤ 100000; omega) HL.out HA.out.vs)
  rw [HN.out.1, HN.out.2] at HEX
  dsimp only [insX] at HEX
  obtain ⟨xs, hxs⟩ : ∃ xs, execS (insX 5 l) ⟨a.h, a.ls, a.ss⟩ = xs := ⟨_, rfl⟩
  obtain ⟨xe, hxe⟩ : ∃ xe, execE (insX 5 l) ⟨a.h, a.ls, a.ss⟩ = xe := ⟨_, rfl⟩
  have HXS := Lib.hid hxs
  have HXE := Lib.hid hxe
  unfold insX at hxs hxe
  rw [hxs, hxe] at HEX
  clear hxs hxe
  obtain ⟨⟨xcl, xme, xpc, xlk, xii, xdr⟩, xls, xss⟩ := xs
  obtain ⟨p, hp⟩ : ∃ n, xls.length = n := ⟨_, rfl⟩
  obtain ⟨s, hs⟩ : ∃ n, xss.length = n := ⟨_, rfl⟩
  have HPS := Lib.hid (And.intro hp hs)
  have HPB := Lib.hid (show p ≤ 100 ∧ s ≤ 100 from by
    have hlen := exec_len (insX 5 l) ⟨a.h, a.ls, a.ss⟩
    rw [HXS.out] at hlen
    have h1 : xls.length = a.ls.length := hlen.1
    have h2 : xss.length ≤ a.ss.length + 3 := hlen.2
    rw [HN.out.1] at h1
    rw [HN.out.2] at h2
    omega)
  clear hp hs
  go_enter Try.func6, Try.ntmps6
  go_upto_region 1 with fail
  have R0 := World.alloc_heap_new w (.cells #[.int .i64 a.h.cl, .int .i64 a.h.me, .int .i64 a.h.pc, .slice a.lA n1 a.lc, .slice a.sA n2 a.sc, .int .i64 a.h.lk, .bool a.h.ii, .bool a.h.dr] 24)
  have hB := below_al (Below.refl w.heap.size w) (.cells #[.int .i64 a.h.cl, .int .i64 a.h.me, .int .i64 a.h.pc, .slice a.lA n1 a.lc, .slice a.sA n2 a.sc, .int .i64 a.h.lk, .bool a.h.ii, .bool a.h.dr] 24)
  generalize w.alloc (.cells #[.int .i64 a.h.cl, .int .i64 a.h.me, .int .i64 a.h.pc, .slice a.lA n1 a.lc, .slice a.sA n2 a.sc, .int .i64 a.h.lk, .bool a.h.ii, .bool a.h.dr] 24) = W1 at R0 hB ⊢
  have HR0 := Lib.hid R0
  have HB := Lib.hid hB
  obtain ⟨a0, a1, a2, a3, a4, a5, a6, a7⟩ := eight_cells R0
  have y0 := lt_heapV R0
  clear R0 hB
  go_upto_region 6 with fail
  have hB2 := below_al (below_al (Below.refl W1.heap.size W1) (.cells #[.int .i64 14, .int .i64 12, .int .i64 4, .int .i64 5, .int .i64 6] 3)) (.cells #[.int .i64 14, .int .i64 11, .int .i64 7, .int .i64 8, .int .i64 9] 3)
  generalize (W1.alloc (.cells #[.int .i64 14, .int .i64 12, .int .i64 4, .int .i64 5, .int .i64 6] 3)).alloc (.cells #[.int .i64 14, .int .i64 11, .int .i64 7, .int .i64 8, .int .i64 9] 3) = W2 at hB2 ⊢
  have HB2 := Lib.hid (below_on HB.out hB2)
  have HS0 := Lib.hid ((hB2.block _ y0).trans HR0.out)
  clear hB2 a0 a1 a2 a3 a4 a5 a6 a7
  obtain ⟨a0, a1, a2, a3, a4, a5, a6, a7⟩ := eight_cells HS0.out
  have t0 := lt_heapV HS0.out
  go_upto_region 7 with (go_at_call 10; refine (HEX.out _ HB2.out).mono ?_; rintro e w5 ⟨⟨⟨cl5, me5, pc5, lk5, ii5, dr5⟩, ls5, ss5, lA5, lc5, sA5, sc5⟩, rfl, ho5, e51, e52, e53, hbb5, _, _⟩; dsimp only at e51 e52 e53 ho5; injection e51.symm with i1 i2 i3 i4 i5 i6; have e52 := e52.symm; have e53 := e53.symm; subst i1 i2 i3 i4 i5 i6 e52 e53; clear e51; dsimp only [Ac.val]; rw [HPS.out.1, HPS.out.2])
  have x5 := World.alloc_heap_new w5 (.cells #[.int .i64 xcl, .int .i64 xme, .int .i64 xpc, .slice lA5 p lc5, .slice sA5 s sc5, .int .i64 xlk, .bool xii, .bool xdr] 24)
  have hb5a := below_al (Below.refl w5.heap.size w5) (.cells #[.int .i64 xcl, .int .i64 xme, .int .i64 xpc, .slice lA5 p lc5, .slice sA5 s sc5, .int .i64 xlk, .bool xii, .bool xdr] 24)
  have hz5 : w5.heap.size < (w5.alloc (.cells #[.int .i64 xcl, .int .i64 xme, .int .i64 xpc, .slice lA5 p lc5, .slice sA5 s sc5, .int .i64 xlk, .bool xii, .bool xdr] 24)).heap.size := by simp
  generalize w5.alloc (.cells #[.int .i64 xcl, .int .i64 xme, .int .i64 xpc, .slice lA5 p lc5, .slice sA5 s sc5, .int .i64 xlk, .bool xii, .bool xdr] 24) = W5 at x5 hb5a hz5 ⊢
  have K5 := Lib.hid (below_on hbb5 hb5a)
  have HU0 := Lib.hid ((K5.out.block _ t0).trans HS0.out)
  have HC5 := Lib.hid (below_on HB2.out K5.out)
  have HOK5 := Lib.hid (show Ac.ok W5 ⟨⟨xcl, xme, xpc, xlk, xii, xdr⟩, xls, xss, lA5, lc5, sA5, sc5⟩ from ⟨ho5.l.up hb5a, ho5.s.up hb5a, ho5.ll, ho5.sl⟩)
  have HX5 := Lib.hid x5
  clear a0 a1 a2 a3 a4 a5 a6 a7 hb5a hbb5 ho5 x5
  obtain ⟨a0, a1, a2, a3, a4, a5, a6, a7⟩ := eight_cells HU0.out
  have u0 := lt_heapV HU0.out
  by_cases he : xe = 0
  · have hX := HXE.out
    rw [he] at hX
    have hinv := inv_shape (i := insX 5 l) (j := insX 8 l) (h := a.h) (ls := a.ls) (ss := a.ss) (by show (5 : Int) < 36; decide) (by show (8 : Int) < 36; decide) (by rfl) hX (fun h => (by exact inv_load (o := 5) (k := 2) (Or.inr (Or.inl ⟨rfl, rfl⟩)) h))
    rw [HXS.out] at hinv
    obtain ⟨hv1, hv2⟩ := hinv
    obtain ⟨q2, hq2⟩ : ∃ q, wrap64 (wrap64 (a.h.pc + 1) + 1) = q := ⟨_, rfl⟩
    rw [hq2] at hv2
    have HQ2 := Lib.hid hq2
    have hvs := exec_in (i := insX 5 l) (a := ⟨a.h, a.ls, a.ss⟩) HA.out.vl HA.out.vs HL.out
    rw [HXS.out] at hvs
    have CL := Lib.hid (exec_at (i := insX 8 l) (w := W5) HPS.out.1 HPS.out.2 HOK5.out (insX_ok _ _ _ _) (by have := HPB.out.1; omega) (by have := HPB.out.2; omega) (by show 0 ≤ 100000; omega) (by show 0 ≤ 100000; omega) HL.out hvs.2)
    rw [hv1, hv2] at CL
    dsimp only [insX] at CL
    clear hX hv1 hv2 hq2 hvs
    subst he
    obtain ⟨d0, d1, d2, d3, d4, d5, d6, d7⟩ := eight_cells HX5.out
    go_upto_region 10 with (go_at_call 10; refine CL.out.mono ?_; rintro e w7 ⟨⟨⟨cl7, me7, pc7, lk7, ii7, dr7⟩, ls7, ss7, lA7, lc7, sA7, sc7⟩, rfl, ho7, e71, e72, e73, hbb7, _, _⟩; dsimp only at e71 e72 e73 ho7; injection e71.symm with i1 i2 i3 i4 i5 i6; have e72 := e72.symm; have e73 := e73.symm; subst i1 i2 i3 i4 i5 i6 e72 e73; clear e71; dsimp only [Ac.val]; rw [HN.out.1, HN.out.2])
    have x7 := World.alloc_heap_new w7 (.cells #[.int .i64 a.h.cl, .int .i64 a.h.me, .int .i64 q2, .slice lA7 n1 lc7, .slice sA7 n2 sc7, .int .i64 a.h.lk, .bool a.h.ii, .bool a.h.dr] 24)
    have hb7a := below_al (Below.refl w7.heap.size w7) (.cells #[.int .i64 a.h.cl, .int .i64 a.h.me, .int .i64 q2, .slice lA7 n1 lc7, .slice sA7 n2 sc7, .int .i64 a.h.lk, .bool a.h.ii, .bool a.h.dr] 24)
    have hz7 : w7.heap.size < (w7.alloc (.cells #[.int .i64 a.h.cl, .int .i64 a.h.me, .int .i64 q2, .slice lA7 n1 lc7, .slice sA7 n2 sc7, .int .i64 a.h.lk, .bool a.h.ii, .bool a.h.dr] 24)).heap.size := by simp
    generalize w7.alloc (.cells #[.int .i64 a.h.cl, .int .i64 a.h.me, .int .i64 q2, .slice lA7 n1 lc7, .slice sA7 n2 sc7, .int .i64 a.h.lk, .bool a.h.ii, .bool a.h.dr] 24) = W7 at x7 hb7a hz7 ⊢
    have K7 := Lib.hid (below_on hbb7 hb7a)
    have HV0 := Lib.hid ((K7.out.block _ u0).trans HU0.out)
    have HC7 := Lib.hid (below_on HC5.out K7.out)
    have HL7 := Lib.hid (And.intro (ho7.l.up hb7a) (ho7.s.up hb7a))
    have HA7 := Lib.hid (And.intro (HA.out.ok.l.up HC7.out) (HA.out.ok.s.up HC7.out))
    have HX7 := Lib.hid x7
    clear d0 d1 d2 d3 d4 d5 d6 d7 a0 a1 a2 a3 a4 a5 a6 a7 hb7a hbb7 ho7 x7 u0 t0 y0 hz5
    obtain ⟨a0, a1, a2, a3, a4, a5, a6, a7⟩ := eight_cells HV0.out
    obtain ⟨c0, c1, c2, c3, c4, c5, c6, c7⟩ := eight_cells HX7.out
    have u0 := lt_heapV HV0.out
    have hpc : (q2 == wrap64 (a.h.pc + 2)) = true := by
      have := HQ2.out
      simp only [beq_iff_eq]
      rw [← this]
      unfold wrap64
      omega
    go_wp2_with (first
      | (go_at_call 17; with_reducible refine (sv_yes HA7.out.1 HL7.out.1 HN.out.1 (by omega)).mono ?_; rintro e w8 ⟨rfl, q, rfl⟩)
      | (go_at_call 17; with_reducible refine (sv_yes (HA7.out.2.up (below_dr (Below.refl _ _) _)) (HL7.out.2.up (below_dr (Below.refl _ _) _)) HN.out.2 (by omega)).mono ?_; rintro e w9 ⟨rfl, q3, rfl⟩)
      | (go_at_call 9; refine (awake42_any _).mono ?_; rintro e w10 ⟨rfl, hb10⟩))
    go_ret
    exact ⟨rfl, below_on (below_dr HC7.out _) hb10⟩
  · have hne : (xe == 0) = false := by simpa using he
    go_wp2_with (go_at_call 9; refine (awake42_any _).mono ?_; rintro e w9 ⟨rfl, hb9⟩)
    go_ret
    exact ⟨rfl, below_on HC5.out hb9⟩
set_option maxRecDepth 100000 in
set_option maxHeartbeats 2000000 in
theorem inverses_4 (a : Ac) (k l : Int) (w : World) (ha : a.raw w) (hk0 : 0 ≤ k) (hk1 : k ≤ 255) (hl : Rg l) (hf : a.ls.length ≤ 40 ∧ a.ss.length ≤ 40) (hn : k.tmod 5 = 4) :
    Calls Try.prog 6 #[(Value.agg #[Value.int IntKind.i64 (Hd8.cl a.h), Value.int IntKind.i64 (Hd8.me a.h), Value.int IntKind.i64 (Hd8.pc a.h), ((.slice a.lA a.ls.length a.lc)), ((.slice a.sA a.ss.length a.sc)), Value.int IntKind.i64 (Hd8.lk a.h), Value.bool (Hd8.ii a.h), Value.bool (Hd8.dr a.h)]), .int .u8 k, .int .i64 l] w fun e w' => e = .returned (.bool true) ∧ Below w.heap.size w w' := by
  have HA := Lib.hid ha
  have HL := Lib.hid hl
  obtain ⟨n1, hn1⟩ : ∃ n, a.ls.length = n := ⟨_, rfl⟩
  obtain ⟨n2, hn2⟩ : ∃ n, a.ss.length = n := ⟨_, rfl⟩
  have HN := Lib.hid (And.intro hn1 hn2)
  rw [hn1, hn2] at hf
  rw [hn1, hn2]
  obtain ⟨f1, f2⟩ := hf
  clear ha hl hn1 hn2
  have hwk : IntKind.i64.wrap k = k := by rw [IntKind.wrap_i64]; omega
  have HEX := Lib.hid (fun (W : World) (h : Below w.heap.size w W) => exec_any a (insX 6 l) W ⟨HA.out.ok.l.up h, HA.out.ok.s.up h, HA.out.ok.ll, HA.out.ok.sl⟩ (insX_ok _ _ _ _) (by rw [HN.out.1]; omega) (by rw [HN.out.2]; omega) (by show 0 ≤ 100000; omega) (by show 0 ≤ 100000; omega) HL.out HA.out.vs)
  rw [HN.out.1, HN.out.2] at HEX
  dsimp only [insX] at HEX
  obtain ⟨xs, hxs⟩ : ∃ xs, execS (insX 6 l) ⟨a.h, a.ls, a.ss⟩ = xs := ⟨_, rfl⟩
  obtain ⟨xe, hxe⟩ : ∃ xe, execE (insX 6 l) ⟨a.h, a.ls, a.ss⟩ = xe := ⟨_, rfl⟩
  have HXS := Lib.hid hxs
  have HXE := Lib.hid hxe
  unfold insX at hxs hxe
  rw [hxs, hxe] at HEX
  clear hxs hxe
  obtain ⟨⟨xcl, xme, xpc, xlk, xii, xdr⟩, xls, xss⟩ := xs
  obtain ⟨p, hp⟩ : ∃ n, xls.length = n := ⟨_, rfl⟩
  obtain ⟨s, hs⟩ : ∃ n, xss.length = n := ⟨_, rfl⟩
  have HPS := Lib.hid (And.intro hp hs)
  have HPB := Lib.hid (show p ≤ 100 ∧ s ≤ 100 from by
    have hlen := exec_len (insX 6 l) ⟨a.h, a.ls, a.ss⟩
    rw [HXS.out] at hlen
    have h1 : xls.length = a.ls.length := hlen.1
    have h2 : xss.length ≤ a.ss.length + 3 := hlen.2
    rw [HN.out.1] at h1
    rw [HN.out.2] at h2
    omega)
  clear hp hs
  go_enter Try.func6, Try.ntmps6
  go_upto_region 1 with fail
  have R0 := World.alloc_heap_new w (.cells #[.int .i64 a.h.cl, .int .i64 a.h.me, .int .i64 a.h.pc, .slice a.lA n1 a.lc, .slice a.sA n2 a.sc, .int .i64 a.h.lk, .bool a.h.ii, .bool a.h.dr] 24)
  have hB := below_al (Below.refl w.heap.size w) (.cells #[.int .i64 a.h.cl, .int .i64 a.h.me, .int .i64 a.h.pc, .slice a.lA n1 a.lc, .slice a.sA n2 a.sc, .int .i64 a.h.lk, .bool a.h.ii, .bool a.h.dr] 24)
  generalize w.alloc (.cells #[.int .i64 a.h.cl, .int .i64 a.h.me, .int .i64 a.h.pc, .slice a.lA n1 a.lc, .slice a.sA n2 a.sc, .int .i64 a.h.lk, .bool a.h.ii, .bool a.h.dr] 24) = W1 at R0 hB ⊢
  have HR0 := Lib.hid R0
  have HB := Lib.hid hB
  obtain ⟨a0, a1, a2, a3, a4, a5, a6, a7⟩ := eight_cells R0
  have y0 := lt_heapV R0
  clear R0 hB
  go_upto_region 6 with fail
  have hB2 := below_al (below_al (Below.refl W1.heap.size W1) (.cells #[.int .i64 14, .int .i64 12, .int .i64 4, .int .i64 5, .int .i64 6] 3)) (.cells #[.int .i64 14, .int .i64 11, .int .i64 7, .int .i64 8, .int .i64 9] 3)
  generalize (W1.alloc (.cells #[.int .i64 14, .int .i64 12, .int .i64 4, .int .i64 5, .int .i64 6] 3)).alloc (.cells #[.int .i64 14, .int .i64 11, .int .i64 7, .int .i64 8, .int .i64 9] 3) = W2 at hB2 ⊢
  have HB2 := Lib.hid (below_on HB.out hB2)
  have HS0 := Lib.hid ((hB2.block _ y0).trans HR0.out)
  clear hB2 a0 a1 a2 a3 a4 a5 a6 a7
  obtain ⟨a0, a1, a2, a3, a4, a5, a6, a7⟩ := eight_cells HS0.out
  have t0 := lt_heapV HS0.out
  go_upto_region 7 with (go_at_call 10; refine (HEX.out _ HB2.out).mono ?_; rintro e w5 ⟨⟨⟨cl5, me5, pc5, lk5, ii5, dr5⟩, ls5, ss5, lA5, lc5, sA5, sc5⟩, rfl, ho5, e51, e52, e53, hbb5, _, _⟩; dsimp only at e51 e52 e53 ho5; injection e51.symm with i1 i2 i3 i4 i5 i6; have e52 := e52.symm; have e53 := e53.symm; subst i1 i2 i3 i4 i5 i6 e52 e53; clear e51; dsimp only [Ac.val]; rw [HPS.out.1, HPS.out.2])
  have x5 := World.alloc_heap_new w5 (.cells #[.int .i64 xcl, .int .i64 xme, .int .i64 xpc, .slice lA5 p lc5, .slice sA5 s sc5, .int .i64 xlk, .bool xii, .bool xdr] 24)
  have hb5a := below_al (Below.refl w5.heap.size w5) (.cells #[.int .i64 xcl, .int .i64 xme, .int .i64 xpc, .slice lA5 p lc5, .slice sA5 s sc5, .int .i64 xlk, .bool xii, .bool xdr] 24)
  have hz5 : w5.heap.size < (w5.alloc (.cells #[.int .i64 xcl, .int .i64 xme, .int .i64 xpc, .slice lA5 p lc5, .slice sA5 s sc5, .int .i64 xlk, .bool xii, .bool xdr] 24)).heap.size := by simp
  generalize w5.alloc (.cells #[.int .i64 xcl, .int .i64 xme, .int .i64 xpc, .slice lA5 p lc5, .slice sA5 s sc5, .int .i64 xlk, .bool xii, .bool xdr] 24) = W5 at x5 hb5a hz5 ⊢
  have K5 := Lib.hid (below_on hbb5 hb5a)
  have HU0 := Lib.hid ((K5.out.block _ t0).trans HS0.out)
  have HC5 := Lib.hid (below_on HB2.out K5.out)
  have HOK5 := Lib.hid (show Ac.ok W5 ⟨⟨xcl, xme, xpc, xlk, xii, xdr⟩, xls, xss, lA5, lc5, sA5, sc5⟩ from ⟨ho5.l.up hb5a, ho5.s.up hb5a, ho5.ll, ho5.sl⟩)
  have HX5 := Lib.hid x5
  clear a0 a1 a2 a3 a4 a5 a6 a7 hb5a hbb5 ho5 x5
  obtain ⟨a0, a1, a2, a3, a4, a5, a6, a7⟩ := eight_cells HU0.out
  have u0 := lt_heapV HU0.out
  by_cases he : xe = 0
  · have hX := HXE.out
    rw [he] at hX
    have hinv := inv_shape (i := insX 6 l) (j := insX 9 l) (h := a.h) (ls := a.ls) (ss := a.ss) (by show (6 : Int) < 36; decide) (by show (9 : Int) < 36; decide) (by rfl) hX (fun h => (by exact inv_load (o := 6) (k := 3) (Or.inr (Or.inr ⟨rfl, rfl⟩)) h))
    rw [HXS.out] at hinv
    obtain ⟨hv1, hv2⟩ := hinv
    obtain ⟨q2, hq2⟩ : ∃ q, wrap64 (wrap64 (a.h.pc + 1) + 1) = q := ⟨_, rfl⟩
    rw [hq2] at hv2
    have HQ2 := Lib.hid hq2
    have hvs := exec_in (i := insX 6 l) (a := ⟨a.h, a.ls, a.ss⟩) HA.out.vl HA.out.vs HL.out
    rw [HXS.out] at hvs
    have CL := Lib.hid (exec_at (i := insX 9 l) (w := W5) HPS.out.1 HPS.out.2 HOK5.out (insX_ok _ _ _ _) (by have := HPB.out.1; omega) (by have := HPB.out.2; omega) (by show 0 ≤ 100000; omega) (by show 0 ≤ 100000; omega) HL.out hvs.2)
    rw [hv1, hv2] at CL
    dsimp only [insX] at CL
    clear hX hv1 hv2 hq2 hvs
    subst he
    obtain ⟨d0, d1, d2, d3, d4, d5, d6, d7⟩ := eight_cells HX5.out
    go_upto_region 10 with (go_at_call 10; refine CL.out.mono ?_; rintro e w7 ⟨⟨⟨cl7, me7, pc7, lk7, ii7, dr7⟩, ls7, ss7, lA7, lc7, sA7, sc7⟩, rfl, ho7, e71, e72, e73, hbb7, _, _⟩; dsimp only at e71 e72 e73 ho7; injection e71.symm with i1 i2 i3 i4 i5 i6; have e72 := e72.symm; have e73 := e73.symm; subst i1 i2 i3 i4 i5 i6 e72 e73; clear e71; dsimp only [Ac.val]; rw [HN.out.1, HN.out.2])
    have x7 := World.alloc_heap_new w7 (.cells #[.int .i64 a.h.cl, .int .i64 a.h.me, .int .i64 q2, .slice lA7 n1 lc7, .slice sA7 n2 sc7, .int .i64 a.h.lk, .bool a.h.ii, .bool a.h.dr] 24)
    have hb7a := below_al (Below.refl w7.heap.size w7) (.cells #[.int .i64 a.h.cl, .int .i64 a.h.me, .int .i64 q2, .slice lA7 n1 lc7, .slice sA7 n2 sc7, .int .i64 a.h.lk, .bool a.h.ii, .bool a.h.dr] 24)
    have hz7 : w7.heap.size < (w7.alloc (.cells #[.int .i64 a.h.cl, .int .i64 a.h.me, .int .i64 q2, .slice lA7 n1 lc7, .slice sA7 n2 sc7, .int .i64 a.h.lk, .bool a.h.ii, .bool a.h.dr] 24)).heap.size := by simp
    generalize w7.alloc (.cells #[.int .i64 a.h.cl, .int .i64 a.h.me, .int .i64 q2, .slice lA7 n1 lc7, .slice sA7 n2 sc7, .int .i64 a.h.lk, .bool a.h.ii, .bool a.h.dr] 24) = W7 at x7 hb7a hz7 ⊢
    have K7 := Lib.hid (below_on hbb7 hb7a)
    have HV0 := Lib.hid ((K7.out.block _ u0).trans HU0.out)
    have HC7 := Lib.hid (below_on HC5.out K7.out)
    have HL7 := Lib.hid (And.intro (ho7.l.up hb7a) (ho7.s.up hb7a))
    have HA7 := Lib.hid (And.intro (HA.out.ok.l.up HC7.out) (HA.out.ok.s.up HC7.out))
    have HX7 := Lib.hid x7
    clear d0 d1 d2 d3 d4 d5 d6 d7 a0 a1 a2 a3 a4 a5 a6 a7 hb7a hbb7 ho7 x7 u0 t0 y0 hz5
    obtain ⟨a0, a1, a2, a3, a4, a5, a6, a7⟩ := eight_cells HV0.out
    obtain ⟨c0, c1, c2, c3, c4, c5, c6, c7⟩ := eight_cells HX7.out
    have u0 := lt_heapV HV0.out
    have hpc : (q2 == wrap64 (a.h.pc + 2)) = true := by
      have := HQ2.out
      simp only [beq_iff_eq]
      rw [← this]
      unfold wrap64
      omega
    go_wp2_with (first
      | (go_at_call 17; with_reducible refine (sv_yes HA7.out.1 HL7.out.1 HN.out.1 (by omega)).mono ?_; rintro e w8 ⟨rfl, q, rfl⟩)
      | (go_at_call 17; with_reducible refine (sv_yes (HA7.out.2.up (below_dr (Below.refl _ _) _)) (HL7.out.2.up (below_dr (Below.refl _ _) _)) HN.out.2 (by omega)).mono ?_; rintro e w9 ⟨rfl, q3, rfl⟩)
      | (go_at_call 9; refine (awake42_any _).mono ?_; rintro e w10 ⟨rfl, hb10⟩))
    go_ret
    exact ⟨rfl, below_on (below_dr HC7.out _) hb10⟩
  · have hne : (xe == 0) = false := by simpa using he
    go_wp2_with (go_at_call 9; refine (awake42_any _).mono ?_; rintro e w9 ⟨rfl, hb9⟩)
    go_ret
    exact ⟨rfl, below_on HC5.out hb9⟩
set_option maxRecDepth 100000 in
set_option maxHeartbeats 2000000 in
theorem inverses_law (a : Ac) (k l : Int) (w : World) (ha : a.raw w) (hk0 : 0 ≤ k) (hk1 : k ≤ 255) (hl : Rg l) :
    Calls Try.prog 6 #[(Value.agg #[Value.int IntKind.i64 (Hd8.cl a.h), Value.int IntKind.i64 (Hd8.me a.h), Value.int IntKind.i64 (Hd8.pc a.h), ((.slice a.lA a.ls.length a.lc)), ((.slice a.sA a.ss.length a.sc)), Value.int IntKind.i64 (Hd8.lk a.h), Value.bool (Hd8.ii a.h), Value.bool (Hd8.dr a.h)]), .int .u8 k, .int .i64 l] w fun e w' => e = .returned (.bool true) ∧ Below w.heap.size w w' := by
  by_cases hf : a.ls.length ≤ 40 ∧ a.ss.length ≤ 40
  · rcases mod5 k hk0 with h | h | h | h | h
    · exact inverses_0 a k l w ha hk0 hk1 hl hf h
    · exact inverses_1 a k l w ha hk0 hk1 hl hf h
    · exact inverses_2 a k l w ha hk0 hk1 hl hf h
    · exact inverses_3 a k l w ha hk0 hk1 hl hf h
    · exact inverses_4 a k l w ha hk0 hk1 hl hf h
  · obtain ⟨n1, hn1⟩ : ∃ n, a.ls.length = n := ⟨_, rfl⟩
    obtain ⟨n2, hn2⟩ : ∃ n, a.ss.length = n := ⟨_, rfl⟩
    rw [hn1, hn2] at hf
    rw [hn1, hn2]
    clear hn1 hn2 ha hl
    have hor : 40 < n1 ∨ (n1 ≤ 40 ∧ 40 < n2) := by omega
    clear hf
    go_enter Try.func6, Try.ntmps6
    go_upto_region 1 with fail
    have R0 := World.alloc_heap_new w (.cells #[.int .i64 a.h.cl, .int .i64 a.h.me, .int .i64 a.h.pc, .slice a.lA n1 a.lc, .slice a.sA n2 a.sc, .int .i64 a.h.lk, .bool a.h.ii, .bool a.h.dr] 24)
    have hB := below_al (Below.refl w.heap.size w) (.cells #[.int .i64 a.h.cl, .int .i64 a.h.me, .int .i64 a.h.pc, .slice a.lA n1 a.lc, .slice a.sA n2 a.sc, .int .i64 a.h.lk, .bool a.h.ii, .bool a.h.dr] 24)
    generalize w.alloc (.cells #[.int .i64 a.h.cl, .int .i64 a.h.me, .int .i64 a.h.pc, .slice a.lA n1 a.lc, .slice a.sA n2 a.sc, .int .i64 a.h.lk, .bool a.h.ii, .bool a.h.dr] 24) = W1 at R0 hB ⊢
    have HB := Lib.hid hB
    obtain ⟨a0, a1, a2, a3, a4, a5, a6, a7⟩ := eight_cells R0
    have y0 := lt_heapV R0
    clear R0 hB
    rcases hor with h1 | ⟨h1, h2⟩
    all_goals
      go_wp2_with (go_at_call 9; refine (awake42_any _).mono ?_; rintro e w9 ⟨rfl, hb9⟩)
      go_ret
      exact ⟨rfl, below_on HB.out hb9⟩
end Go.Proofs.Ytgiglbjkijlchaa
