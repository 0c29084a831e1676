/- Layer 42: BasicopsComposition (written by gen/bocompo.py). -/
import Derived.Test.YtgiglbjkijlchaaLb
import Derived.Test.YtgiglbjkijlchaaSa
import Derived.Test.YtgiglbjkijlchaaLo
import Derived.Test.YtgiglbjkijlchaaLi
namespace Go.Proofs.Ytgiglbjkijlchaa
open Go.ChangeShapes Go.WideShapes Go.ChangeAt Go.RowKit Go.PlainAid
set_option linter.unusedSimpArgs false
set_option linter.unusedVariables false

theorem u8_wfC {n : Int} (h : (Lit.int .u8 n).wf = true) : 0 ≤ n ∧ n ≤ 255 := by
  simp only [Lit.wf, Bool.and_eq_true, decide_eq_true_eq] at h
  have h1 := h.1
  have h2 := h.2
  rw [show IntKind.u8.min = 0 from by rfl] at h1
  rw [show IntKind.u8.max = 255 from by rfl] at h2
  exact ⟨h1, h2⟩
theorem mod60 (k : Int) (h0 : 0 ≤ k) : ∃ m : Nat, k.tmod 60 = (m : Int) ∧ m ≤ 59 := by
  rw [Int.tmod_eq_emod_of_nonneg h0]
  exact ⟨(k % 60).toNat, by omega, by omega⟩
set_option maxRecDepth 100000 in
set_option maxHeartbeats 4000000 in
theorem composition_law (a : Ac) (A : Option Addr) (ln lc : Nat) (l : List In) (x0 x1 : Int) (w : World) (ha : a.raw w) (hl : Ins w w.heap.size A l) (hln : l.length = ln) (hra : ∀ i ∈ l, Rg i.a) (k0 : 0 ≤ x0 ∧ x0 ≤ 255) (k1 : 0 ≤ x1 ∧ x1 ≤ 255) :
    Calls Try.prog 7 #[(Value.agg #[Value.int IntKind.i64 (Hd8.cl a.h), Value.int IntKind.i64 (Hd8.me a.h), Value.int IntKind.i64 (Hd8.pc a.h), ((.slice a.lA a.ls.length a.lc)), ((.slice a.sA a.ss.length a.sc)), Value.int IntKind.i64 (Hd8.lk a.h), Value.bool (Hd8.ii a.h), Value.bool (Hd8.dr a.h)]), .slice A ln lc, .agg #[.int .u8 x0, .int .u8 x1]] w fun e w' => e = .returned (.bool true) ∧ Below w.heap.size w w' := by
  have HA := Lib.hid ha
  have HL := Lib.hid hl
  have HLN := Lib.hid hln
  have HF := Lib.hid (ins_fit hl hra)
  obtain ⟨n1, hn1⟩ : ∃ n, a.ls.length = n := ⟨_, rfl⟩
  obtain ⟨n2, hn2⟩ : ∃ n, a.ss.length = n := ⟨_, rfl⟩
  have HN := Lib.hid (And.intro hn1 hn2)
  rw [hn1, hn2]
  clear ha hl hln hra hn1 hn2
  by_cases hf : ln ≤ 30 ∧ n1 ≤ 40 ∧ n2 ≤ 40
  · obtain ⟨f0, f1, f2⟩ := hf
    obtain ⟨m, hm, hm59⟩ := mod60 x0 k0.1
    obtain ⟨n, hn, hn59⟩ := mod60 x1 k1.1
    have hw0 : IntKind.i64.wrap x0 = x0 := by rw [IntKind.wrap_i64]; omega
    have hw1 : IntKind.i64.wrap x1 = x1 := by rw [IntKind.wrap_i64]; omega
    have hwm : IntKind.i64.wrap (m : Int) = (m : Int) := by rw [IntKind.wrap_i64]; omega
    have hwn : IntKind.i64.wrap (n : Int) = (n : Int) := by rw [IntKind.wrap_i64]; omega
    have hwmn : IntKind.i64.wrap ((m : Int) + (n : Int)) = (m : Int) + (n : Int) := by rw [IntKind.wrap_i64]; omega
    have HRU := Lib.hid (fun (W : World) (h : Below w.heap.size w W) (z : Int) (hz : z ≤ 10000) => run_any a l A ln lc z W ⟨HA.out.ok.l.up h, HA.out.ok.s.up h, HA.out.ok.ll, HA.out.ok.sl⟩ (HL.out.up h) HLN.out (by omega) HF.out HA.out.vl HA.out.vs (by rw [HN.out.1]; omega) (by rw [HN.out.2]; omega) hz)
    rw [HN.out.1, HN.out.2] at HRU
    have HADD := Lib.hid (runS_add l n m a.sp)
    have HFIT := Lib.hid (runS_fit HF.out m a.sp HA.out.vl HA.out.vs)
    have HRM := Lib.hid (fun (W : World) (h : Below w.heap.size w W) => HRU.out W h (m : Int) (by omega))
    have HRN := Lib.hid (fun (W : World) (h : Below w.heap.size w W) => HRU.out W h ((m : Int) + (n : Int)) (by omega))
    rw [show ((m : Int)).toNat = m from rfl] at HRM
    rw [show ((m : Int) + (n : Int)).toNat = m + n from by omega] at HRN
    obtain ⟨rs, hrs⟩ : ∃ rs, runS l m a.sp = rs := ⟨_, rfl⟩
    rw [hrs] at HADD HFIT HRM
    clear hrs
    obtain ⟨⟨⟨xcl, xme, xpc, xlk, xii, xdr⟩, xls, xss⟩, xn, xe⟩ := rs
    obtain ⟨p, hp⟩ : ∃ n, xls.length = n := ⟨_, rfl⟩
    obtain ⟨s, hs⟩ : ∃ n, xss.length = n := ⟨_, rfl⟩
    have HPS := Lib.hid (And.intro hp hs)
    have hps : p ≤ 40 ∧ s ≤ 300 ∧ xn ≤ m := by
      obtain ⟨_, _, g3, g4, g5⟩ := HFIT.out
      have g3' : xls.length = a.ls.length := g3
      have g4' : xss.length ≤ a.ss.length + 3 * m := g4
      have g5' : xn ≤ m := g5
      rw [HN.out.1] at g3'
      rw [HN.out.2] at g4'
      omega
    obtain ⟨hpb, hsb, hxm⟩ := hps
    have hx0 : (0 : Int) ≤ (xn : Int) := by omega
    clear hp hs
    go_enter Try.func7, Try.ntmps7
    go_upto_region 1 with fail
    have R0 := laid_old (o' := (.cells #[.int .u8 x0, .int .u8 x1] 45)) (World.alloc_heap_new w (.cells #[.int .i64 a.h.cl, .int .i64 a.h.me, .int .i64 a.h.pc, .slice a.lA n1 a.lc, .slice a.sA n2 a.sc, .int .i64 a.h.lk, .bool a.h.ii, .bool a.h.dr] 24))
    have R1 := World.alloc_heap_new (w.alloc (.cells #[.int .i64 a.h.cl, .int .i64 a.h.me, .int .i64 a.h.pc, .slice a.lA n1 a.lc, .slice a.sA n2 a.sc, .int .i64 a.h.lk, .bool a.h.ii, .bool a.h.dr] 24)) (.cells #[.int .u8 x0, .int .u8 x1] 45)
    have hsz : (w.alloc (.cells #[.int .i64 a.h.cl, .int .i64 a.h.me, .int .i64 a.h.pc, .slice a.lA n1 a.lc, .slice a.sA n2 a.sc, .int .i64 a.h.lk, .bool a.h.ii, .bool a.h.dr] 24)).heap.size = w.heap.size + 1 := by simp
    rw [hsz] at R1
    have hlt2 : w.heap.size + 2 ≤ ((w.alloc (.cells #[.int .i64 a.h.cl, .int .i64 a.h.me, .int .i64 a.h.pc, .slice a.lA n1 a.lc, .slice a.sA n2 a.sc, .int .i64 a.h.lk, .bool a.h.ii, .bool a.h.dr] 24)).alloc (.cells #[.int .u8 x0, .int .u8 x1] 45)).heap.size := by simp
    have hB := below_al (below_al (Below.refl w.heap.size w) (.cells #[.int .i64 a.h.cl, .int .i64 a.h.me, .int .i64 a.h.pc, .slice a.lA n1 a.lc, .slice a.sA n2 a.sc, .int .i64 a.h.lk, .bool a.h.ii, .bool a.h.dr] 24)) (.cells #[.int .u8 x0, .int .u8 x1] 45)
    generalize (w.alloc (.cells #[.int .i64 a.h.cl, .int .i64 a.h.me, .int .i64 a.h.pc, .slice a.lA n1 a.lc, .slice a.sA n2 a.sc, .int .i64 a.h.lk, .bool a.h.ii, .bool a.h.dr] 24)).alloc (.cells #[.int .u8 x0, .int .u8 x1] 45) = W1 at R0 R1 hB hlt2 ⊢
    have HR0 := Lib.hid R0
    have HR1 := Lib.hid R1
    have HB := Lib.hid hB
    obtain ⟨a0, a1, a2, a3, a4, a5, a6, a7⟩ := eight_cells R0
    obtain ⟨r0, r1⟩ := two_cellsV R1
    have y0 := lt_heapV R0
    have y1 := lt_heapV R1
    clear R0 R1 hsz hB
    go_upto_region 3 with fail
    go_quiet (fail)
    have hd := below_dr (Below.refl W1.heap.size W1) nq
    generalize W1.drewN nq = W2 at hd ⊢
    have HB := Lib.hid (below_on HB.out hd)
    have HR0 := Lib.hid ((hd.block _ y0).trans HR0.out)
    clear hd a0 a1 a2 a3 a4 a5 a6 a7 r0 r1 y0 y1
    obtain ⟨a0, a1, a2, a3, a4, a5, a6, a7⟩ := eight_cells HR0.out
    have y0 := lt_heapV HR0.out
    go_upto_region 5 with (go_at_call 15; refine (HRM.out _ HB.out).mono ?_; rintro e w5 ⟨⟨⟨cl5, me5, pc5, lk5, ii5, dr5⟩, ls5, ss5, lA5, lc5, sA5, sc5⟩, rfl, ho5, e51, e52, e53, hbb5, _, _⟩; dsimp only at e51 e52 e53 ho5; injection e51.symm with i1 i2 i3 i4 i5 i6; have e52 := e52.symm; have e53 := e53.symm; subst i1 i2 i3 i4 i5 i6 e52 e53; clear e51; dsimp only [Ac.val]; rw [HPS.out.1, HPS.out.2])
    have x5 := World.alloc_heap_new w5 (.cells #[.int .i64 xcl, .int .i64 xme, .int .i64 xpc, .slice lA5 p lc5, .slice sA5 s sc5, .int .i64 xlk, .bool xii, .bool xdr] 24)
    have hb5a := below_al (Below.refl w5.heap.size w5) (.cells #[.int .i64 xcl, .int .i64 xme, .int .i64 xpc, .slice lA5 p lc5, .slice sA5 s sc5, .int .i64 xlk, .bool xii, .bool xdr] 24)
    have hz5 : w5.heap.size < (w5.alloc (.cells #[.int .i64 xcl, .int .i64 xme, .int .i64 xpc, .slice lA5 p lc5, .slice sA5 s sc5, .int .i64 xlk, .bool xii, .bool xdr] 24)).heap.size := by simp
    generalize w5.alloc (.cells #[.int .i64 xcl, .int .i64 xme, .int .i64 xpc, .slice lA5 p lc5, .slice sA5 s sc5, .int .i64 xlk, .bool xii, .bool xdr] 24) = W5 at x5 hb5a hz5 ⊢
    have K5 := Lib.hid (below_on hbb5 hb5a)
    have HC5 := Lib.hid (below_on HB.out K5.out)
    have HO5 := Lib.hid (And.intro (ho5.l.up hb5a) (ho5.s.up hb5a))
    have HLL5 := Lib.hid (And.intro ho5.ll ho5.sl)
    have HX5 := Lib.hid x5
    clear hb5a hbb5 ho5 x5
    have HS0 := Lib.hid ((K5.out.block _ y0).trans HR0.out)
    clear a0 a1 a2 a3 a4 a5 a6 a7
    obtain ⟨a0, a1, a2, a3, a4, a5, a6, a7⟩ := eight_cells HS0.out
    have u0 := lt_heapV HS0.out
    by_cases hc : xe ≠ 0 ∨ xn < m
    · have hs := HADD.out.1 hc
      rw [hs] at HRN
      clear hs
      have hor : (xe != 0) = true ∨ ((xe != 0) = false ∧ (xn : Int) < (m : Int)) := by
        by_cases h0 : xe = 0
        · rcases hc with h | h
          · exact absurd h0 h
          · exact Or.inr ⟨by simp [h0], by omega⟩
        · exact Or.inl (by simpa using h0)
      clear hc
      rcases hor with hc | ⟨hc, hc2⟩
      all_goals
        go_upto_region 7 with (go_at_call 15; refine (HRN.out _ HC5.out).mono ?_; rintro e w7 ⟨⟨⟨cl7, me7, pc7, lk7, ii7, dr7⟩, ls7, ss7, lA7, lc7, sA7, sc7⟩, rfl, ho7, e71, e72, e73, hbb7, _, _⟩; dsimp only at e71 e72 e73 ho7; injection e71.symm with i1 i2 i3 i4 i5 i6; have e72 := e72.symm; have e73 := e73.symm; subst i1 i2 i3 i4 i5 i6 e72 e73; clear e71; dsimp only [Ac.val]; rw [HPS.out.1, HPS.out.2])
        have x7 := World.alloc_heap_new w7 (.cells #[.int .i64 xcl, .int .i64 xme, .int .i64 xpc, .slice lA7 p lc7, .slice sA7 s sc7, .int .i64 xlk, .bool xii, .bool xdr] 24)
        have hb7a := below_al (Below.refl w7.heap.size w7) (.cells #[.int .i64 xcl, .int .i64 xme, .int .i64 xpc, .slice lA7 p lc7, .slice sA7 s sc7, .int .i64 xlk, .bool xii, .bool xdr] 24)
        have hz7 : w7.heap.size < (w7.alloc (.cells #[.int .i64 xcl, .int .i64 xme, .int .i64 xpc, .slice lA7 p lc7, .slice sA7 s sc7, .int .i64 xlk, .bool xii, .bool xdr] 24)).heap.size := by simp
        generalize w7.alloc (.cells #[.int .i64 xcl, .int .i64 xme, .int .i64 xpc, .slice lA7 p lc7, .slice sA7 s sc7, .int .i64 xlk, .bool xii, .bool xdr] 24) = W7 at x7 hb7a hz7 ⊢
        have K7 := Lib.hid (below_on hbb7 hb7a)
        have HC7 := Lib.hid (below_on HC5.out K7.out)
        have HO7 := Lib.hid (And.intro (ho7.l.up hb7a) (ho7.s.up hb7a))
        have HLL7 := Lib.hid (And.intro ho7.ll ho7.sl)
        have HX7 := Lib.hid x7
        clear hb7a hbb7 ho7 x7
        have HV5 := Lib.hid ((K7.out.block _ hz5).trans HX5.out)
        have HO57 := Lib.hid (And.intro (HO5.out.1.up K7.out) (HO5.out.2.up K7.out))
        clear a0 a1 a2 a3 a4 a5 a6 a7
        obtain ⟨b0, b1, b2, b3, b4, b5, b6, b7⟩ := eight_cells HV5.out
        obtain ⟨c0, c1, c2, c3, c4, c5, c6, c7⟩ := eight_cells HX7.out
        have q5 := lt_heapV HV5.out
        go_wp2_with (first | (go_at_call 12; refine (sa_yes _ _ _ _ _ _ HO57.out.1 HO57.out.2 HO7.out.1 HO7.out.2 HPS.out.1 HPS.out.2 (by omega) (by omega)).mono ?_; rintro e w8 ⟨rfl, hb8⟩) | (go_at_call 9; refine (awake42_any _).mono ?_; rintro e w9 ⟨rfl, hb9⟩))
        go_ret
        exact ⟨rfl, below_on (below_on HC7.out hb8) hb9⟩
    · have hxe0 : xe = 0 := Classical.byContradiction fun h => hc (Or.inl h)
      have hxn0 : ¬ xn < m := fun h => hc (Or.inr h)
      obtain ⟨hxm2, hs⟩ := HADD.out.2 ⟨hxe0, hxn0⟩
      have hxm3 : xn = m := hxm2
      dsimp only at hs
      clear hc hxm2 hxn0
      subst hxe0
      subst hxm3
      have HRB := Lib.hid (run_any ⟨⟨xcl, xme, xpc, xlk, xii, xdr⟩, xls, xss, lA5, lc5, sA5, sc5⟩ l A ln lc (n : Int) W5 ⟨HO5.out.1, HO5.out.2, HLL5.out.1, HLL5.out.2⟩ (HL.out.up HC5.out) HLN.out (by omega) HF.out HFIT.out.1 HFIT.out.2.1 (by rw [HPS.out.1]; omega) (by rw [HPS.out.2]; omega) (by omega))
      have HFT := Lib.hid (runS_fit HF.out n ⟨⟨xcl, xme, xpc, xlk, xii, xdr⟩, xls, xss⟩ HFIT.out.1 HFIT.out.2.1)
      rw [show ((n : Int)).toNat = n from rfl] at HRB
      rw [hs] at HRN
      clear hs
      dsimp only [Ac.sp] at HRB
      rw [HPS.out.1, HPS.out.2] at HRB
      obtain ⟨qs, hqs⟩ : ∃ qs, runS l n ⟨⟨xcl, xme, xpc, xlk, xii, xdr⟩, xls, xss⟩ = qs := ⟨_, rfl⟩
      rw [hqs] at HRB HFT HRN
      clear hqs
      obtain ⟨⟨⟨zcl, zme, zpc, zlk, zii, zdr⟩, zls, zss⟩, zn, ze⟩ := qs
      dsimp only [addN] at HRN
      obtain ⟨yn, hyn⟩ : ∃ yn, zn + xn = yn := ⟨_, rfl⟩
      rw [hyn] at HRN
      obtain ⟨pz, hpz⟩ : ∃ n, zls.length = n := ⟨_, rfl⟩
      obtain ⟨sz, hsz⟩ : ∃ n, zss.length = n := ⟨_, rfl⟩
      have HQS := Lib.hid (And.intro hpz hsz)
      have hpsz : pz ≤ 40 ∧ sz ≤ 600 ∧ zn ≤ n := by
        obtain ⟨_, _, g3, g4, g5⟩ := HFT.out
        have g3' : zls.length = xls.length := g3
        have g4' : zss.length ≤ xss.length + 3 * n := g4
        have g5' : zn ≤ n := g5
        rw [HPS.out.1] at g3'
        rw [HPS.out.2] at g4'
        omega
      obtain ⟨hpz2, hsz2, hzn⟩ := hpsz
      have hsum : (IntKind.i64.wrap ((xn : Int) + (zn : Int)) == (yn : Int)) = true := by rw [IntKind.wrap_i64]; simp; omega
      have hsum3 : (xn : Int) + (zn : Int) = (yn : Int) := by omega
      clear hpz hsz hyn hsum
      have hsum4 : IntKind.i64.wrap (yn : Int) = (yn : Int) := by rw [IntKind.wrap_i64]; omega
      obtain ⟨d0, d1, d2, d3, d4, d5, d6, d7⟩ := eight_cells HX5.out
      have hz5b := hz5
      go_upto_region 9 with (go_at_call 15; refine HRB.out.mono ?_; rintro e w7 ⟨⟨⟨cl7, me7, pc7, lk7, ii7, dr7⟩, ls7, ss7, lA7, lc7, sA7, sc7⟩, rfl, ho7, e71, e72, e73, hbb7, _, _⟩; dsimp only at e71 e72 e73 ho7; injection e71.symm with i1 i2 i3 i4 i5 i6; have e72 := e72.symm; have e73 := e73.symm; subst i1 i2 i3 i4 i5 i6 e72 e73; clear e71; dsimp only [Ac.val]; rw [HQS.out.1, HQS.out.2])
      have x7 := World.alloc_heap_new w7 (.cells #[.int .i64 zcl, .int .i64 zme, .int .i64 zpc, .slice lA7 pz lc7, .slice sA7 sz sc7, .int .i64 zlk, .bool zii, .bool zdr] 24)
      have hb7a := below_al (Below.refl w7.heap.size w7) (.cells #[.int .i64 zcl, .int .i64 zme, .int .i64 zpc, .slice lA7 pz lc7, .slice sA7 sz sc7, .int .i64 zlk, .bool zii, .bool zdr] 24)
      have hz7 : w7.heap.size < (w7.alloc (.cells #[.int .i64 zcl, .int .i64 zme, .int .i64 zpc, .slice lA7 pz lc7, .slice sA7 sz sc7, .int .i64 zlk, .bool zii, .bool zdr] 24)).heap.size := by simp
      generalize w7.alloc (.cells #[.int .i64 zcl, .int .i64 zme, .int .i64 zpc, .slice lA7 pz lc7, .slice sA7 sz sc7, .int .i64 zlk, .bool zii, .bool zdr] 24) = W7 at x7 hb7a hz7 ⊢
      have K7 := Lib.hid (below_on hbb7 hb7a)
      have HC7 := Lib.hid (below_on HC5.out K7.out)
      have HO7 := Lib.hid (And.intro (ho7.l.up hb7a) (ho7.s.up hb7a))
      have HLL7 := Lib.hid (And.intro ho7.ll ho7.sl)
      have HX7 := Lib.hid x7
      clear hb7a hbb7 ho7 x7
      have HT0 := Lib.hid ((K7.out.block _ u0).trans HS0.out)
      clear a0 a1 a2 a3 a4 a5 a6 a7 d0 d1 d2 d3 d4 d5 d6 d7
      obtain ⟨a0, a1, a2, a3, a4, a5, a6, a7⟩ := eight_cells HT0.out
      have v0 := lt_heapV HT0.out
      go_upto_region 10 with (go_at_call 15; refine (HRN.out _ HC7.out).mono ?_; rintro e w8 ⟨⟨⟨cl8, me8, pc8, lk8, ii8, dr8⟩, ls8, ss8, lA8, lc8, sA8, sc8⟩, rfl, ho8, e81, e82, e83, hbb8, _, _⟩; dsimp only at e81 e82 e83 ho8; injection e81.symm with i1 i2 i3 i4 i5 i6; have e82 := e82.symm; have e83 := e83.symm; subst i1 i2 i3 i4 i5 i6 e82 e83; clear e81; dsimp only [Ac.val]; rw [HQS.out.1, HQS.out.2])
      have x8 := World.alloc_heap_new w8 (.cells #[.int .i64 zcl, .int .i64 zme, .int .i64 zpc, .slice lA8 pz lc8, .slice sA8 sz sc8, .int .i64 zlk, .bool zii, .bool zdr] 24)
      have hb8a := below_al (Below.refl w8.heap.size w8) (.cells #[.int .i64 zcl, .int .i64 zme, .int .i64 zpc, .slice lA8 pz lc8, .slice sA8 sz sc8, .int .i64 zlk, .bool zii, .bool zdr] 24)
      have hz8 : w8.heap.size < (w8.alloc (.cells #[.int .i64 zcl, .int .i64 zme, .int .i64 zpc, .slice lA8 pz lc8, .slice sA8 sz sc8, .int .i64 zlk, .bool zii, .bool zdr] 24)).heap.size := by simp
      generalize w8.alloc (.cells #[.int .i64 zcl, .int .i64 zme, .int .i64 zpc, .slice lA8 pz lc8, .slice sA8 sz sc8, .int .i64 zlk, .bool zii, .bool zdr] 24) = W8 at x8 hb8a hz8 ⊢
      have K8 := Lib.hid (below_on hbb8 hb8a)
      have HC8 := Lib.hid (below_on HC7.out K8.out)
      have HO8 := Lib.hid (And.intro (ho8.l.up hb8a) (ho8.s.up hb8a))
      have HLL8 := Lib.hid (And.intro ho8.ll ho8.sl)
      have HX8 := Lib.hid x8
      clear hb8a hbb8 ho8 x8
      have HV7 := Lib.hid ((K8.out.block _ hz7).trans HX7.out)
      have HO78 := Lib.hid (And.intro (HO7.out.1.up K8.out) (HO7.out.2.up K8.out))
      clear a0 a1 a2 a3 a4 a5 a6 a7
      obtain ⟨b0, b1, b2, b3, b4, b5, b6, b7⟩ := eight_cells HV7.out
      obtain ⟨c0, c1, c2, c3, c4, c5, c6, c7⟩ := eight_cells HX8.out
      have q5 := lt_heapV HV7.out
      go_wp2_with (first | (go_at_call 12; refine (sa_yes _ _ _ _ _ _ HO78.out.1 HO78.out.2 HO8.out.1 HO8.out.2 HQS.out.1 HQS.out.2 (by omega) (by omega)).mono ?_; rintro e w9 ⟨rfl, hb9⟩) | (go_at_call 9; refine (awake42_any _).mono ?_; rintro e w10 ⟨rfl, hb10⟩))
      go_ret
      exact ⟨rfl, below_on (below_on HC8.out hb9) hb10⟩
  · have hor : 30 < ln ∨ (ln ≤ 30 ∧ 40 < n1) ∨ (ln ≤ 30 ∧ n1 ≤ 40 ∧ 40 < n2) := by omega
    clear hf
    go_enter Try.func7, Try.ntmps7
    go_upto_region 1 with fail
    have R0 := laid_old (o' := (.cells #[.int .u8 x0, .int .u8 x1] 45)) (World.alloc_heap_new w (.cells #[.int .i64 a.h.cl, .int .i64 a.h.me, .int .i64 a.h.pc, .slice a.lA n1 a.lc, .slice a.sA n2 a.sc, .int .i64 a.h.lk, .bool a.h.ii, .bool a.h.dr] 24))
    have R1 := World.alloc_heap_new (w.alloc (.cells #[.int .i64 a.h.cl, .int .i64 a.h.me, .int .i64 a.h.pc, .slice a.lA n1 a.lc, .slice a.sA n2 a.sc, .int .i64 a.h.lk, .bool a.h.ii, .bool a.h.dr] 24)) (.cells #[.int .u8 x0, .int .u8 x1] 45)
    have hsz : (w.alloc (.cells #[.int .i64 a.h.cl, .int .i64 a.h.me, .int .i64 a.h.pc, .slice a.lA n1 a.lc, .slice a.sA n2 a.sc, .int .i64 a.h.lk, .bool a.h.ii, .bool a.h.dr] 24)).heap.size = w.heap.size + 1 := by simp
    rw [hsz] at R1
    have hlt2 : w.heap.size + 2 ≤ ((w.alloc (.cells #[.int .i64 a.h.cl, .int .i64 a.h.me, .int .i64 a.h.pc, .slice a.lA n1 a.lc, .slice a.sA n2 a.sc, .int .i64 a.h.lk, .bool a.h.ii, .bool a.h.dr] 24)).alloc (.cells #[.int .u8 x0, .int .u8 x1] 45)).heap.size := by simp
    have hB := below_al (below_al (Below.refl w.heap.size w) (.cells #[.int .i64 a.h.cl, .int .i64 a.h.me, .int .i64 a.h.pc, .slice a.lA n1 a.lc, .slice a.sA n2 a.sc, .int .i64 a.h.lk, .bool a.h.ii, .bool a.h.dr] 24)) (.cells #[.int .u8 x0, .int .u8 x1] 45)
    generalize (w.alloc (.cells #[.int .i64 a.h.cl, .int .i64 a.h.me, .int .i64 a.h.pc, .slice a.lA n1 a.lc, .slice a.sA n2 a.sc, .int .i64 a.h.lk, .bool a.h.ii, .bool a.h.dr] 24)).alloc (.cells #[.int .u8 x0, .int .u8 x1] 45) = W1 at R0 R1 hB hlt2 ⊢
    have HR0 := Lib.hid R0
    have HR1 := Lib.hid R1
    have HB := Lib.hid hB
    obtain ⟨a0, a1, a2, a3, a4, a5, a6, a7⟩ := eight_cells R0
    obtain ⟨r0, r1⟩ := two_cellsV R1
    have y0 := lt_heapV R0
    have y1 := lt_heapV R1
    clear R0 R1 hsz hB
    rcases hor with h1 | ⟨h1, h2⟩ | ⟨h1, h2, h3⟩
    all_goals
      go_wp2_with (go_at_call 9; refine (awake42_any _).mono ?_; rintro e w9 ⟨rfl, hb9⟩)
      go_ret
      exact ⟨rfl, below_on HB.out hb9⟩
end Go.Proofs.Ytgiglbjkijlchaa
