/- Layer 42: BasicopsEffects (written by gen/boeff.py). -/
import Derived.Test.YtgiglbjkijlchaaLd
import Derived.Test.YtgiglbjkijlchaaSa
import Derived.Test.YtgiglbjkijlchaaLo
import Derived.Test.YtgiglbjkijlchaaLf
namespace Go.Proofs.Ytgiglbjkijlchaa
open Go.ChangeShapes Go.WideShapes Go.ChangeAt Go.RowKit Go.PlainAid
set_option linter.unusedSimpArgs false
set_option linter.unusedVariables false

theorem va_dif {x1 x2 z1 z2 : Int} (h : ¬ (x1, x2) = (z1, z2)) (w : World) : (binOp .neq 42 (.agg #[.int .i64 x1, .int .i64 x2]) (.agg #[.int .i64 z1, .int .i64 z2])).run Try.prog w = .ok (.bool true) w := by
  have h2 : ¬ x1 = z1 ∨ (x1 = z1 ∧ ¬ x2 = z2) := by
    by_cases e : x1 = z1
    · exact Or.inr ⟨e, fun e2 => h (by rw [e, e2])⟩
    · exact Or.inl e
  rcases h2 with h2 | ⟨h2, h3⟩
  · simp [go_sem, h2]
  · simp [go_sem, h2, h3]
theorem VRow.take {w : World} {A : Option Addr} {L : List Va} (h : VRow w A L) (d : Nat) : VRow w A (L.take d) := by
  rcases h with h | ⟨g, o, hA, hg, hc⟩
  · exact Or.inl (by rw [h]; simp)
  · refine Or.inr ⟨g, o, hA, hg, fun k p hp => hc k p ?_⟩
    rw [List.getElem?_take] at hp
    split at hp
    · exact hp
    · cases hp
set_option maxRecDepth 100000 in
set_option maxHeartbeats 4000000 in
theorem effects_law (a : Ac) (i : In) (w : World) (ha : a.raw w) (hi : i.ok w w.heap.size) (hra : Rg i.a) :
    Calls Try.prog 5 #[(Value.agg #[Value.int IntKind.i64 (Hd8.cl a.h), Value.int IntKind.i64 (Hd8.me a.h), Value.int IntKind.i64 (Hd8.pc a.h), ((.slice a.lA a.ls.length a.lc)), ((.slice a.sA a.ss.length a.sc)), Value.int IntKind.i64 (Hd8.lk a.h), Value.bool (Hd8.ii a.h), Value.bool (Hd8.dr a.h)]), (Value.agg #[Value.int IntKind.i64 (In.op i), Value.int IntKind.i64 (In.a i), Value.int IntKind.i64 (In.b i), Value.int IntKind.i64 (In.t i), Value.slice (In.kA i) (In.kn i) (In.kc i), Value.slice (In.tA i) (In.tn i) (In.tc i), Value.string (In.r1 i), Value.string (In.r2 i), Value.string (In.r3 i), Value.string (In.s i)])] w fun e w' => e = .returned (.bool true) ∧ Below w.heap.size w w' := by
  have HA := Lib.hid ha
  have HI := Lib.hid hi
  have HRA := Lib.hid hra
  obtain ⟨n1, hn1⟩ : ∃ n, a.ls.length = n := ⟨_, rfl⟩
  obtain ⟨n2, hn2⟩ : ∃ n, a.ss.length = n := ⟨_, rfl⟩
  have HN := Lib.hid (And.intro hn1 hn2)
  have HFY := Lib.hid (fun (W : World) (h : fewP a i) => few_yes (a := a) (i := i) W h)
  have HFN := Lib.hid (fun (W : World) (h : ¬ fewP a i) => few_no (a := a) (i := i) W h)
  rw [hn1, hn2] at HFY HFN
  rw [hn1, hn2]
  clear ha hi hra hn1 hn2
  by_cases hf : fewP a i
  · have hfw := hf
    unfold fewP at hfw
    rw [HN.out.1, HN.out.2] at hfw
    obtain ⟨f1, f2, f3, f4⟩ := hfw
    have HFW := Lib.hid hf
    clear hf
    have HEX := Lib.hid (fun (W : World) (h : Below w.heap.size w W) => exec_any a i W ⟨HA.out.ok.l.up h, HA.out.ok.s.up h, HA.out.ok.ll, HA.out.ok.sl⟩ (HI.out.up h) (by rw [HN.out.1]; omega) (by rw [HN.out.2]; omega) (by omega) (by omega) HRA.out HA.out.vs)
    rw [HN.out.1, HN.out.2] at HEX
    obtain ⟨xs, hxs⟩ : ∃ xs, execS i ⟨a.h, a.ls, a.ss⟩ = xs := ⟨_, rfl⟩
    obtain ⟨xe, hxe⟩ : ∃ xe, execE i ⟨a.h, a.ls, a.ss⟩ = xe := ⟨_, rfl⟩
    rw [hxs, hxe] at HEX
    have HXS := Lib.hid hxs
    have HXE := Lib.hid hxe
    clear hxs hxe
    by_cases he : xe = 0
    · have hX := HXE.out
      rw [he] at hX
      have hef := exec_eff hX
      rw [HXS.out] at hef
      obtain ⟨xh, xls, xss⟩ := xs
      dsimp only at hef
      obtain ⟨eh, HEF⟩ := hef
      obtain ⟨xpc, hxpc⟩ : ∃ x, xh.pc = x := ⟨_, rfl⟩
      rw [hxpc] at eh
      subst eh
      clear hxpc
      have HEF := Lib.hid HEF
      have hln : xls.length = n1 := by
        have hlen := (exec_len i ⟨a.h, a.ls, a.ss⟩).1
        rw [HXS.out] at hlen
        exact (show xls.length = a.ls.length from hlen).trans HN.out.1
      obtain ⟨s, hs⟩ : ∃ n, xss.length = n := ⟨_, rfl⟩
      have HPS := Lib.hid (And.intro hln hs)
      clear hln hs hX
      subst he
      go_enter Try.func5, Try.ntmps5
      go_upto_region 1 with fail
      have R0 := laid_old (o' := (.cells #[.int .i64 i.op, .int .i64 i.a, .int .i64 i.b, .int .i64 i.t, .slice i.kA i.kn i.kc, .slice i.tA i.tn i.tc, .string i.r1, .string i.r2, .string i.r3, .string i.s] 29)) (World.alloc_heap_new w (.cells #[.int .i64 a.h.cl, .int .i64 a.h.me, .int .i64 a.h.pc, .slice a.lA n1 a.lc, .slice a.sA n2 a.sc, .int .i64 a.h.lk, .bool a.h.ii, .bool a.h.dr] 24))
      have R1 := World.alloc_heap_new (w.alloc (.cells #[.int .i64 a.h.cl, .int .i64 a.h.me, .int .i64 a.h.pc, .slice a.lA n1 a.lc, .slice a.sA n2 a.sc, .int .i64 a.h.lk, .bool a.h.ii, .bool a.h.dr] 24)) (.cells #[.int .i64 i.op, .int .i64 i.a, .int .i64 i.b, .int .i64 i.t, .slice i.kA i.kn i.kc, .slice i.tA i.tn i.tc, .string i.r1, .string i.r2, .string i.r3, .string i.s] 29)
      have hsz : (w.alloc (.cells #[.int .i64 a.h.cl, .int .i64 a.h.me, .int .i64 a.h.pc, .slice a.lA n1 a.lc, .slice a.sA n2 a.sc, .int .i64 a.h.lk, .bool a.h.ii, .bool a.h.dr] 24)).heap.size = w.heap.size + 1 := by simp
      rw [hsz] at R1
      have hlt2 : w.heap.size + 2 ≤ ((w.alloc (.cells #[.int .i64 a.h.cl, .int .i64 a.h.me, .int .i64 a.h.pc, .slice a.lA n1 a.lc, .slice a.sA n2 a.sc, .int .i64 a.h.lk, .bool a.h.ii, .bool a.h.dr] 24)).alloc (.cells #[.int .i64 i.op, .int .i64 i.a, .int .i64 i.b, .int .i64 i.t, .slice i.kA i.kn i.kc, .slice i.tA i.tn i.tc, .string i.r1, .string i.r2, .string i.r3, .string i.s] 29)).heap.size := by simp
      have hB := below_al (below_al (Below.refl w.heap.size w) (.cells #[.int .i64 a.h.cl, .int .i64 a.h.me, .int .i64 a.h.pc, .slice a.lA n1 a.lc, .slice a.sA n2 a.sc, .int .i64 a.h.lk, .bool a.h.ii, .bool a.h.dr] 24)) (.cells #[.int .i64 i.op, .int .i64 i.a, .int .i64 i.b, .int .i64 i.t, .slice i.kA i.kn i.kc, .slice i.tA i.tn i.tc, .string i.r1, .string i.r2, .string i.r3, .string i.s] 29)
      generalize (w.alloc (.cells #[.int .i64 a.h.cl, .int .i64 a.h.me, .int .i64 a.h.pc, .slice a.lA n1 a.lc, .slice a.sA n2 a.sc, .int .i64 a.h.lk, .bool a.h.ii, .bool a.h.dr] 24)).alloc (.cells #[.int .i64 i.op, .int .i64 i.a, .int .i64 i.b, .int .i64 i.t, .slice i.kA i.kn i.kc, .slice i.tA i.tn i.tc, .string i.r1, .string i.r2, .string i.r3, .string i.s] 29) = W1 at R0 R1 hB hlt2 ⊢
      have HR0 := Lib.hid R0
      have HR1 := Lib.hid R1
      have HB := Lib.hid hB
      obtain ⟨a0, a1, a2, a3, a4, a5, a6, a7⟩ := eight_cells R0
      obtain ⟨r0, r1, r2, r3, r4, r5, r6, r7, r8, r9⟩ := ten_cells R1
      have y0 := lt_heapV R0
      have y1 := lt_heapV R1
      clear R0 R1 hsz hB
      go_upto_region 3 with (go_at_call 8; refine (HFY.out _ HFW.out).mono ?_; rintro e w2 ⟨rfl, hb2⟩)
      have HB2 := Lib.hid (below_on HB.out hb2)
      have HS0 := Lib.hid ((hb2.block _ y0).trans HR0.out)
      have HS1 := Lib.hid ((hb2.block _ y1).trans HR1.out)
      clear hb2 a0 a1 a2 a3 a4 a5 a6 a7 r0 r1 r2 r3 r4 r5 r6 r7 r8 r9
      obtain ⟨a0, a1, a2, a3, a4, a5, a6, a7⟩ := eight_cells HS0.out
      obtain ⟨r0, r1, r2, r3, r4, r5, r6, r7, r8, r9⟩ := ten_cells HS1.out
      have t0 := lt_heapV HS0.out
      have t1 := lt_heapV HS1.out
      go_upto_region 4 with (go_at_call 10; refine (HEX.out _ HB2.out).mono ?_; rintro e w5 ⟨⟨⟨cl5, me5, pc5, lk5, ii5, dr5⟩, ls5, ss5, lA5, lc5, sA5, sc5⟩, rfl, ho5, e51, e52, e53, hbb5, _, _⟩; dsimp only at e51 e52 e53 ho5; injection e51.symm with i1 i2 i3 i4 i5 i6; have e52 := e52.symm; have e53 := e53.symm; subst i1 i2 i3 i4 i5 i6 e52 e53; clear e51; dsimp only [Ac.val]; rw [HPS.out.1, HPS.out.2])
      have x5 := World.alloc_heap_new w5 (.cells #[.int .i64 a.h.cl, .int .i64 a.h.me, .int .i64 xpc, .slice lA5 n1 lc5, .slice sA5 s sc5, .int .i64 a.h.lk, .bool a.h.ii, .bool a.h.dr] 24)
      have hb5a := below_al (Below.refl w5.heap.size w5) (.cells #[.int .i64 a.h.cl, .int .i64 a.h.me, .int .i64 xpc, .slice lA5 n1 lc5, .slice sA5 s sc5, .int .i64 a.h.lk, .bool a.h.ii, .bool a.h.dr] 24)
      generalize w5.alloc (.cells #[.int .i64 a.h.cl, .int .i64 a.h.me, .int .i64 xpc, .slice lA5 n1 lc5, .slice sA5 s sc5, .int .i64 a.h.lk, .bool a.h.ii, .bool a.h.dr] 24) = W5 at x5 hb5a ⊢
      have K5 := Lib.hid (below_on hbb5 hb5a)
      have HU0 := Lib.hid ((K5.out.block _ t0).trans HS0.out)
      have HC5 := Lib.hid (below_on HB2.out K5.out)
      have HO5 := Lib.hid (And.intro (ho5.l.up hb5a) (ho5.s.up hb5a))
      have HA5 := Lib.hid (And.intro (HA.out.ok.l.up HC5.out) (HA.out.ok.s.up HC5.out))
      have HX5 := Lib.hid x5
      have HCP := Lib.hid ho5.sl
      clear a0 a1 a2 a3 a4 a5 a6 a7 r0 r1 r2 r3 r4 r5 r6 r7 r8 r9 x5 hb5a hbb5 ho5 t0 t1 y0 y1
      obtain ⟨a0, a1, a2, a3, a4, a5, a6, a7⟩ := eight_cells HU0.out
      obtain ⟨c0, c1, c2, c3, c4, c5, c6, c7⟩ := eight_cells HX5.out
      have u0 := lt_heapV HU0.out
      have u5 := lt_heapV HX5.out
      go_upto_region 8 with fail
      obtain ⟨n0, hn0⟩ : ∃ n0 : Nat, ∀ j, j ≠ n0 → xls[j]? = a.ls[j]? := by
        rcases HEF.out.1 with h | ⟨n, v, h⟩
        · exact ⟨0, fun j _ => by rw [show xls = a.ls from h]⟩
        · exact ⟨n, fun j hj => by rw [show xls = a.ls.set n v from h, List.getElem?_set]; rw [if_neg (fun e => hj e.symm)]⟩
      have HN0 := Lib.hid hn0
      clear hn0
      go_wp2
      go_loopw [7, 8] (fun t z wr => ∃ k m q : Nat, k ≤ n1 ∧ z = .int .i64 k ∧ t = .int .i64 m ∧ m ≤ 1 ∧ (m = 1 → n0 < k) ∧ wr = W5.drewN q) (fun _ z _ => n1 - (intOf z).toNat)
      case atStart => exact ⟨0, 0, 0, Nat.zero_le _, rfl, rfl, by omega, fun h => (by cases h), rfl⟩
      case round =>
        obtain ⟨k, m, q, hk, rfl, rfl, hm1, hm2, rfl⟩ := hrel
        by_cases hlt : k < n1
        · obtain ⟨⟨x1, x2⟩, hx⟩ := get_someF (l := a.ls) (k := k) (by rw [HN.out.1]; exact hlt)
          obtain ⟨⟨z1, z2⟩, hz⟩ := get_someF (l := xls) (k := k) (by rw [HPS.out.1]; exact hlt)
          have hrx : ∃ g o, a.lA = some ⟨g, o, none⟩ ∧ W5.cell? ⟨g, o + k * 2, none⟩ = some (.int .i64 x1) ∧ W5.cell? ⟨g, o + k * 2 + 1, none⟩ = some (.int .i64 x2) := by
            rcases HA5.out.1 with h0 | ⟨g, o, hA, hg, hc⟩
            · rw [h0] at hx; cases hx
            · exact ⟨g, o, hA, hc k _ hx⟩
          have hrz : ∃ g o, lA5 = some ⟨g, o, none⟩ ∧ W5.cell? ⟨g, o + k * 2, none⟩ = some (.int .i64 z1) ∧ W5.cell? ⟨g, o + k * 2 + 1, none⟩ = some (.int .i64 z2) := by
            rcases HO5.out.1 with h0 | ⟨g, o, hA, hg, hc⟩
            · rw [h0] at hz; cases hz
            · exact ⟨g, o, hA, hc k _ hz⟩
          obtain ⟨g, o, hA, p1, p2⟩ := hrx
          obtain ⟨g2, o2, hA2, p3, p4⟩ := hrz
          rw [hA] at a3
          rw [hA2] at c3
          have HAA := Lib.hid (And.intro hA hA2)
          have hk0 : (0 : Int) ≤ (k : Int) := by omega
          have hk1 : (k : Int) < (n1 : Int) := by omega
          have HK := Lib.hid (And.intro hm1 hm2)
          have HXZ := Lib.hid (And.intro hx hz)
          clear hA hA2 hx hz hm1 hm2
          by_cases he : (x1, x2) = (z1, z2)
          · injection he with e1 e2
            subst e1 e2
            have hne := fun w => va_neq x1 x2 w
            go_wp2
            go_quiet (fail)
            go_wp2
            refine ⟨⟨k + 1, m, _, hlt, by go_num, rfl, HK.out.1, fun h => by have := HK.out.2 h; omega, rfl⟩, by simp [intOf]; omega⟩
          · have hne := fun w => va_dif he w
            have hkn : k = n0 := Classical.byContradiction fun h => by
              have := HN0.out k h
              rw [HXZ.out.1, HXZ.out.2] at this
              exact he (Option.some.inj this).symm
            have hm0 : m = 0 := by
              have h1 := HK.out.1
              have h2 := HK.out.2
              omega
            have HKN := Lib.hid hkn
            subst hm0
            clear he hkn
            go_wp2
            go_quiet (fail)
            go_wp2
            refine ⟨⟨k + 1, 1, _, hlt, by go_num, by go_num, by omega, fun _ => by have := HKN.out; omega, rfl⟩, by simp [intOf]; omega⟩
        · obtain rfl : n1 = k := by omega
          have HEFF := Lib.hid (eff_take HEF.out (n2 - 2) (by rw [show (⟨a.ls, a.ss, 0⟩ : Rs).ss = a.ss from rfl, HN.out.2]; exact Nat.le_refl _))
          have hs1 : s ≤ n2 + 1 := by have := HEFF.out.2.1; rw [← HPS.out.2, ← HN.out.2]; exact this
          have hs2 : n2 ≤ s + 2 := by have := HEFF.out.2.2; rw [← HPS.out.2, ← HN.out.2]; exact this
          have hdr := below_dr (Below.refl W5.heap.size W5) q
          have HC6 := Lib.hid (below_on HC5.out hdr)
          have HV0 := Lib.hid ((hdr.block _ u0).trans HU0.out)
          have HV5 := Lib.hid ((hdr.block _ u5).trans HX5.out)
          have HRA6 := Lib.hid (HA5.out.2.up hdr)
          have HRB6 := Lib.hid (HO5.out.2.up hdr)
          generalize W5.drewN q = W6 at hdr HC6 HV0 HV5 HRA6 HRB6 ⊢
          clear a0 a1 a2 a3 a4 a5 a6 a7 c0 c1 c2 c3 c4 c5 c6 c7 hdr hm2 hlt hk
          obtain ⟨a0, a1, a2, a3, a4, a5, a6, a7⟩ := eight_cells HV0.out
          obtain ⟨c0, c1, c2, c3, c4, c5, c6, c7⟩ := eight_cells HV5.out
          have v0 := lt_heapV HV0.out
          have v5 := lt_heapV HV5.out
          have hw2 : IntKind.i64.wrap ((n2 : Int) - 2) = (n2 : Int) - 2 := by rw [IntKind.wrap_i64]; omega
          have hw1 : IntKind.i64.wrap ((n2 : Int) + 1) = (n2 : Int) + 1 := by rw [IntKind.wrap_i64]; omega
          go_upto_region 15 with fail
          have hif : (if (2 : Int) < (n2 : Int) then (n2 : Int) - 2 else 0) = ((n2 - 2 : Nat) : Int) := by split <;> omega
          rw [hif]
          obtain ⟨d, hd⟩ : ∃ d, n2 - 2 = d := ⟨_, rfl⟩
          rw [hd] at HEFF ⊢
          have hdn : d ≤ n2 := by omega
          have hds : d ≤ s := by omega
          have hm3 : (m : Int) ≤ 1 := by omega
          have hs1i : (s : Int) ≤ (n2 : Int) + 1 := by omega
          have hs2i : (n2 : Int) - 2 ≤ (s : Int) := by omega
          have hsA := HA.out.ok.sl
          rw [HN.out.2] at hsA
          have hsB := HCP.out
          rw [HPS.out.2] at hsB
          have hcA : d ≤ a.sc := by omega
          have hcB : d ≤ sc5 := by omega
          have HSV := Lib.hid (fun (W : World) (h : Below W6.heap.size W6 W) => show Calls Try.prog 17 #[.slice a.sA d a.sc, .slice sA5 d sc5] W (fun e w' => e = .returned (.bool true) ∧ Below W.heap.size W w') from
            (sv_yes ((HRA6.out.up h).take d) (by rw [show a.ss.take d = xss.take d from HEFF.out.1]; exact (HRB6.out.up h).take d) (by rw [List.length_take, HN.out.2]; omega) (by omega)).mono fun e w' ⟨he, q, hq⟩ => ⟨he, by rw [hq]; exact below_dr (Below.refl _ _) _⟩)
          have hq0 : Below W6.heap.size W6 W6 := Below.refl _ _
          have KB := Lib.hid (show ∀ (W W' : World), Below W6.heap.size W6 W → Below W.heap.size W W' → Below W6.heap.size W6 W' from fun W W' h1 h2 => below_on h1 h2)
          clear a0 a1 a2 a3 a5 a6 a7 c0 c1 c2 c3 c5 c6 c7 f1 f2 f3 f4 hif hsA hsB u0 u5 hd
          go_region_held3 (fun w' => w'.cell? ⟨w.heap.size, 4, none⟩ = some (.slice a.sA n2 a.sc) ∧ w'.cell? ⟨w5.heap.size, 4, none⟩ = some (.slice sA5 s sc5) ∧ Below W6.heap.size W6 w') (((try go_split_ands); (repeat' apply And.intro) <;> (first | assumption | exact KB.out _ _ (by assumption) hq | exact Below.drew (by assumption) | exact (Below.cell (KB.out _ _ (by assumption) hq) (by first | assumption | omega)).trans (by assumption) | go_keep)))
            (first | (go_at_call 17; (with_reducible refine (HSV.out _ (by first | assumption | (go_split_ands; assumption))).mono ?_); rintro e w2 ⟨rfl, hq⟩) | (go_at_call 9; (with_reducible refine (awake42_any _).mono ?_); rintro e w2 ⟨rfl, hq⟩))
          all_goals (go_split_ands; go_wp2; go_ret; exact ⟨rfl, below_on HC6.out (by assumption)⟩)
    · have hne : (xe == 0) = false := by simpa using he
      have hsx : xs = ⟨a.h, a.ls, a.ss⟩ := by rw [← HXS.out]; exact if_pos (by rw [HXE.out]; exact he)
      subst hsx
      have HE := Lib.hid he
      clear he
      go_enter Try.func5, Try.ntmps5
      go_upto_region 1 with fail
      have R0 := laid_old (o' := (.cells #[.int .i64 i.op, .int .i64 i.a, .int .i64 i.b, .int .i64 i.t, .slice i.kA i.kn i.kc, .slice i.tA i.tn i.tc, .string i.r1, .string i.r2, .string i.r3, .string i.s] 29)) (World.alloc_heap_new w (.cells #[.int .i64 a.h.cl, .int .i64 a.h.me, .int .i64 a.h.pc, .slice a.lA n1 a.lc, .slice a.sA n2 a.sc, .int .i64 a.h.lk, .bool a.h.ii, .bool a.h.dr] 24))
      have R1 := World.alloc_heap_new (w.alloc (.cells #[.int .i64 a.h.cl, .int .i64 a.h.me, .int .i64 a.h.pc, .slice a.lA n1 a.lc, .slice a.sA n2 a.sc, .int .i64 a.h.lk, .bool a.h.ii, .bool a.h.dr] 24)) (.cells #[.int .i64 i.op, .int .i64 i.a, .int .i64 i.b, .int .i64 i.t, .slice i.kA i.kn i.kc, .slice i.tA i.tn i.tc, .string i.r1, .string i.r2, .string i.r3, .string i.s] 29)
      have hsz : (w.alloc (.cells #[.int .i64 a.h.cl, .int .i64 a.h.me, .int .i64 a.h.pc, .slice a.lA n1 a.lc, .slice a.sA n2 a.sc, .int .i64 a.h.lk, .bool a.h.ii, .bool a.h.dr] 24)).heap.size = w.heap.size + 1 := by simp
      rw [hsz] at R1
      have hlt2 : w.heap.size + 2 ≤ ((w.alloc (.cells #[.int .i64 a.h.cl, .int .i64 a.h.me, .int .i64 a.h.pc, .slice a.lA n1 a.lc, .slice a.sA n2 a.sc, .int .i64 a.h.lk, .bool a.h.ii, .bool a.h.dr] 24)).alloc (.cells #[.int .i64 i.op, .int .i64 i.a, .int .i64 i.b, .int .i64 i.t, .slice i.kA i.kn i.kc, .slice i.tA i.tn i.tc, .string i.r1, .string i.r2, .string i.r3, .string i.s] 29)).heap.size := by simp
      have hB := below_al (below_al (Below.refl w.heap.size w) (.cells #[.int .i64 a.h.cl, .int .i64 a.h.me, .int .i64 a.h.pc, .slice a.lA n1 a.lc, .slice a.sA n2 a.sc, .int .i64 a.h.lk, .bool a.h.ii, .bool a.h.dr] 24)) (.cells #[.int .i64 i.op, .int .i64 i.a, .int .i64 i.b, .int .i64 i.t, .slice i.kA i.kn i.kc, .slice i.tA i.tn i.tc, .string i.r1, .string i.r2, .string i.r3, .string i.s] 29)
      generalize (w.alloc (.cells #[.int .i64 a.h.cl, .int .i64 a.h.me, .int .i64 a.h.pc, .slice a.lA n1 a.lc, .slice a.sA n2 a.sc, .int .i64 a.h.lk, .bool a.h.ii, .bool a.h.dr] 24)).alloc (.cells #[.int .i64 i.op, .int .i64 i.a, .int .i64 i.b, .int .i64 i.t, .slice i.kA i.kn i.kc, .slice i.tA i.tn i.tc, .string i.r1, .string i.r2, .string i.r3, .string i.s] 29) = W1 at R0 R1 hB hlt2 ⊢
      have HR0 := Lib.hid R0
      have HR1 := Lib.hid R1
      have HB := Lib.hid hB
      obtain ⟨a0, a1, a2, a3, a4, a5, a6, a7⟩ := eight_cells R0
      obtain ⟨r0, r1, r2, r3, r4, r5, r6, r7, r8, r9⟩ := ten_cells R1
      have y0 := lt_heapV R0
      have y1 := lt_heapV R1
      clear R0 R1 hsz hB
      go_upto_region 3 with (go_at_call 8; refine (HFY.out _ HFW.out).mono ?_; rintro e w2 ⟨rfl, hb2⟩)
      have HB2 := Lib.hid (below_on HB.out hb2)
      have HS0 := Lib.hid ((hb2.block _ y0).trans HR0.out)
      have HS1 := Lib.hid ((hb2.block _ y1).trans HR1.out)
      clear hb2 a0 a1 a2 a3 a4 a5 a6 a7 r0 r1 r2 r3 r4 r5 r6 r7 r8 r9
      obtain ⟨a0, a1, a2, a3, a4, a5, a6, a7⟩ := eight_cells HS0.out
      obtain ⟨r0, r1, r2, r3, r4, r5, r6, r7, r8, r9⟩ := ten_cells HS1.out
      have t0 := lt_heapV HS0.out
      have t1 := lt_heapV HS1.out
      go_upto_region 4 with (go_at_call 10; refine (HEX.out _ HB2.out).mono ?_; rintro e w5 ⟨⟨⟨cl5, me5, pc5, lk5, ii5, dr5⟩, ls5, ss5, lA5, lc5, sA5, sc5⟩, rfl, ho5, e51, e52, e53, hbb5, _, _⟩; dsimp only at e51 e52 e53 ho5; have e51 := congrArg (fun h => (h.cl, h.me, h.pc, h.lk, h.ii, h.dr)) e51.symm; dsimp only at e51; injection e51 with i1 e51; injection e51 with i2 e51; injection e51 with i3 e51; injection e51 with i4 e51; injection e51 with i5 i6; have e52 := e52.symm; have e53 := e53.symm; subst i1 i2 i3 i4 i5 i6 e52 e53; dsimp only [Ac.val]; rw [HN.out.1, HN.out.2])
      have x5 := World.alloc_heap_new w5 (.cells #[.int .i64 a.h.cl, .int .i64 a.h.me, .int .i64 a.h.pc, .slice lA5 n1 lc5, .slice sA5 n2 sc5, .int .i64 a.h.lk, .bool a.h.ii, .bool a.h.dr] 24)
      have hb5a := below_al (Below.refl w5.heap.size w5) (.cells #[.int .i64 a.h.cl, .int .i64 a.h.me, .int .i64 a.h.pc, .slice lA5 n1 lc5, .slice sA5 n2 sc5, .int .i64 a.h.lk, .bool a.h.ii, .bool a.h.dr] 24)
      generalize w5.alloc (.cells #[.int .i64 a.h.cl, .int .i64 a.h.me, .int .i64 a.h.pc, .slice lA5 n1 lc5, .slice sA5 n2 sc5, .int .i64 a.h.lk, .bool a.h.ii, .bool a.h.dr] 24) = W5 at x5 hb5a ⊢
      have K5 := Lib.hid (below_on hbb5 hb5a)
      have HU0 := Lib.hid ((K5.out.block _ t0).trans HS0.out)
      have HC5 := Lib.hid (below_on HB2.out K5.out)
      have HO5 := Lib.hid (And.intro (ho5.l.up hb5a) (ho5.s.up hb5a))
      have HA5 := Lib.hid (And.intro (HA.out.ok.l.up HC5.out) (HA.out.ok.s.up HC5.out))
      clear a0 a1 a2 a3 a4 a5 a6 a7 r0 r1 r2 r3 r4 r5 r6 r7 r8 r9 hb5a hbb5 ho5 t0 t1 y0 y1
      obtain ⟨a0, a1, a2, a3, a4, a5, a6, a7⟩ := eight_cells HU0.out
      obtain ⟨c0, c1, c2, c3, c4, c5, c6, c7⟩ := eight_cells x5
      have u0 := lt_heapV HU0.out
      have u5 := lt_heapV x5
      clear x5
      go_wp2_with (first | (go_at_call 12; refine (sa_yes _ _ _ _ _ _ HA5.out.1 HA5.out.2 HO5.out.1 HO5.out.2 HN.out.1 HN.out.2 (by omega) (by omega)).mono ?_; rintro e w8 ⟨rfl, hb8⟩) | (go_at_call 9; refine (awake42_any _).mono ?_; rintro e w9 ⟨rfl, hb9⟩))
      go_ret
      exact ⟨rfl, below_on (below_on HC5.out hb8) hb9⟩
  · go_enter Try.func5, Try.ntmps5
    go_upto_region 1 with fail
    have R0 := laid_old (o' := (.cells #[.int .i64 i.op, .int .i64 i.a, .int .i64 i.b, .int .i64 i.t, .slice i.kA i.kn i.kc, .slice i.tA i.tn i.tc, .string i.r1, .string i.r2, .string i.r3, .string i.s] 29)) (World.alloc_heap_new w (.cells #[.int .i64 a.h.cl, .int .i64 a.h.me, .int .i64 a.h.pc, .slice a.lA n1 a.lc, .slice a.sA n2 a.sc, .int .i64 a.h.lk, .bool a.h.ii, .bool a.h.dr] 24))
    have R1 := World.alloc_heap_new (w.alloc (.cells #[.int .i64 a.h.cl, .int .i64 a.h.me, .int .i64 a.h.pc, .slice a.lA n1 a.lc, .slice a.sA n2 a.sc, .int .i64 a.h.lk, .bool a.h.ii, .bool a.h.dr] 24)) (.cells #[.int .i64 i.op, .int .i64 i.a, .int .i64 i.b, .int .i64 i.t, .slice i.kA i.kn i.kc, .slice i.tA i.tn i.tc, .string i.r1, .string i.r2, .string i.r3, .string i.s] 29)
    have hsz : (w.alloc (.cells #[.int .i64 a.h.cl, .int .i64 a.h.me, .int .i64 a.h.pc, .slice a.lA n1 a.lc, .slice a.sA n2 a.sc, .int .i64 a.h.lk, .bool a.h.ii, .bool a.h.dr] 24)).heap.size = w.heap.size + 1 := by simp
    rw [hsz] at R1
    have hlt2 : w.heap.size + 2 ≤ ((w.alloc (.cells #[.int .i64 a.h.cl, .int .i64 a.h.me, .int .i64 a.h.pc, .slice a.lA n1 a.lc, .slice a.sA n2 a.sc, .int .i64 a.h.lk, .bool a.h.ii, .bool a.h.dr] 24)).alloc (.cells #[.int .i64 i.op, .int .i64 i.a, .int .i64 i.b, .int .i64 i.t, .slice i.kA i.kn i.kc, .slice i.tA i.tn i.tc, .string i.r1, .string i.r2, .string i.r3, .string i.s] 29)).heap.size := by simp
    have hB := below_al (below_al (Below.refl w.heap.size w) (.cells #[.int .i64 a.h.cl, .int .i64 a.h.me, .int .i64 a.h.pc, .slice a.lA n1 a.lc, .slice a.sA n2 a.sc, .int .i64 a.h.lk, .bool a.h.ii, .bool a.h.dr] 24)) (.cells #[.int .i64 i.op, .int .i64 i.a, .int .i64 i.b, .int .i64 i.t, .slice i.kA i.kn i.kc, .slice i.tA i.tn i.tc, .string i.r1, .string i.r2, .string i.r3, .string i.s] 29)
    generalize (w.alloc (.cells #[.int .i64 a.h.cl, .int .i64 a.h.me, .int .i64 a.h.pc, .slice a.lA n1 a.lc, .slice a.sA n2 a.sc, .int .i64 a.h.lk, .bool a.h.ii, .bool a.h.dr] 24)).alloc (.cells #[.int .i64 i.op, .int .i64 i.a, .int .i64 i.b, .int .i64 i.t, .slice i.kA i.kn i.kc, .slice i.tA i.tn i.tc, .string i.r1, .string i.r2, .string i.r3, .string i.s] 29) = W1 at R0 R1 hB hlt2 ⊢
    have HR0 := Lib.hid R0
    have HR1 := Lib.hid R1
    have HB := Lib.hid hB
    obtain ⟨a0, a1, a2, a3, a4, a5, a6, a7⟩ := eight_cells R0
    obtain ⟨r0, r1, r2, r3, r4, r5, r6, r7, r8, r9⟩ := ten_cells R1
    have y0 := lt_heapV R0
    have y1 := lt_heapV R1
    clear R0 R1 hsz hB
    have HFW := Lib.hid hf
    clear hf
    go_wp2_with (first | (go_at_call 8; refine (HFN.out _ HFW.out).mono ?_; rintro e w2 ⟨rfl, hb2⟩; have HB2 := Lib.hid (below_on HB.out hb2); clear hb2) | (go_at_call 9; refine (awake42_any _).mono ?_; rintro e w4 ⟨rfl, hb4⟩; have HB4 := Lib.hid (below_on HB2.out hb4); clear hb4))
    go_ret
    exact ⟨rfl, HB4.out⟩
end Go.Proofs.Ytgiglbjkijlchaa
