/- Layer 42: Run, walked. -/
import Derived.Test.YtgiglbjkijlchaaRu
namespace Go.Proofs.Ytgiglbjkijlchaa
open Go.ChangeShapes Go.WideShapes Go.ChangeAt Go.RowKit Go.PlainAid
set_option linter.unusedSimpArgs false
set_option linter.unusedVariables false

set_option maxRecDepth 100000 in
set_option maxHeartbeats 4000000 in
theorem run_any (a0 : Ac) (l : List In) (A : Option Addr) (ln lc : Nat) (most : Int) (w : World) (ha : a0.ok w) (hl : Ins w w.heap.size A l) (hln : l.length = ln) (hlc : ln ≤ 100000) (hfit : InsFit l) (hv1 : VsIn a0.ls) (hv2 : VsIn a0.ss) (hl1 : a0.ls.length ≤ 50000) (hl2 : a0.ss.length ≤ 50000) (hm : most ≤ 10000) :
    Calls Try.prog 15 #[(Value.agg #[Value.int IntKind.i64 (Hd8.cl a0.h), Value.int IntKind.i64 (Hd8.me a0.h), Value.int IntKind.i64 (Hd8.pc a0.h), ((.slice a0.lA a0.ls.length a0.lc)), ((.slice a0.sA a0.ss.length a0.sc)), Value.int IntKind.i64 (Hd8.lk a0.h), Value.bool (Hd8.ii a0.h), Value.bool (Hd8.dr a0.h)]), .slice A ln lc, .int .i64 most] w (RuRet a0 w (runS l most.toNat a0.sp)) := by
  have HA := Lib.hid ha
  have HL := Lib.hid hl
  have HLN := Lib.hid hln
  have HF := Lib.hid hfit
  have HV := Lib.hid (And.intro hv1 hv2)
  have HLL := Lib.hid (And.intro hl1 hl2)
  obtain ⟨n1, hn1⟩ : ∃ n, a0.ls.length = n := ⟨_, rfl⟩
  obtain ⟨n2, hn2⟩ : ∃ n, a0.ss.length = n := ⟨_, rfl⟩
  have HN1 := Lib.hid hn1
  have HN2 := Lib.hid hn2
  rw [hn1, hn2]
  clear ha hl hln hfit hv1 hv2 hl1 hl2 hn1 hn2
  obtain ⟨m, hmm⟩ : ∃ m, most.toNat = m := ⟨_, rfl⟩
  rw [hmm]
  have HM := Lib.hid hmm
  clear hmm
  go_enter Try.func15, Try.ntmps15
  go_upto_region 1 with fail
  have R0 := laid_old (o' := (.cells #[.int .i64 0, .int .i64 0, .int .i64 0, .slice none 0 0, .slice none 0 0, .int .i64 0, .bool false, .bool false] 24)) (World.alloc_heap_new w (.cells #[.int .i64 a0.h.cl, .int .i64 a0.h.me, .int .i64 a0.h.pc, .slice a0.lA n1 a0.lc, .slice a0.sA n2 a0.sc, .int .i64 a0.h.lk, .bool a0.h.ii, .bool a0.h.dr] 24))
  have R1 := World.alloc_heap_new (w.alloc (.cells #[.int .i64 a0.h.cl, .int .i64 a0.h.me, .int .i64 a0.h.pc, .slice a0.lA n1 a0.lc, .slice a0.sA n2 a0.sc, .int .i64 a0.h.lk, .bool a0.h.ii, .bool a0.h.dr] 24)) (.cells #[.int .i64 0, .int .i64 0, .int .i64 0, .slice none 0 0, .slice none 0 0, .int .i64 0, .bool false, .bool false] 24)
  have hsz : (w.alloc (.cells #[.int .i64 a0.h.cl, .int .i64 a0.h.me, .int .i64 a0.h.pc, .slice a0.lA n1 a0.lc, .slice a0.sA n2 a0.sc, .int .i64 a0.h.lk, .bool a0.h.ii, .bool a0.h.dr] 24)).heap.size = w.heap.size + 1 := by simp
  have hsz2 : ((w.alloc (.cells #[.int .i64 a0.h.cl, .int .i64 a0.h.me, .int .i64 a0.h.pc, .slice a0.lA n1 a0.lc, .slice a0.sA n2 a0.sc, .int .i64 a0.h.lk, .bool a0.h.ii, .bool a0.h.dr] 24)).alloc (.cells #[.int .i64 0, .int .i64 0, .int .i64 0, .slice none 0 0, .slice none 0 0, .int .i64 0, .bool false, .bool false] 24)).heap.size = w.heap.size + 2 := by simp
  rw [hsz] at R1
  have hB := below_al (below_al (Below.refl w.heap.size w) (.cells #[.int .i64 a0.h.cl, .int .i64 a0.h.me, .int .i64 a0.h.pc, .slice a0.lA n1 a0.lc, .slice a0.sA n2 a0.sc, .int .i64 a0.h.lk, .bool a0.h.ii, .bool a0.h.dr] 24)) (.cells #[.int .i64 0, .int .i64 0, .int .i64 0, .slice none 0 0, .slice none 0 0, .int .i64 0, .bool false, .bool false] 24)
  generalize (w.alloc (.cells #[.int .i64 a0.h.cl, .int .i64 a0.h.me, .int .i64 a0.h.pc, .slice a0.lA n1 a0.lc, .slice a0.sA n2 a0.sc, .int .i64 a0.h.lk, .bool a0.h.ii, .bool a0.h.dr] 24)).alloc (.cells #[.int .i64 0, .int .i64 0, .int .i64 0, .slice none 0 0, .slice none 0 0, .int .i64 0, .bool false, .bool false] 24) = W at R0 R1 hB hsz2 ⊢
  have HB := Lib.hid hB
  have HR0 := Lib.hid R0
  have HR1 := Lib.hid R1
  clear R0 R1 hB hsz
  go_wp2
  go_loopw [9] (fun z wr => ∃ (k : Nat) (a : Ac), k ≤ m ∧ z = .int .i64 k ∧ RunInv w wr l a0 m k a ∧ w.heap.size + 2 ≤ wr.heap.size) (fun z _ => m - (intOf z).toNat)
  case atStart =>
    refine ⟨0, a0, Nat.zero_le _, rfl, ⟨?_, ⟨_, _, _, _, _, _, _, _, HR1.out⟩, ⟨HA.out.l.up HB.out, HA.out.s.up HB.out, HA.out.ll, HA.out.sl⟩, HB.out, HV.out.1, HV.out.2, ?_, ?_, Or.inl rfl, Or.inl ⟨rfl, rfl⟩, rfl, ?_⟩, by omega⟩
    · unfold Ac.obj; rw [HN1.out, HN2.out]; exact HR0.out
    · have := HLL.out.1; omega
    · have := HLL.out.2; have := HM.out; omega
    · rfl
  case round =>
    obtain ⟨k, a, hk, rfl, hI, hwr⟩ := hrel
    obtain ⟨⟨cl, me, pc, lk, ii, dr⟩, ls, ss, lA, lc, sA, sc⟩ := a
    have HI := Lib.hid hI
    obtain ⟨m1, hm1⟩ : ∃ n, ls.length = n := ⟨_, rfl⟩
    obtain ⟨m2, hm2⟩ : ∃ n, ss.length = n := ⟨_, rfl⟩
    have HM1 := Lib.hid hm1
    have HM2 := Lib.hid hm2
    have hbox := hI.box
    obtain ⟨x0, x1, x2, x3, x4, x5, x6, x7, hres⟩ := hI.res
    dsimp only [Ac.obj] at hbox
    rw [hm1, hm2] at hbox
    clear hI hm1 hm2
    obtain ⟨b0, b1, b2, b3, b4, b5, b6, b7⟩ := eight_cells hbox
    have f0 := fun j => frozV hbox j
    have f1 := fun j => frozV hres j
    have y0 := lt_heapV hbox
    have y1 := lt_heapV hres
    obtain ⟨z0, z1, z2, z3, z4, z5, z6, z7⟩ := eight_cells hres
    have HBX := Lib.hid hbox
    have HRS := Lib.hid hres
    clear hbox hres
    by_cases hlt : (k : Int) < most
    · by_cases hp : pc < 0
      · have HE := Lib.hid (show runS l (m - k) (Ac.sp ⟨⟨cl, me, pc, lk, ii, dr⟩, ls, ss, lA, lc, sA, sc⟩) = ((Ac.sp ⟨⟨cl, me, pc, lk, ii, dr⟩, ls, ss, lA, lc, sA, sc⟩), 0, 0) from runS_none (if_neg (by show ¬ (0 ≤ pc); omega)))
        go_wp2
        (try simp only [Exit.inBlock, Exit.then])
        obtain ⟨hs8, hg8⟩ := set_eight (w := wr) (B := w.heap.size + 1) (a := .int .i64 cl) (b := .int .i64 me) (c := .int .i64 pc) (d := .slice lA m1 lc) (e := .slice sA m2 sc) (f := .int .i64 lk) (g := .bool ii) (h := .bool dr) ⟨_, _, _, _, _, _, _, _, rfl⟩ HRS.out
        refine bodyPost_ret (ru_ret rfl rfl hs8 rfl) rfl ?_
        have hh := RunInv.end (HI.out) HA.out hg8 (HE.out)
        dsimp only [Ac.val] at hh
        rw [HM1.out, HM2.out] at hh
        exact hh
      · obtain ⟨p, rfl⟩ : ∃ p : Nat, pc = (p : Int) := ⟨pc.toNat, by omega⟩
        clear hp
        have hp0 : (0 : Int) ≤ (p : Int) := by omega
        by_cases hq : p < ln
        · have hq1 : (p : Int) < (ln : Int) := by omega
          obtain ⟨i, hi⟩ := get_someF (l := l) (k := p) (by rw [HLN.out]; exact hq)
          have HAT := Lib.hid (show insAt l (Sp.h (Ac.sp ⟨⟨cl, me, p, lk, ii, dr⟩, ls, ss, lA, lc, sA, sc⟩)).pc = some i from (if_pos hp0).trans hi)
          have hLr := (HL.out.below HI.out.bel).more HI.out.bel.size
          rcases hLr with h0 | ⟨g, o, rfl, hg, hc⟩
          · rw [h0] at hi; cases hi
          obtain ⟨iok, c0, c1, c2, c3, c4, c5, c6, c7, c8, c9⟩ := hc p i hi
          have hmem := List.mem_of_getElem? hi
          have hkn := HF.out.k i hmem
          have htn := HF.out.t i hmem
          have HRA := Lib.hid (HF.out.a i hmem)
          have IOK := Lib.hid iok
          clear hc hi iok hmem
          cases ho : ownI i with
          | false =>
            have HE := Lib.hid (show runS l (m - k) (Ac.sp ⟨⟨cl, me, p, lk, ii, dr⟩, ls, ss, lA, lc, sA, sc⟩) = ((Ac.sp ⟨⟨cl, me, p, lk, ii, dr⟩, ls, ss, lA, lc, sA, sc⟩), 0, 0) from runS_not HAT.out ho)
            unfold ownI at ho
            go_upto_region 4 with fail
            have hib := World.alloc_heap_new wr (.cells #[.int .i64 i.op, .int .i64 i.a, .int .i64 i.b, .int .i64 i.t, .slice i.kA i.kn i.kc, .slice i.tA i.tn i.tc, .string i.r1, .string i.r2, .string i.r3, .string i.s] 29)
            have hb4 := below_al (Below.refl wr.heap.size wr) (.cells #[.int .i64 i.op, .int .i64 i.a, .int .i64 i.b, .int .i64 i.t, .slice i.kA i.kn i.kc, .slice i.tA i.tn i.tc, .string i.r1, .string i.r2, .string i.r3, .string i.s] 29)
            generalize wr.alloc (.cells #[.int .i64 i.op, .int .i64 i.a, .int .i64 i.b, .int .i64 i.t, .slice i.kA i.kn i.kc, .slice i.tA i.tn i.tc, .string i.r1, .string i.r2, .string i.r3, .string i.s] 29) = w4 at hib hb4 ⊢
            have HI4 := Lib.hid (HI.out.up hb4)
            have HR4 := Lib.hid ((hb4.block _ y1).trans HRS.out)
            have HB4 := Lib.hid ((hb4.block _ y0).trans HBX.out)
            obtain ⟨r0, r1, r2, r3, r4, r5, r6, r7, r8, r9⟩ := ten_cells hib
            clear b0 b1 b2 b3 b4 b5 b6 b7 z0 z1 z2 z3 z4 z5 z6 z7 f0 f1 hib hb4 c0 c1 c2 c3 c4 c5 c6 c7 c8 c9
            obtain ⟨b0, b1, b2, b3, b4, b5, b6, b7⟩ := eight_cells HB4.out
            obtain ⟨z0, z1, z2, z3, z4, z5, z6, z7⟩ := eight_cells HR4.out
            have f0 := fun j => frozV HB4.out j
            have f1 := fun j => frozV HR4.out j
            cases hh : hdl i.op with
            | false =>
              clear ho
              go_wp2_with (go_at_call 13; refine (handles_any _ _).mono ?_; rintro e w5 ⟨rfl, rfl⟩; rw [hh])
              (try simp only [Exit.inBlock, Exit.then])
              obtain ⟨hs8, hg8⟩ := set_eight (w := w4) (B := w.heap.size + 1) (a := .int .i64 cl) (b := .int .i64 me) (c := .int .i64 p) (d := .slice lA m1 lc) (e := .slice sA m2 sc) (f := .int .i64 lk) (g := .bool ii) (h := .bool dr) ⟨_, _, _, _, _, _, _, _, rfl⟩ HR4.out
              refine bodyPost_ret (ru_ret rfl rfl hs8 rfl) rfl ?_
              have hh := RunInv.end (HI4.out) HA.out hg8 (HE.out)
              dsimp only [Ac.val] at hh
              rw [HM1.out, HM2.out] at hh
              exact hh
            | true =>
              rw [hh] at ho
              have h3 : i.op = 3 ∧ i.b ≠ 3 ∧ i.b ≠ 5 := by
                simp at ho
                exact ⟨by omega, by omega, by omega⟩
              obtain ⟨e3, hb1, hb2⟩ := h3
              rw [e3] at r0 hh
              clear ho
              have hq3 : (i.b != 3) = true := by simpa using hb1
              have hq5 : (i.b != 5) = true := by simpa using hb2
              go_wp2_with (go_at_call 13; refine (handles_any _ _).mono ?_; rintro e w5 ⟨rfl, rfl⟩; rw [hh])
              (try simp only [Exit.inBlock, Exit.then])
              obtain ⟨hs8, hg8⟩ := set_eight (w := w4) (B := w.heap.size + 1) (a := .int .i64 cl) (b := .int .i64 me) (c := .int .i64 p) (d := .slice lA m1 lc) (e := .slice sA m2 sc) (f := .int .i64 lk) (g := .bool ii) (h := .bool dr) ⟨_, _, _, _, _, _, _, _, rfl⟩ HR4.out
              refine bodyPost_ret (ru_ret rfl rfl hs8 rfl) rfl ?_
              have hh := RunInv.end (HI4.out) HA.out hg8 (HE.out)
              dsimp only [Ac.val] at hh
              rw [HM1.out, HM2.out] at hh
              exact hh
          | true =>
            have HO := Lib.hid ho
            have hh : hdl i.op = true := by unfold ownI at ho; revert ho; cases hdl i.op <;> simp
            have h3 : (i.op == 3) = false ∨ ((i.op == 3) = true ∧ (i.b != 3) = false) ∨ ((i.op == 3) = true ∧ (i.b != 3) = true ∧ (i.b != 5) = false) := by
              unfold ownI at ho
              rw [hh] at ho
              simp at ho ⊢
              omega
            clear ho
            go_upto_region 4 with fail
            have hib := World.alloc_heap_new wr (.cells #[.int .i64 i.op, .int .i64 i.a, .int .i64 i.b, .int .i64 i.t, .slice i.kA i.kn i.kc, .slice i.tA i.tn i.tc, .string i.r1, .string i.r2, .string i.r3, .string i.s] 29)
            have hb4 := below_al (Below.refl wr.heap.size wr) (.cells #[.int .i64 i.op, .int .i64 i.a, .int .i64 i.b, .int .i64 i.t, .slice i.kA i.kn i.kc, .slice i.tA i.tn i.tc, .string i.r1, .string i.r2, .string i.r3, .string i.s] 29)
            have hw4 : w.heap.size + 2 ≤ (wr.alloc (.cells #[.int .i64 i.op, .int .i64 i.a, .int .i64 i.b, .int .i64 i.t, .slice i.kA i.kn i.kc, .slice i.tA i.tn i.tc, .string i.r1, .string i.r2, .string i.r3, .string i.s] 29)).heap.size := by simp; omega
            generalize wr.alloc (.cells #[.int .i64 i.op, .int .i64 i.a, .int .i64 i.b, .int .i64 i.t, .slice i.kA i.kn i.kc, .slice i.tA i.tn i.tc, .string i.r1, .string i.r2, .string i.r3, .string i.s] 29) = w4 at hib hb4 hw4 ⊢
            have HI4 := Lib.hid (HI.out.up hb4)
            have HR4 := Lib.hid ((hb4.block _ y1).trans HRS.out)
            have HB4 := Lib.hid ((hb4.block _ y0).trans HBX.out)
            have IOK4 := Lib.hid (IOK.out.up hb4)
            have HBL4 := Lib.hid hb4
            obtain ⟨r0, r1, r2, r3, r4, r5, r6, r7, r8, r9⟩ := ten_cells hib
            clear b0 b1 b2 b3 b4 b5 b6 b7 z0 z1 z2 z3 z4 z5 z6 z7 f0 f1 hib hb4 c0 c1 c2 c3 c4 c5 c6 c7 c8 c9
            obtain ⟨b0, b1, b2, b3, b4, b5, b6, b7⟩ := eight_cells HB4.out
            have f0 := fun j => frozV HB4.out j
            have y4 := lt_heapV HB4.out
            have hlen1 : m1 ≤ 100000 := by rw [← HM1.out]; exact HI.out.l1
            have hlen2 : m2 ≤ 100000 := by have := HI.out.l2; rw [← HM2.out]; dsimp only at this; omega
            have CL := Lib.hid (exec_at (i := i) HM1.out HM2.out HI4.out.ok IOK4.out hlen1 hlen2 hkn htn HRA.out HI.out.v2)
            obtain ⟨er, her⟩ : ∃ er, execE i (Ac.sp ⟨⟨cl, me, p, lk, ii, dr⟩, ls, ss, lA, lc, sA, sc⟩) = er := ⟨_, rfl⟩
            have HER := Lib.hid her
            rw [show execE i ⟨⟨cl, me, (p : Int), lk, ii, dr⟩, ls, ss⟩ = er from her] at CL
            clear her
            rcases h3 with h3 | ⟨h3, h4⟩ | ⟨h3, h4, h5⟩
            all_goals go_upto_region 5 with (go_at_call 13; refine (handles_any _ _).mono ?_; rintro e w5 ⟨rfl, rfl⟩; rw [hh])
            all_goals clear h3 hh
            all_goals (try clear h4)
            all_goals (try clear h5)
            all_goals go_upto_region 6 with (go_at_call 10; refine CL.out.mono ?_; rintro e w5 ⟨a2, rfl, hok2, e1, e2, e3, hbel5, hnl, hns⟩; obtain ⟨⟨cl2, me2, pc2, lk2, ii2, dr2⟩, ls2, ss2, lA2, lc2, sA2, sc2⟩ := a2; obtain ⟨p1, hp1⟩ : ∃ n, ls2.length = n := ⟨_, rfl⟩; obtain ⟨p2, hp2⟩ : ∃ n, ss2.length = n := ⟨_, rfl⟩; dsimp only [Ac.val]; rw [hp1, hp2]; have HP1 := Lib.hid hp1; have HP2 := Lib.hid hp2; have HOK2 := Lib.hid hok2; have HE123 := Lib.hid (And.intro e1 (And.intro e2 e3)); have HBL5 := Lib.hid hbel5; have HNL := Lib.hid hnl; have HNS := Lib.hid hns; clear hp1 hp2 hok2 e1 e2 e3 hbel5 hnl hns)
            all_goals have R6 := World.alloc_heap_new w5 (.cells #[.int .i64 cl2, .int .i64 me2, .int .i64 pc2, .slice lA2 p1 lc2, .slice sA2 p2 sc2, .int .i64 lk2, .bool ii2, .bool dr2] 24)
            all_goals have hb6 := below_al (Below.refl w5.heap.size w5) (.cells #[.int .i64 cl2, .int .i64 me2, .int .i64 pc2, .slice lA2 p1 lc2, .slice sA2 p2 sc2, .int .i64 lk2, .bool ii2, .bool dr2] 24)
            all_goals generalize w5.alloc (.cells #[.int .i64 cl2, .int .i64 me2, .int .i64 pc2, .slice lA2 p1 lc2, .slice sA2 p2 sc2, .int .i64 lk2, .bool ii2, .bool dr2] 24) = w6 at R6 hb6 ⊢
            all_goals have h46 := below_on HBL5.out hb6
            all_goals have hz6 := h46.size
            all_goals have HI6 := Lib.hid (HI4.out.up h46)
            all_goals have HB6 := Lib.hid ((h46.block _ (lt_heapV HB4.out)).trans HB4.out)
            all_goals have HR6 := Lib.hid ((h46.block _ (lt_heapV HR4.out)).trans HR4.out)
            all_goals have HN6 := Lib.hid R6
            all_goals have HBL6 := Lib.hid hb6
            all_goals clear b0 b1 b2 b3 b4 b5 b6 b7 r0 r1 r2 r3 r4 r5 r6 r7 r8 r9 f0 R6 hb6 h46
            all_goals obtain ⟨b0, b1, b2, b3, b4, b5, b6, b7⟩ := eight_cells HB6.out
            all_goals have f0 := fun j => frozV HB6.out j
            all_goals have f1 := fun j => frozV HR6.out j
            all_goals obtain ⟨q0, q1, q2, q3, q4, q5, q6, q7⟩ := eight_cells HN6.out
            all_goals obtain ⟨z0, z1, z2, z3, z4, z5, z6, z7⟩ := eight_cells HR6.out
            all_goals have g0 := lt_heapV HB6.out
            all_goals have g1 := lt_heapV HR6.out
            all_goals have g2 := lt_heapV HN6.out
            all_goals have hkm : k < m := by have := HM.out; omega
            all_goals have HKM := Lib.hid (show m - k = (m - (k + 1)) + 1 by omega)
            all_goals
              by_cases he : er = 0
              · subst he
                go_wp2
                obtain ⟨hs8, hg8⟩ := set_eight (w := w6) (B := w.heap.size) (a := .int .i64 cl2) (b := .int .i64 me2) (c := .int .i64 pc2) (d := .slice lA2 p1 lc2) (e := .slice sA2 p2 sc2) (f := .int .i64 lk2) (g := .bool ii2) (h := .bool dr2) ⟨_, _, _, _, _, _, _, _, rfl⟩ HB6.out
                refine ⟨⟨k + 1, ⟨⟨cl2, me2, pc2, lk2, ii2, dr2⟩, ls2, ss2, lA2, lc2, sA2, sc2⟩, by omega, by go_num, ?_, ?_⟩, by simp [intOf]; omega⟩
                · refine HI.out.step HA.out hkm HF.out HAT.out HO.out HER.out HBL4.out HBL5.out HOK2.out HE123.out.1 HE123.out.2.1 HE123.out.2.2 HNL.out HNS.out HBL6.out hg8 ?_ (by omega)
                  unfold Ac.obj
                  dsimp only
                  rw [HP1.out, HP2.out]
                  exact hs8
                · have := hg8.size
                  omega
              · have hne : (er == 0) = false := by simpa using he
                have HE := Lib.hid (show runS l (m - k) (Ac.sp ⟨⟨cl, me, p, lk, ii, dr⟩, ls, ss, lA, lc, sA, sc⟩) = ((Ac.sp ⟨⟨cl, me, p, lk, ii, dr⟩, ls, ss, lA, lc, sA, sc⟩), 0, er) from by
                  have h9 := runS_err (l := l) (k := m - (k + 1)) HAT.out HO.out (by rw [HER.out]; exact he)
                  rw [HKM.out, h9, HER.out])
                clear q0 q1 q2 q3 q4 q5 q6 q7 g2 hlen1 hlen2 hkm hz6 hw4 hkn htn hp0 hq hq1 hlt hwr hk y0 y1 he
                go_wp2
                (try simp only [Exit.inBlock, Exit.then])
                obtain ⟨hs8, hg8⟩ := set_eight (w := w6) (B := w.heap.size + 1) (a := .int .i64 cl) (b := .int .i64 me) (c := .int .i64 p) (d := .slice lA m1 lc) (e := .slice sA m2 sc) (f := .int .i64 lk) (g := .bool ii) (h := .bool dr) ⟨_, _, _, _, _, _, _, _, rfl⟩ HR6.out
                refine bodyPost_ret (ru_ret rfl rfl hs8 rfl) rfl ?_
                have hh := RunInv.end (HI6.out) HA.out hg8 (HE.out)
                dsimp only [Ac.val] at hh
                rw [HM1.out, HM2.out] at hh
                exact hh
        · have hq2 : ¬ (p : Int) < (ln : Int) := by omega
          have HE := Lib.hid (show runS l (m - k) (Ac.sp ⟨⟨cl, me, p, lk, ii, dr⟩, ls, ss, lA, lc, sA, sc⟩) = ((Ac.sp ⟨⟨cl, me, p, lk, ii, dr⟩, ls, ss, lA, lc, sA, sc⟩), 0, 0) from runS_none ((if_pos hp0).trans (List.getElem?_eq_none (by have := HLN.out; show l.length ≤ (p : Int).toNat; omega))))
          go_wp2
          (try simp only [Exit.inBlock, Exit.then])
          obtain ⟨hs8, hg8⟩ := set_eight (w := wr) (B := w.heap.size + 1) (a := .int .i64 cl) (b := .int .i64 me) (c := .int .i64 p) (d := .slice lA m1 lc) (e := .slice sA m2 sc) (f := .int .i64 lk) (g := .bool ii) (h := .bool dr) ⟨_, _, _, _, _, _, _, _, rfl⟩ HRS.out
          refine bodyPost_ret (ru_ret rfl rfl hs8 rfl) rfl ?_
          have hh := RunInv.end (HI.out) HA.out hg8 (HE.out)
          dsimp only [Ac.val] at hh
          rw [HM1.out, HM2.out] at hh
          exact hh
    · have HE := Lib.hid (show runS l (m - k) (Ac.sp ⟨⟨cl, me, pc, lk, ii, dr⟩, ls, ss, lA, lc, sA, sc⟩) = ((Ac.sp ⟨⟨cl, me, pc, lk, ii, dr⟩, ls, ss, lA, lc, sA, sc⟩), 0, 0) from by
        have := HM.out
        rw [show m - k = 0 by omega]; rfl)
      go_wp2
      (try simp only [Exit.inBlock, Exit.then])
      obtain ⟨hs8, hg8⟩ := set_eight (w := wr) (B := w.heap.size + 1) (a := .int .i64 cl) (b := .int .i64 me) (c := .int .i64 pc) (d := .slice lA m1 lc) (e := .slice sA m2 sc) (f := .int .i64 lk) (g := .bool ii) (h := .bool dr) ⟨_, _, _, _, _, _, _, _, rfl⟩ HRS.out
      refine bodyPost_ret (ru_ret rfl rfl hs8 rfl) rfl ?_
      have hh := RunInv.end (HI.out) HA.out hg8 (HE.out)
      dsimp only [Ac.val] at hh
      rw [HM1.out, HM2.out] at hh
      exact hh
end Go.Proofs.Ytgiglbjkijlchaa
