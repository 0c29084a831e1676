/- Layer 42: the reference's Run, walked. -/
import Derived.Test.YtgiglbjkijlchaaLk
namespace Go.Proofs.Ytgiglbjkijlchaa
open Go.ChangeShapes Go.WideShapes Go.ChangeAt Go.RowKit Go.PlainAid
set_option linter.unusedSimpArgs false
set_option linter.unusedVariables false

theorem nz_off {w4 : World} {z : Obj} {A A2 : Option Addr} {L L2 : List Va} (h0 : VRow w4 A L) (k : Nz (w4.drew.alloc z) A L A2 L2) : ∀ g o s, A2 = some ⟨g, o, s⟩ → L2 ≠ [] → g ≠ w4.heap.size := by
  intro g o s hA hn
  rcases k with ⟨e, hL⟩ | k
  · rw [e] at hA
    rcases h0 with h0 | ⟨g2, o2, hA2, hg2, _⟩
    · exact absurd (hL h0) hn
    · rw [hA2] at hA
      injection hA with hA
      injection hA with e1 _ _
      omega
  · have h1 := k g o s hA
    have h2 : (w4.drew.alloc z).heap.size = w4.heap.size + 1 := by simp
    omega
theorem Nz.toA {w4 : World} {z : Obj} {A A2 : Option Addr} {L L2 : List Va} (k : Nz (w4.drew.alloc z) A L A2 L2) : Nz w4 A L A2 L2 := by
  rcases k with k | k
  · exact Or.inl k
  · refine Or.inr fun g o s e => ?_
    have h1 := k g o s e
    have h2 : (w4.drew.alloc z).heap.size = w4.heap.size + 1 := by simp
    omega
theorem grown_cell {w w' : World} {r : Nat} (hg : w.grownBy w' (some r)) {g j : Nat} (hl : g < w.heap.size) (hn : g ≠ r) : w'.cell? ⟨g, j, none⟩ = w.cell? ⟨g, j, none⟩ := by
  have := hg.block g hl (fun e => hn (Option.some.inj e))
  simp [World.cell?, this]
set_option maxRecDepth 100000 in
set_option maxHeartbeats 8000000 in
theorem rrun_any (a0 : Ac) (l : List In) (A : Option Addr) (ln lc : Nat) (most : Int) (w : World) (ha : a0.ok w) (hl : Ins w w.heap.size A l) (hln : l.length = ln) (hlc : ln ≤ 100000) (hfit : InsFit l) (hv1 : VsIn a0.ls) (hv2 : VsIn a0.ss) (hl1 : a0.ls.length ≤ 50000) (hl2 : a0.ss.length ≤ 50000) (hm : most ≤ 10000) :
    Calls Try.prog 16 #[(Value.agg #[Value.int IntKind.i64 (Hd8.cl a0.h), Value.int IntKind.i64 (Hd8.me a0.h), Value.int IntKind.i64 (Hd8.pc a0.h), ((.slice a0.lA a0.ls.length a0.lc)), ((.slice a0.sA a0.ss.length a0.sc)), Value.int IntKind.i64 (Hd8.lk a0.h), Value.bool (Hd8.ii a0.h), Value.bool (Hd8.dr a0.h)]), .slice A ln lc, .int .i64 most] w (RzRet a0 w (runS l most.toNat a0.sp)) := by
  have HA := Lib.hid ha
  have HL := Lib.hid hl
  have HLN := Lib.hid hln
  have HF := Lib.hid hfit
  have HV := Lib.hid (And.intro hv1 hv2)
  have HLL := Lib.hid (And.intro hl1 hl2)
  obtain ⟨n1, hn1⟩ : ∃ n, a0.ls.length = n := ⟨_, rfl⟩
  obtain ⟨n2, hn2⟩ : ∃ n, a0.ss.length = n := ⟨_, rfl⟩
  have HN1 := Lib.hid hn1
  have HN2 := Lib.hid hn2
  rw [hn1, hn2]
  clear ha hl hln hfit hv1 hv2 hl1 hl2 hn1 hn2
  obtain ⟨m, hmm⟩ : ∃ m, most.toNat = m := ⟨_, rfl⟩
  rw [hmm]
  have HM := Lib.hid hmm
  clear hmm
  go_enter Try.func16, Try.ntmps16
  go_upto_region 1 with fail
  have R0 := laid_old (o' := (.cells #[.int .i64 0, .int .i64 0, .int .i64 0, .slice none 0 0, .slice none 0 0, .int .i64 0, .bool false, .bool false] 24)) (World.alloc_heap_new w (.cells #[.int .i64 a0.h.cl, .int .i64 a0.h.me, .int .i64 a0.h.pc, .slice a0.lA n1 a0.lc, .slice a0.sA n2 a0.sc, .int .i64 a0.h.lk, .bool a0.h.ii, .bool a0.h.dr] 24))
  have R1 := World.alloc_heap_new (w.alloc (.cells #[.int .i64 a0.h.cl, .int .i64 a0.h.me, .int .i64 a0.h.pc, .slice a0.lA n1 a0.lc, .slice a0.sA n2 a0.sc, .int .i64 a0.h.lk, .bool a0.h.ii, .bool a0.h.dr] 24)) (.cells #[.int .i64 0, .int .i64 0, .int .i64 0, .slice none 0 0, .slice none 0 0, .int .i64 0, .bool false, .bool false] 24)
  have hsz : (w.alloc (.cells #[.int .i64 a0.h.cl, .int .i64 a0.h.me, .int .i64 a0.h.pc, .slice a0.lA n1 a0.lc, .slice a0.sA n2 a0.sc, .int .i64 a0.h.lk, .bool a0.h.ii, .bool a0.h.dr] 24)).heap.size = w.heap.size + 1 := by simp
  have hsz2 : ((w.alloc (.cells #[.int .i64 a0.h.cl, .int .i64 a0.h.me, .int .i64 a0.h.pc, .slice a0.lA n1 a0.lc, .slice a0.sA n2 a0.sc, .int .i64 a0.h.lk, .bool a0.h.ii, .bool a0.h.dr] 24)).alloc (.cells #[.int .i64 0, .int .i64 0, .int .i64 0, .slice none 0 0, .slice none 0 0, .int .i64 0, .bool false, .bool false] 24)).heap.size = w.heap.size + 2 := by simp
  rw [hsz] at R1
  have hB := below_al (below_al (Below.refl w.heap.size w) (.cells #[.int .i64 a0.h.cl, .int .i64 a0.h.me, .int .i64 a0.h.pc, .slice a0.lA n1 a0.lc, .slice a0.sA n2 a0.sc, .int .i64 a0.h.lk, .bool a0.h.ii, .bool a0.h.dr] 24)) (.cells #[.int .i64 0, .int .i64 0, .int .i64 0, .slice none 0 0, .slice none 0 0, .int .i64 0, .bool false, .bool false] 24)
  generalize (w.alloc (.cells #[.int .i64 a0.h.cl, .int .i64 a0.h.me, .int .i64 a0.h.pc, .slice a0.lA n1 a0.lc, .slice a0.sA n2 a0.sc, .int .i64 a0.h.lk, .bool a0.h.ii, .bool a0.h.dr] 24)).alloc (.cells #[.int .i64 0, .int .i64 0, .int .i64 0, .slice none 0 0, .slice none 0 0, .int .i64 0, .bool false, .bool false] 24) = W at R0 R1 hB hsz2 ⊢
  have HB := Lib.hid hB
  have HR0 := Lib.hid R0
  have HR1 := Lib.hid R1
  clear R0 R1 hB hsz
  go_wp2
  go_loopw [9] (fun z wr => ∃ (k : Nat) (a : Ac), k ≤ m ∧ z = .int .i64 k ∧ RunIz w wr l a0 m k a ∧ w.heap.size + 2 ≤ wr.heap.size) (fun z _ => m - (intOf z).toNat)
  case atStart =>
    refine ⟨0, a0, Nat.zero_le _, rfl, ⟨?_, ⟨_, _, _, _, _, _, _, _, HR1.out⟩, ⟨HA.out.l.up HB.out, HA.out.s.up HB.out, HA.out.ll, HA.out.sl⟩, HB.out, HV.out.1, HV.out.2, ?_, ?_, Or.inl ⟨rfl, id⟩, Or.inl ⟨rfl, id⟩, rfl, ?_⟩, by omega⟩
    · unfold Ac.obj; rw [HN1.out, HN2.out]; exact HR0.out
    · have := HLL.out.1; omega
    · have := HLL.out.2; have := HM.out; omega
    · rfl
  case round =>
    obtain ⟨k, a, hk, rfl, hI, hwr⟩ := hrel
    obtain ⟨⟨cl, me, pc, lk, ii, dr⟩, ls, ss, lA, lc, sA, sc⟩ := a
    have HI := Lib.hid hI
    obtain ⟨m1, hm1⟩ : ∃ n, ls.length = n := ⟨_, rfl⟩
    obtain ⟨m2, hm2⟩ : ∃ n, ss.length = n := ⟨_, rfl⟩
    have HM1 := Lib.hid hm1
    have HM2 := Lib.hid hm2
    have hbox := hI.box
    obtain ⟨x0, x1, x2, x3, x4, x5, x6, x7, hres⟩ := hI.res
    dsimp only [Ac.obj] at hbox
    rw [hm1, hm2] at hbox
    clear hI hm1 hm2
    obtain ⟨b0, b1, b2, b3, b4, b5, b6, b7⟩ := eight_cells hbox
    have f0 := fun j => frozV hbox j
    have f1 := fun j => frozV hres j
    have y0 := lt_heapV hbox
    have y1 := lt_heapV hres
    obtain ⟨z0, z1, z2, z3, z4, z5, z6, z7⟩ := eight_cells hres
    have HBX := Lib.hid hbox
    have HRS := Lib.hid hres
    clear hbox hres
    by_cases hlt : (k : Int) < most
    · by_cases hp : pc < 0
      · have HE := Lib.hid (show runS l (m - k) (Ac.sp ⟨⟨cl, me, pc, lk, ii, dr⟩, ls, ss, lA, lc, sA, sc⟩) = ((Ac.sp ⟨⟨cl, me, pc, lk, ii, dr⟩, ls, ss, lA, lc, sA, sc⟩), 0, 0) from runS_none (if_neg (by show ¬ (0 ≤ pc); omega)))
        go_wp2
        (try simp only [Exit.inBlock, Exit.then])
        obtain ⟨hs8, hg8⟩ := set_eight (w := wr) (B := w.heap.size + 1) (a := .int .i64 cl) (b := .int .i64 me) (c := .int .i64 pc) (d := .slice lA m1 lc) (e := .slice sA m2 sc) (f := .int .i64 lk) (g := .bool ii) (h := .bool dr) ⟨_, _, _, _, _, _, _, _, rfl⟩ HRS.out
        refine bodyPost_ret (ru_ret rfl rfl hs8 rfl) rfl ?_
        have hh := RunIz.end (HI.out) HA.out hg8 (HE.out)
        dsimp only [Ac.val] at hh
        rw [HM1.out, HM2.out] at hh
        exact hh
      · obtain ⟨p, rfl⟩ : ∃ p : Nat, pc = (p : Int) := ⟨pc.toNat, by omega⟩
        clear hp
        have hp0 : (0 : Int) ≤ (p : Int) := by omega
        by_cases hq : p < ln
        · have hq1 : (p : Int) < (ln : Int) := by omega
          obtain ⟨i, hi⟩ := get_someF (l := l) (k := p) (by rw [HLN.out]; exact hq)
          have HAT := Lib.hid (show insAt l (Sp.h (Ac.sp ⟨⟨cl, me, p, lk, ii, dr⟩, ls, ss, lA, lc, sA, sc⟩)).pc = some i from (if_pos hp0).trans hi)
          have hLr := (HL.out.below HI.out.bel).more HI.out.bel.size
          rcases hLr with h0 | ⟨g, o, rfl, hg, hc⟩
          · rw [h0] at hi; cases hi
          obtain ⟨iok, c0, c1, c2, c3, c4, c5, c6, c7, c8, c9⟩ := hc p i hi
          have hmem := List.mem_of_getElem? hi
          have hkn := HF.out.k i hmem
          have htn := HF.out.t i hmem
          have HRA := Lib.hid (HF.out.a i hmem)
          have IOK := Lib.hid iok
          have HCC := Lib.hid (And.intro c0 (And.intro c1 (And.intro c2 (And.intro c3 (And.intro c4 (And.intro c5 (And.intro c6 (And.intro c7 (And.intro c8 c9)))))))))
          clear hc hi iok hmem
          cases ho : ownI i with
          | false =>
            have HE := Lib.hid (show runS l (m - k) (Ac.sp ⟨⟨cl, me, p, lk, ii, dr⟩, ls, ss, lA, lc, sA, sc⟩) = ((Ac.sp ⟨⟨cl, me, p, lk, ii, dr⟩, ls, ss, lA, lc, sA, sc⟩), 0, 0) from runS_not HAT.out ho)
            go_wp2_with (go_at_call 23; refine (rown_any i _).mono ?_; rintro e w4 ⟨rfl, hb4⟩; rw [ho]; have hs4 := hb4.size; have HB4 := Lib.hid ((hb4.block _ y0).trans HBX.out); have HR4 := Lib.hid ((hb4.block _ y1).trans HRS.out); have HI4 := Lib.hid (HI.out.up hb4); obtain ⟨e0, e1, e2, e3, e4, e5, e6, e7⟩ := eight_cells HB4.out; obtain ⟨v0, v1, v2, v3, v4, v5, v6, v7⟩ := eight_cells HR4.out; have g0 := fun j => frozV HR4.out j; have g1 := fun j => frozV HB4.out j; have q0 := lt_heapV HB4.out; have q1 := lt_heapV HR4.out; have HBL4 := Lib.hid hb4; clear hb4)
            (try simp only [Exit.inBlock, Exit.then])
            obtain ⟨hs8, hg8⟩ := set_eight (w := w4) (B := w.heap.size + 1) (a := .int .i64 cl) (b := .int .i64 me) (c := .int .i64 p) (d := .slice lA m1 lc) (e := .slice sA m2 sc) (f := .int .i64 lk) (g := .bool ii) (h := .bool dr) ⟨_, _, _, _, _, _, _, _, rfl⟩ HR4.out
            refine bodyPost_ret (ru_ret rfl rfl hs8 rfl) rfl ?_
            have hh := RunIz.end (HI4.out) HA.out hg8 (HE.out)
            dsimp only [Ac.val] at hh
            rw [HM1.out, HM2.out] at hh
            exact hh
          | true =>
            have HO := Lib.hid ho
            go_upto_region 3 with (go_at_call 23; refine (rown_any i _).mono ?_; rintro e w4 ⟨rfl, hb4⟩; rw [ho]; have hs4 := hb4.size; have HB4 := Lib.hid ((hb4.block _ y0).trans HBX.out); have HR4 := Lib.hid ((hb4.block _ y1).trans HRS.out); have HI4 := Lib.hid (HI.out.up hb4); obtain ⟨e0, e1, e2, e3, e4, e5, e6, e7⟩ := eight_cells HB4.out; obtain ⟨v0, v1, v2, v3, v4, v5, v6, v7⟩ := eight_cells HR4.out; have g0 := fun j => frozV HR4.out j; have g1 := fun j => frozV HB4.out j; have q0 := lt_heapV HB4.out; have q1 := lt_heapV HR4.out; have HBL4 := Lib.hid hb4; clear hb4)
            have HD := Lib.hid (fun (j : Nat) => (HBL4.out.cell (p := ⟨g, j, none⟩) hg))
            have hgl : g < w4.heap.size := by omega
            obtain ⟨cc0, cc1, cc2, cc3, cc4, cc5, cc6, cc7, cc8, cc9⟩ := HCC.out
            have d0 := (HD.out _).trans cc0
            have d1 := (HD.out _).trans cc1
            have d2 := (HD.out _).trans cc2
            have d3 := (HD.out _).trans cc3
            have d4 := (HD.out _).trans cc4
            have d5 := (HD.out _).trans cc5
            have d6 := (HD.out _).trans cc6
            have d7 := (HD.out _).trans cc7
            have d8 := (HD.out _).trans cc8
            have d9 := (HD.out _).trans cc9
            have hlen1 : m1 ≤ 100000 := by rw [← HM1.out]; exact HI.out.l1
            have hlen2 : m2 ≤ 100000 := by have := HI.out.l2; rw [← HM2.out]; dsimp only at this; omega
            have CL := Lib.hid (fun (W : World) (h : Below w4.heap.size w4 W) => exec_atR (i := i) HM1.out HM2.out (HI4.out.up h).ok (IOK.out.up (below_on HBL4.out h)) hlen1 hlen2 hkn htn HRA.out HI.out.v1 HI.out.v2)
            obtain ⟨er, her⟩ : ∃ er, execE i (Ac.sp ⟨⟨cl, me, p, lk, ii, dr⟩, ls, ss, lA, lc, sA, sc⟩) = er := ⟨_, rfl⟩
            have HER := Lib.hid her
            rw [show execE i ⟨⟨cl, me, (p : Int), lk, ii, dr⟩, ls, ss⟩ = er from her] at CL
            clear her
            have KS := Lib.hid (fun (w' : World) (hb : Below w4.heap.size w4 w') => show (fun (w' : World) => w'.cell? ⟨w.heap.size, 0, none⟩ = some (.int .i64 cl) ∧ w'.cell? ⟨w.heap.size, 1, none⟩ = some (.int .i64 me) ∧ w'.cell? ⟨w.heap.size, 2, none⟩ = some (.int .i64 (p : Int)) ∧ w'.cell? ⟨w.heap.size, 3, none⟩ = some (.slice lA m1 lc) ∧ w'.cell? ⟨w.heap.size, 4, none⟩ = some (.slice sA m2 sc) ∧ w'.cell? ⟨w.heap.size, 5, none⟩ = some (.int .i64 lk) ∧ w'.cell? ⟨w.heap.size, 6, none⟩ = some (.bool ii) ∧ w'.cell? ⟨w.heap.size, 7, none⟩ = some (.bool dr) ∧ w'.cell? ⟨g, o + p * 10, none⟩ = some (.int .i64 i.op) ∧ w'.cell? ⟨g, o + p * 10 + 1, none⟩ = some (.int .i64 i.a) ∧ w'.cell? ⟨g, o + p * 10 + 2, none⟩ = some (.int .i64 i.b) ∧ w'.cell? ⟨g, o + p * 10 + 3, none⟩ = some (.int .i64 i.t) ∧ w'.cell? ⟨g, o + p * 10 + 4, none⟩ = some (.slice i.kA i.kn i.kc) ∧ w'.cell? ⟨g, o + p * 10 + 5, none⟩ = some (.slice i.tA i.tn i.tc) ∧ w'.cell? ⟨g, o + p * 10 + 6, none⟩ = some (.string i.r1) ∧ w'.cell? ⟨g, o + p * 10 + 7, none⟩ = some (.string i.r2) ∧ w'.cell? ⟨g, o + p * 10 + 8, none⟩ = some (.string i.r3) ∧ w'.cell? ⟨g, o + p * 10 + 9, none⟩ = some (.string i.s) ∧ Below w4.heap.size w4 w') w' from ⟨(hb.cell (p := ⟨w.heap.size, 0, none⟩) q0).trans e0, (hb.cell (p := ⟨w.heap.size, 1, none⟩) q0).trans e1, (hb.cell (p := ⟨w.heap.size, 2, none⟩) q0).trans e2, (hb.cell (p := ⟨w.heap.size, 3, none⟩) q0).trans e3, (hb.cell (p := ⟨w.heap.size, 4, none⟩) q0).trans e4, (hb.cell (p := ⟨w.heap.size, 5, none⟩) q0).trans e5, (hb.cell (p := ⟨w.heap.size, 6, none⟩) q0).trans e6, (hb.cell (p := ⟨w.heap.size, 7, none⟩) q0).trans e7, (hb.cell (p := ⟨g, o + p * 10, none⟩) hgl).trans d0, (hb.cell (p := ⟨g, o + p * 10 + 1, none⟩) hgl).trans d1, (hb.cell (p := ⟨g, o + p * 10 + 2, none⟩) hgl).trans d2, (hb.cell (p := ⟨g, o + p * 10 + 3, none⟩) hgl).trans d3, (hb.cell (p := ⟨g, o + p * 10 + 4, none⟩) hgl).trans d4, (hb.cell (p := ⟨g, o + p * 10 + 5, none⟩) hgl).trans d5, (hb.cell (p := ⟨g, o + p * 10 + 6, none⟩) hgl).trans d6, (hb.cell (p := ⟨g, o + p * 10 + 7, none⟩) hgl).trans d7, (hb.cell (p := ⟨g, o + p * 10 + 8, none⟩) hgl).trans d8, (hb.cell (p := ⟨g, o + p * 10 + 9, none⟩) hgl).trans d9, hb⟩)
            clear c0 c1 c2 c3 c4 c5 c6 c7 c8 c9 cc0 cc1 cc2 cc3 cc4 cc5 cc6 cc7 cc8 cc9 b0 b1 b2 b3 b4 b5 b6 b7 z0 z1 z2 z3 z4 z5 z6 z7 f0 f1 e0 e1 e2 e3 e4 e5 e6 e7 v0 v1 v2 v3 v4 v5 v6 v7 g0 g1 d0 d1 d2 d3 d4 d5 d6 d7 d8 d9 ho
            refine regN_start (N := 12) (S := (fun (w' : World) => w'.cell? ⟨w.heap.size, 0, none⟩ = some (.int .i64 cl) ∧ w'.cell? ⟨w.heap.size, 1, none⟩ = some (.int .i64 me) ∧ w'.cell? ⟨w.heap.size, 2, none⟩ = some (.int .i64 (p : Int)) ∧ w'.cell? ⟨w.heap.size, 3, none⟩ = some (.slice lA m1 lc) ∧ w'.cell? ⟨w.heap.size, 4, none⟩ = some (.slice sA m2 sc) ∧ w'.cell? ⟨w.heap.size, 5, none⟩ = some (.int .i64 lk) ∧ w'.cell? ⟨w.heap.size, 6, none⟩ = some (.bool ii) ∧ w'.cell? ⟨w.heap.size, 7, none⟩ = some (.bool dr) ∧ w'.cell? ⟨g, o + p * 10, none⟩ = some (.int .i64 i.op) ∧ w'.cell? ⟨g, o + p * 10 + 1, none⟩ = some (.int .i64 i.a) ∧ w'.cell? ⟨g, o + p * 10 + 2, none⟩ = some (.int .i64 i.b) ∧ w'.cell? ⟨g, o + p * 10 + 3, none⟩ = some (.int .i64 i.t) ∧ w'.cell? ⟨g, o + p * 10 + 4, none⟩ = some (.slice i.kA i.kn i.kc) ∧ w'.cell? ⟨g, o + p * 10 + 5, none⟩ = some (.slice i.tA i.tn i.tc) ∧ w'.cell? ⟨g, o + p * 10 + 6, none⟩ = some (.string i.r1) ∧ w'.cell? ⟨g, o + p * 10 + 7, none⟩ = some (.string i.r2) ∧ w'.cell? ⟨g, o + p * 10 + 8, none⟩ = some (.string i.r3) ∧ w'.cell? ⟨g, o + p * 10 + 9, none⟩ = some (.string i.s) ∧ Below w4.heap.size w4 w')) (by kernel_rfl) ?_
            change wpAnyN _ _ _ _ _ _ _ #[false, false, false, false, false, false, false, false, false, false, false, false, false] _ (World.drew _)
            have hS0 := KS.out _ (Below.refl w4.heap.size w4).drew
            refine regN_take (i := 0) (d := (some 36)) (v := ?v3x1) (l2 := #[true, false, false, false, false, false, false, false, false, false, false, false, false]) rfl rfl rfl (by kernel_rfl) (by kernel_rfl) (by kernel_rfl) (by kernel_rfl) (fun _ _ _ h => h) (by rfl) ?hv3x1 hS0 ?h3x1
            case hv3x1 => intro u hSu; (try dsimp only at hSu); (try go_split_ands); go_simp; (try with_reducible rfl)
            (try simp only [Act.put, List.setIfInBounds_toArray, List.set_cons_zero, List.set_cons_succ])
            refine regN_take (i := 1) (d := (some 37)) (v := ?v3x2) (l2 := #[true, true, false, false, false, false, false, false, false, false, false, false, false]) rfl rfl rfl (by kernel_rfl) (by kernel_rfl) (by kernel_rfl) (by kernel_rfl) (fun _ _ _ h => h) (by rfl) ?hv3x2 hS0 ?h3x2
            case hv3x2 => intro u hSu; clear hSu; go_simp; (try with_reducible rfl)
            (try simp only [Act.put, List.setIfInBounds_toArray, List.set_cons_zero, List.set_cons_succ])
            refine regN_take (i := 2) (d := (some 38)) (v := ?v3x3) (l2 := #[true, true, true, false, false, false, false, false, false, false, false, false, false]) rfl rfl rfl (by kernel_rfl) (by kernel_rfl) (by kernel_rfl) (by kernel_rfl) (fun _ _ _ h => h) (by rfl) ?hv3x3 hS0 ?h3x3
            case hv3x3 => intro u hSu; clear hSu; go_simp; (try with_reducible rfl)
            (try simp only [Act.put, List.setIfInBounds_toArray, List.set_cons_zero, List.set_cons_succ])
            refine regN_take (i := 3) (d := (some 39)) (v := ?v3x4) (l2 := #[true, true, true, true, false, false, false, false, false, false, false, false, false]) rfl rfl rfl (by kernel_rfl) (by kernel_rfl) (by kernel_rfl) (by kernel_rfl) (fun _ _ _ h => h) (by rfl) ?hv3x4 hS0 ?h3x4
            case hv3x4 => intro u hSu; (try dsimp only at hSu); (try go_split_ands); go_simp; (try with_reducible rfl)
            (try simp only [Act.put, List.setIfInBounds_toArray, List.set_cons_zero, List.set_cons_succ])
            refine regN_take (i := 4) (d := (some 40)) (v := ?v3x5) (l2 := #[true, true, true, true, true, false, false, false, false, false, false, false, false]) rfl rfl rfl (by kernel_rfl) (by kernel_rfl) (by kernel_rfl) (by kernel_rfl) (fun _ _ _ h => h) (by rfl) ?hv3x5 hS0 ?h3x5
            case hv3x5 => intro u hSu; clear hSu; go_simp; (try with_reducible rfl)
            (try simp only [Act.put, List.setIfInBounds_toArray, List.set_cons_zero, List.set_cons_succ])
            refine regN_take (i := 5) (d := (some 41)) (v := ?v3x6) (l2 := #[true, true, true, true, true, true, false, false, false, false, false, false, false]) rfl rfl rfl (by kernel_rfl) (by kernel_rfl) (by kernel_rfl) (by kernel_rfl) (fun _ _ _ h => h) (by rfl) ?hv3x6 hS0 ?h3x6
            case hv3x6 => intro u hSu; (try dsimp only at hSu); (try go_split_ands); go_simp; (try with_reducible rfl)
            (try simp only [Act.put, List.setIfInBounds_toArray, List.set_cons_zero, List.set_cons_succ])
            refine regN_ready (rs := [6, 10]) (by kernel_rfl) (by simp) ?_
            refine (AllN.cons (i := 6) (l2 := #[true, true, true, true, true, true, true, false, false, false, false, false, false]) rfl rfl (fun K hK => ?_) (AllN.cons (i := 10) (l2 := #[true, true, true, true, true, true, false, false, false, false, true, false, false]) rfl rfl (fun K hK => ?_) AllN.nil))
            · go_simp
              go_at_call 11
              refine (CL.out _ (Below.refl w4.heap.size w4).drew).mono ?_
              rintro e w5 ⟨⟨⟨cl2, me2, pc2, lk2, ii2, dr2⟩, ls2, ss2, lA2, lc2, sA2, sc2⟩, rfl, hok2, e21, e22, e23, hbel5, hnl, hns⟩
              obtain ⟨p1, hp1⟩ : ∃ n, ls2.length = n := ⟨_, rfl⟩
              obtain ⟨p2, hp2⟩ : ∃ n, ss2.length = n := ⟨_, rfl⟩
              dsimp only [Ac.val]
              rw [hp1, hp2]
              have HP1 := Lib.hid hp1
              have HP2 := Lib.hid hp2
              have HOK2 := Lib.hid hok2
              have HE123 := Lib.hid (And.intro e21 (And.intro e22 e23))
              have HB45 := Lib.hid (show Below w4.heap.size w4 w5 from (Below.refl w4.heap.size w4).drew.trans (hbel5.mono (by simp)))
              have HBC := Lib.hid hbel5
              have HNL := Lib.hid hnl
              have HNS := Lib.hid hns
              clear hp1 hp2 hok2 e21 e22 e23 hbel5 hnl hns
              go_simp
              have hS1 : ((fun (w' : World) => w'.cell? ⟨w.heap.size, 0, none⟩ = some (.int .i64 cl) ∧ w'.cell? ⟨w.heap.size, 1, none⟩ = some (.int .i64 me) ∧ w'.cell? ⟨w.heap.size, 2, none⟩ = some (.int .i64 (p : Int)) ∧ w'.cell? ⟨w.heap.size, 3, none⟩ = some (.slice lA m1 lc) ∧ w'.cell? ⟨w.heap.size, 4, none⟩ = some (.slice sA m2 sc) ∧ w'.cell? ⟨w.heap.size, 5, none⟩ = some (.int .i64 lk) ∧ w'.cell? ⟨w.heap.size, 6, none⟩ = some (.bool ii) ∧ w'.cell? ⟨w.heap.size, 7, none⟩ = some (.bool dr) ∧ w'.cell? ⟨g, o + p * 10, none⟩ = some (.int .i64 i.op) ∧ w'.cell? ⟨g, o + p * 10 + 1, none⟩ = some (.int .i64 i.a) ∧ w'.cell? ⟨g, o + p * 10 + 2, none⟩ = some (.int .i64 i.b) ∧ w'.cell? ⟨g, o + p * 10 + 3, none⟩ = some (.int .i64 i.t) ∧ w'.cell? ⟨g, o + p * 10 + 4, none⟩ = some (.slice i.kA i.kn i.kc) ∧ w'.cell? ⟨g, o + p * 10 + 5, none⟩ = some (.slice i.tA i.tn i.tc) ∧ w'.cell? ⟨g, o + p * 10 + 6, none⟩ = some (.string i.r1) ∧ w'.cell? ⟨g, o + p * 10 + 7, none⟩ = some (.string i.r2) ∧ w'.cell? ⟨g, o + p * 10 + 8, none⟩ = some (.string i.r3) ∧ w'.cell? ⟨g, o + p * 10 + 9, none⟩ = some (.string i.s) ∧ Below w4.heap.size w4 w') : World → Prop) _ := KS.out _ HB45.out
              refine hK _ _ (fun _ => hS1) ?_
              clear hK K
              (try simp only [Act.put, List.setIfInBounds_toArray, List.set_cons_zero, List.set_cons_succ])
              refine regN_take (i := 7) (d := (some 35)) (v := ?v3x7) (l2 := #[true, true, true, true, true, true, true, true, false, false, false, false, false]) rfl rfl rfl (by kernel_rfl) (by kernel_rfl) (by kernel_rfl) (by kernel_rfl) (fun _ _ _ h => h) (by rfl) ?hv3x7 hS1 ?h3x7
              case hv3x7 => intro u hSu; clear hSu; go_simp; (try with_reducible rfl)
              (try simp only [Act.put, List.setIfInBounds_toArray, List.set_cons_zero, List.set_cons_succ])
              refine regN_take (i := 8) (d := (some 43)) (v := ?v3x8) (l2 := #[true, true, true, true, true, true, true, true, true, false, false, false, false]) rfl rfl rfl (by kernel_rfl) (by kernel_rfl) (by kernel_rfl) (by kernel_rfl) (fun _ _ _ h => h) (by rfl) ?hv3x8 hS1 ?h3x8
              case hv3x8 => intro u hSu; clear hSu; go_simp; (try with_reducible rfl)
              (try simp only [Act.put, List.setIfInBounds_toArray, List.set_cons_zero, List.set_cons_succ])
              refine regN_take (i := 9) (d := (some 44)) (v := ?v3x9) (l2 := #[true, true, true, true, true, true, true, true, true, true, false, false, false]) rfl rfl rfl (by kernel_rfl) (by kernel_rfl) (by kernel_rfl) (by kernel_rfl) (fun _ _ _ h => h) (by rfl) ?hv3x9 hS1 ?h3x9
              case hv3x9 => intro u hSu; clear hSu; go_simp; (try with_reducible rfl)
              (try simp only [Act.put, List.setIfInBounds_toArray, List.set_cons_zero, List.set_cons_succ])
              refine regN_ready (rs := [10]) (by kernel_rfl) (by simp) ?_
              refine (AllN.cons (i := 10) (l2 := #[true, true, true, true, true, true, true, true, true, true, true, false, false]) rfl rfl (fun K hK => ?_) AllN.nil)
              go_simp
              have hS2 : ((fun (w' : World) => w'.cell? ⟨w.heap.size, 0, none⟩ = some (.int .i64 cl) ∧ w'.cell? ⟨w.heap.size, 1, none⟩ = some (.int .i64 me) ∧ w'.cell? ⟨w.heap.size, 2, none⟩ = some (.int .i64 (p : Int)) ∧ w'.cell? ⟨w.heap.size, 3, none⟩ = some (.slice lA m1 lc) ∧ w'.cell? ⟨w.heap.size, 4, none⟩ = some (.slice sA m2 sc) ∧ w'.cell? ⟨w.heap.size, 5, none⟩ = some (.int .i64 lk) ∧ w'.cell? ⟨w.heap.size, 6, none⟩ = some (.bool ii) ∧ w'.cell? ⟨w.heap.size, 7, none⟩ = some (.bool dr) ∧ w'.cell? ⟨g, o + p * 10, none⟩ = some (.int .i64 i.op) ∧ w'.cell? ⟨g, o + p * 10 + 1, none⟩ = some (.int .i64 i.a) ∧ w'.cell? ⟨g, o + p * 10 + 2, none⟩ = some (.int .i64 i.b) ∧ w'.cell? ⟨g, o + p * 10 + 3, none⟩ = some (.int .i64 i.t) ∧ w'.cell? ⟨g, o + p * 10 + 4, none⟩ = some (.slice i.kA i.kn i.kc) ∧ w'.cell? ⟨g, o + p * 10 + 5, none⟩ = some (.slice i.tA i.tn i.tc) ∧ w'.cell? ⟨g, o + p * 10 + 6, none⟩ = some (.string i.r1) ∧ w'.cell? ⟨g, o + p * 10 + 7, none⟩ = some (.string i.r2) ∧ w'.cell? ⟨g, o + p * 10 + 8, none⟩ = some (.string i.r3) ∧ w'.cell? ⟨g, o + p * 10 + 9, none⟩ = some (.string i.s) ∧ Below w4.heap.size w4 w') : World → Prop) _ := KS.out _ (below_al HB45.out (.cells #[.int .i64 0, .int .i64 0, .int .i64 0, .slice none 0 0, .slice none 0 0, .int .i64 0, .bool false, .bool false] 24))
              refine hK _ _ (fun _ => hS2) ?_
              clear hK K
              (try simp only [Act.put, List.setIfInBounds_toArray, List.set_cons_zero, List.set_cons_succ])
              refine regN_ready (rs := [11]) (by kernel_rfl) (by simp) ?_
              refine (AllN.cons (i := 11) (l2 := #[true, true, true, true, true, true, true, true, true, true, true, true, false]) rfl rfl (fun K hK => ?_) AllN.nil)
              have hn := World.alloc_heap_new w5 (.cells #[.int .i64 0, .int .i64 0, .int .i64 0, .slice none 0 0, .slice none 0 0, .int .i64 0, .bool false, .bool false] 24)
              obtain ⟨n0, n1, n2, n3, n4, n5, n6, n7⟩ := eight_cells hn
              have nf := fun j => frozV hn j
              have nl := lt_heapV hn
              go_simp
              have hS3 : ((fun (w' : World) => w'.cell? ⟨w.heap.size, 0, none⟩ = some (.int .i64 cl) ∧ w'.cell? ⟨w.heap.size, 1, none⟩ = some (.int .i64 me) ∧ w'.cell? ⟨w.heap.size, 2, none⟩ = some (.int .i64 (p : Int)) ∧ w'.cell? ⟨w.heap.size, 3, none⟩ = some (.slice lA m1 lc) ∧ w'.cell? ⟨w.heap.size, 4, none⟩ = some (.slice sA m2 sc) ∧ w'.cell? ⟨w.heap.size, 5, none⟩ = some (.int .i64 lk) ∧ w'.cell? ⟨w.heap.size, 6, none⟩ = some (.bool ii) ∧ w'.cell? ⟨w.heap.size, 7, none⟩ = some (.bool dr) ∧ w'.cell? ⟨g, o + p * 10, none⟩ = some (.int .i64 i.op) ∧ w'.cell? ⟨g, o + p * 10 + 1, none⟩ = some (.int .i64 i.a) ∧ w'.cell? ⟨g, o + p * 10 + 2, none⟩ = some (.int .i64 i.b) ∧ w'.cell? ⟨g, o + p * 10 + 3, none⟩ = some (.int .i64 i.t) ∧ w'.cell? ⟨g, o + p * 10 + 4, none⟩ = some (.slice i.kA i.kn i.kc) ∧ w'.cell? ⟨g, o + p * 10 + 5, none⟩ = some (.slice i.tA i.tn i.tc) ∧ w'.cell? ⟨g, o + p * 10 + 6, none⟩ = some (.string i.r1) ∧ w'.cell? ⟨g, o + p * 10 + 7, none⟩ = some (.string i.r2) ∧ w'.cell? ⟨g, o + p * 10 + 8, none⟩ = some (.string i.r3) ∧ w'.cell? ⟨g, o + p * 10 + 9, none⟩ = some (.string i.s) ∧ Below w4.heap.size w4 w') : World → Prop) _ := KS.out _ (below_al HB45.out (.cells #[.int .i64 cl2, .int .i64 me2, .int .i64 pc2, .slice lA2 p1 lc2, .slice sA2 p2 sc2, .int .i64 lk2, .bool ii2, .bool dr2] 24))
              refine hK _ _ (fun _ => hS3) ?_
              clear hK K
              (try simp only [Act.put, List.setIfInBounds_toArray, List.set_cons_zero, List.set_cons_succ])
              refine regN_ready (rs := [12]) (by kernel_rfl) (by simp) ?_
              refine (AllN.cons (i := 12) (l2 := #[true, true, true, true, true, true, true, true, true, true, true, true, true]) rfl rfl (fun K hK => ?_) AllN.nil)
              go_simp
              refine hK _ _ (fun h => absurd rfl h) ?_
              clear hK K
              (try simp only [Act.put, List.setIfInBounds_toArray, List.set_cons_zero, List.set_cons_succ])
              refine regN_done (by kernel_rfl) ?_ _
              have hnb := World.alloc_heap_new w5 (.cells #[.int .i64 cl2, .int .i64 me2, .int .i64 pc2, .slice lA2 p1 lc2, .slice sA2 p2 sc2, .int .i64 lk2, .bool ii2, .bool dr2] 24)
              have hb46 := below_al HB45.out (.cells #[.int .i64 cl2, .int .i64 me2, .int .i64 pc2, .slice lA2 p1 lc2, .slice sA2 p2 sc2, .int .i64 lk2, .bool ii2, .bool dr2] 24)
              have hb5 := below_al (Below.refl w5.heap.size w5) (.cells #[.int .i64 cl2, .int .i64 me2, .int .i64 pc2, .slice lA2 p1 lc2, .slice sA2 p2 sc2, .int .i64 lk2, .bool ii2, .bool dr2] 24)
              have hok6 : Ac.ok (w5.alloc (.cells #[.int .i64 cl2, .int .i64 me2, .int .i64 pc2, .slice lA2 p1 lc2, .slice sA2 p2 sc2, .int .i64 lk2, .bool ii2, .bool dr2] 24)) ⟨⟨cl2, me2, pc2, lk2, ii2, dr2⟩, ls2, ss2, lA2, lc2, sA2, sc2⟩ := ⟨HOK2.out.l.up hb5, HOK2.out.s.up hb5, HOK2.out.ll, HOK2.out.sl⟩
              generalize w5.alloc (.cells #[.int .i64 cl2, .int .i64 me2, .int .i64 pc2, .slice lA2 p1 lc2, .slice sA2 p2 sc2, .int .i64 lk2, .bool ii2, .bool dr2] 24) = w6 at hnb hb46 hok6 ⊢
              clear hb5
              clear hS0 hS1 hS2 hS3 KS nl nf n0 n1 n2 n3 n4 n5 n6 n7 CL HD
              have hz6 := hb46.size
              have HI6 := Lib.hid (HI4.out.up hb46)
              have HB6 := Lib.hid ((hb46.block _ q0).trans HB4.out)
              have HR6 := Lib.hid ((hb46.block _ q1).trans HR4.out)
              have HN6 := Lib.hid hnb
              have HBL6 := Lib.hid hb46
              have HOK6 := Lib.hid hok6
              have HBK := Lib.hid ((hb46.block _ q1).trans (HBL4.out.block _ y1))
              clear hnb hb46 hok6
              obtain ⟨t0, t1, t2, t3, t4, t5, t6, t7⟩ := eight_cells HB6.out
              have f0 := fun j => frozV HB6.out j
              have f1 := fun j => frozV HR6.out j
              obtain ⟨s0, s1, s2, s3, s4, s5, s6, s7⟩ := eight_cells HN6.out
              obtain ⟨z0, z1, z2, z3, z4, z5, z6, z7⟩ := eight_cells HR6.out
              have hkm : k < m := by have := HM.out; omega
              have HKM := Lib.hid (show m - k = (m - (k + 1)) + 1 by omega)
              by_cases he : er = 0
              · subst he
                go_wp2
                obtain ⟨hs8, hg8⟩ := set_eight (w := w6) (B := w.heap.size) (a := .int .i64 cl2) (b := .int .i64 me2) (c := .int .i64 pc2) (d := .slice lA2 p1 lc2) (e := .slice sA2 p2 sc2) (f := .int .i64 lk2) (g := .bool ii2) (h := .bool dr2) ⟨_, _, _, _, _, _, _, _, rfl⟩ HB6.out
                refine ⟨⟨k + 1, ⟨⟨cl2, me2, pc2, lk2, ii2, dr2⟩, ls2, ss2, lA2, lc2, sA2, sc2⟩, by omega, by go_num, ?_, ?_⟩, by simp [intOf]; omega⟩
                · refine HI.out.step (w2 := w4) HA.out hkm HF.out HAT.out HO.out HER.out HBL4.out.size HOK6.out HE123.out.1 HE123.out.2.1 HE123.out.2.2 HNL.out HNS.out (below_on HI4.out.bel HBL6.out) HBK.out hg8 ?_ (by omega)
                  unfold Ac.obj
                  dsimp only
                  rw [HP1.out, HP2.out]
                  exact hs8
                · have := hg8.size
                  omega
              · have hne : (er == 0) = false := by simpa using he
                have HE := Lib.hid (show runS l (m - k) (Ac.sp ⟨⟨cl, me, (p : Int), lk, ii, dr⟩, ls, ss, lA, lc, sA, sc⟩) = ((Ac.sp ⟨⟨cl, me, (p : Int), lk, ii, dr⟩, ls, ss, lA, lc, sA, sc⟩), 0, er) from by
                  have h9 := runS_err (l := l) (k := m - (k + 1)) HAT.out HO.out (by rw [HER.out]; exact he)
                  rw [HKM.out, h9, HER.out])
                clear s0 s1 s2 s3 s4 s5 s6 s7 hlen1 hlen2 hkm hz6 hkn htn hp0 hq hq1 hlt hwr hk y0 y1 he q0 q1 hgl
                go_wp2
                (try simp only [Exit.inBlock, Exit.then])
                obtain ⟨hs8, hg8⟩ := set_eight (w := w6) (B := w.heap.size + 1) (a := .int .i64 cl) (b := .int .i64 me) (c := .int .i64 (p : Int)) (d := .slice lA m1 lc) (e := .slice sA m2 sc) (f := .int .i64 lk) (g := .bool ii) (h := .bool dr) ⟨_, _, _, _, _, _, _, _, rfl⟩ HR6.out
                refine bodyPost_ret (ru_ret rfl rfl hs8 rfl) rfl ?_
                have hh := RunIz.end HI6.out HA.out hg8 HE.out
                dsimp only [Ac.val] at hh
                rw [HM1.out, HM2.out] at hh
                exact hh
            · go_simp
              have hS1 : ((fun (w' : World) => w'.cell? ⟨w.heap.size, 0, none⟩ = some (.int .i64 cl) ∧ w'.cell? ⟨w.heap.size, 1, none⟩ = some (.int .i64 me) ∧ w'.cell? ⟨w.heap.size, 2, none⟩ = some (.int .i64 (p : Int)) ∧ w'.cell? ⟨w.heap.size, 3, none⟩ = some (.slice lA m1 lc) ∧ w'.cell? ⟨w.heap.size, 4, none⟩ = some (.slice sA m2 sc) ∧ w'.cell? ⟨w.heap.size, 5, none⟩ = some (.int .i64 lk) ∧ w'.cell? ⟨w.heap.size, 6, none⟩ = some (.bool ii) ∧ w'.cell? ⟨w.heap.size, 7, none⟩ = some (.bool dr) ∧ w'.cell? ⟨g, o + p * 10, none⟩ = some (.int .i64 i.op) ∧ w'.cell? ⟨g, o + p * 10 + 1, none⟩ = some (.int .i64 i.a) ∧ w'.cell? ⟨g, o + p * 10 + 2, none⟩ = some (.int .i64 i.b) ∧ w'.cell? ⟨g, o + p * 10 + 3, none⟩ = some (.int .i64 i.t) ∧ w'.cell? ⟨g, o + p * 10 + 4, none⟩ = some (.slice i.kA i.kn i.kc) ∧ w'.cell? ⟨g, o + p * 10 + 5, none⟩ = some (.slice i.tA i.tn i.tc) ∧ w'.cell? ⟨g, o + p * 10 + 6, none⟩ = some (.string i.r1) ∧ w'.cell? ⟨g, o + p * 10 + 7, none⟩ = some (.string i.r2) ∧ w'.cell? ⟨g, o + p * 10 + 8, none⟩ = some (.string i.r3) ∧ w'.cell? ⟨g, o + p * 10 + 9, none⟩ = some (.string i.s) ∧ Below w4.heap.size w4 w') : World → Prop) _ := KS.out _ (below_al (Below.refl w4.heap.size w4).drew (.cells #[.int .i64 0, .int .i64 0, .int .i64 0, .slice none 0 0, .slice none 0 0, .int .i64 0, .bool false, .bool false] 24))
              refine hK _ _ (fun _ => hS1) ?_
              clear hK K
              (try simp only [Act.put, List.setIfInBounds_toArray, List.set_cons_zero, List.set_cons_succ])
              refine regN_ready (rs := [6]) (by kernel_rfl) (by simp) ?_
              refine (AllN.cons (i := 6) (l2 := #[true, true, true, true, true, true, true, false, false, false, true, false, false]) rfl rfl (fun K hK => ?_) AllN.nil)
              go_simp
              go_at_call 11
              refine (CL.out _ (below_al (Below.refl w4.heap.size w4).drew (.cells #[.int .i64 0, .int .i64 0, .int .i64 0, .slice none 0 0, .slice none 0 0, .int .i64 0, .bool false, .bool false] 24))).mono ?_
              rintro e w5 ⟨⟨⟨cl2, me2, pc2, lk2, ii2, dr2⟩, ls2, ss2, lA2, lc2, sA2, sc2⟩, rfl, hok2, e21, e22, e23, hbel5, hnl, hns⟩
              obtain ⟨p1, hp1⟩ : ∃ n, ls2.length = n := ⟨_, rfl⟩
              obtain ⟨p2, hp2⟩ : ∃ n, ss2.length = n := ⟨_, rfl⟩
              dsimp only [Ac.val]
              rw [hp1, hp2]
              have HP1 := Lib.hid hp1
              have HP2 := Lib.hid hp2
              have HOK2 := Lib.hid hok2
              have HE123 := Lib.hid (And.intro e21 (And.intro e22 e23))
              have HB45 := Lib.hid (show Below w4.heap.size w4 w5 from (below_al (Below.refl w4.heap.size w4).drew (.cells #[.int .i64 0, .int .i64 0, .int .i64 0, .slice none 0 0, .slice none 0 0, .int .i64 0, .bool false, .bool false] 24)).trans (hbel5.mono (by simp)))
              have HBC := Lib.hid hbel5
              have HNL := Lib.hid hnl
              have HNS := Lib.hid hns
              clear hp1 hp2 hok2 e21 e22 e23 hbel5 hnl hns
              go_simp
              have hS2 : ((fun (w' : World) => w'.cell? ⟨w.heap.size, 0, none⟩ = some (.int .i64 cl) ∧ w'.cell? ⟨w.heap.size, 1, none⟩ = some (.int .i64 me) ∧ w'.cell? ⟨w.heap.size, 2, none⟩ = some (.int .i64 (p : Int)) ∧ w'.cell? ⟨w.heap.size, 3, none⟩ = some (.slice lA m1 lc) ∧ w'.cell? ⟨w.heap.size, 4, none⟩ = some (.slice sA m2 sc) ∧ w'.cell? ⟨w.heap.size, 5, none⟩ = some (.int .i64 lk) ∧ w'.cell? ⟨w.heap.size, 6, none⟩ = some (.bool ii) ∧ w'.cell? ⟨w.heap.size, 7, none⟩ = some (.bool dr) ∧ w'.cell? ⟨g, o + p * 10, none⟩ = some (.int .i64 i.op) ∧ w'.cell? ⟨g, o + p * 10 + 1, none⟩ = some (.int .i64 i.a) ∧ w'.cell? ⟨g, o + p * 10 + 2, none⟩ = some (.int .i64 i.b) ∧ w'.cell? ⟨g, o + p * 10 + 3, none⟩ = some (.int .i64 i.t) ∧ w'.cell? ⟨g, o + p * 10 + 4, none⟩ = some (.slice i.kA i.kn i.kc) ∧ w'.cell? ⟨g, o + p * 10 + 5, none⟩ = some (.slice i.tA i.tn i.tc) ∧ w'.cell? ⟨g, o + p * 10 + 6, none⟩ = some (.string i.r1) ∧ w'.cell? ⟨g, o + p * 10 + 7, none⟩ = some (.string i.r2) ∧ w'.cell? ⟨g, o + p * 10 + 8, none⟩ = some (.string i.r3) ∧ w'.cell? ⟨g, o + p * 10 + 9, none⟩ = some (.string i.s) ∧ Below w4.heap.size w4 w') : World → Prop) _ := KS.out _ HB45.out
              refine hK _ _ (fun _ => hS2) ?_
              clear hK K
              (try simp only [Act.put, List.setIfInBounds_toArray, List.set_cons_zero, List.set_cons_succ])
              refine regN_take (i := 7) (d := (some 35)) (v := ?v3x10) (l2 := #[true, true, true, true, true, true, true, true, false, false, true, false, false]) rfl rfl rfl (by kernel_rfl) (by kernel_rfl) (by kernel_rfl) (by kernel_rfl) (fun _ _ _ h => h) (by rfl) ?hv3x10 hS2 ?h3x10
              case hv3x10 => intro u hSu; clear hSu; go_simp; (try with_reducible rfl)
              (try simp only [Act.put, List.setIfInBounds_toArray, List.set_cons_zero, List.set_cons_succ])
              refine regN_take (i := 8) (d := (some 43)) (v := ?v3x11) (l2 := #[true, true, true, true, true, true, true, true, true, false, true, false, false]) rfl rfl rfl (by kernel_rfl) (by kernel_rfl) (by kernel_rfl) (by kernel_rfl) (fun _ _ _ h => h) (by rfl) ?hv3x11 hS2 ?h3x11
              case hv3x11 => intro u hSu; clear hSu; go_simp; (try with_reducible rfl)
              (try simp only [Act.put, List.setIfInBounds_toArray, List.set_cons_zero, List.set_cons_succ])
              refine regN_take (i := 9) (d := (some 44)) (v := ?v3x12) (l2 := #[true, true, true, true, true, true, true, true, true, true, true, false, false]) rfl rfl rfl (by kernel_rfl) (by kernel_rfl) (by kernel_rfl) (by kernel_rfl) (fun _ _ _ h => h) (by rfl) ?hv3x12 hS2 ?h3x12
              case hv3x12 => intro u hSu; clear hSu; go_simp; (try with_reducible rfl)
              (try simp only [Act.put, List.setIfInBounds_toArray, List.set_cons_zero, List.set_cons_succ])
              refine regN_ready (rs := [11]) (by kernel_rfl) (by simp) ?_
              refine (AllN.cons (i := 11) (l2 := #[true, true, true, true, true, true, true, true, true, true, true, true, false]) rfl rfl (fun K hK => ?_) AllN.nil)
              have hn := (HBC.out.block w4.heap.size (by simp)).trans (World.alloc_heap_new w4.drew (.cells #[.int .i64 0, .int .i64 0, .int .i64 0, .slice none 0 0, .slice none 0 0, .int .i64 0, .bool false, .bool false] 24))
              obtain ⟨n0, n1, n2, n3, n4, n5, n6, n7⟩ := eight_cells hn
              have nf := fun j => frozV hn j
              have nl := lt_heapV hn
              go_simp
              have hS3 : ((fun (w' : World) => w'.cell? ⟨w.heap.size, 0, none⟩ = some (.int .i64 cl) ∧ w'.cell? ⟨w.heap.size, 1, none⟩ = some (.int .i64 me) ∧ w'.cell? ⟨w.heap.size, 2, none⟩ = some (.int .i64 (p : Int)) ∧ w'.cell? ⟨w.heap.size, 3, none⟩ = some (.slice lA m1 lc) ∧ w'.cell? ⟨w.heap.size, 4, none⟩ = some (.slice sA m2 sc) ∧ w'.cell? ⟨w.heap.size, 5, none⟩ = some (.int .i64 lk) ∧ w'.cell? ⟨w.heap.size, 6, none⟩ = some (.bool ii) ∧ w'.cell? ⟨w.heap.size, 7, none⟩ = some (.bool dr) ∧ w'.cell? ⟨g, o + p * 10, none⟩ = some (.int .i64 i.op) ∧ w'.cell? ⟨g, o + p * 10 + 1, none⟩ = some (.int .i64 i.a) ∧ w'.cell? ⟨g, o + p * 10 + 2, none⟩ = some (.int .i64 i.b) ∧ w'.cell? ⟨g, o + p * 10 + 3, none⟩ = some (.int .i64 i.t) ∧ w'.cell? ⟨g, o + p * 10 + 4, none⟩ = some (.slice i.kA i.kn i.kc) ∧ w'.cell? ⟨g, o + p * 10 + 5, none⟩ = some (.slice i.tA i.tn i.tc) ∧ w'.cell? ⟨g, o + p * 10 + 6, none⟩ = some (.string i.r1) ∧ w'.cell? ⟨g, o + p * 10 + 7, none⟩ = some (.string i.r2) ∧ w'.cell? ⟨g, o + p * 10 + 8, none⟩ = some (.string i.r3) ∧ w'.cell? ⟨g, o + p * 10 + 9, none⟩ = some (.string i.s) ∧ Below w4.heap.size w4 w') : World → Prop) _ := KS.out _ (HB45.out.trans (grown_below (set_eight (w := w5) (B := w4.heap.size) (a := .int .i64 cl2) (b := .int .i64 me2) (c := .int .i64 pc2) (d := .slice lA2 p1 lc2) (e := .slice sA2 p2 sc2) (f := .int .i64 lk2) (g := .bool ii2) (h := .bool dr2) ⟨_, _, _, _, _, _, _, _, rfl⟩ hn).2 (fun k hk => by have := Option.some.inj hk; omega) HB45.out.size))
              refine hK _ _ (fun _ => hS3) ?_
              clear hK K
              (try simp only [Act.put, List.setIfInBounds_toArray, List.set_cons_zero, List.set_cons_succ])
              refine regN_ready (rs := [12]) (by kernel_rfl) (by simp) ?_
              refine (AllN.cons (i := 12) (l2 := #[true, true, true, true, true, true, true, true, true, true, true, true, true]) rfl rfl (fun K hK => ?_) AllN.nil)
              go_simp
              refine hK _ _ (fun h => absurd rfl h) ?_
              clear hK K
              (try simp only [Act.put, List.setIfInBounds_toArray, List.set_cons_zero, List.set_cons_succ])
              refine regN_done (by kernel_rfl) ?_ _
              obtain ⟨hnb, hg6⟩ := set_eight (w := w5) (B := w4.heap.size) (a := .int .i64 cl2) (b := .int .i64 me2) (c := .int .i64 pc2) (d := .slice lA2 p1 lc2) (e := .slice sA2 p2 sc2) (f := .int .i64 lk2) (g := .bool ii2) (h := .bool dr2) ⟨_, _, _, _, _, _, _, _, rfl⟩ hn
              have hb46 := HB45.out.trans (grown_below hg6 (fun k hk => by have := Option.some.inj hk; omega) HB45.out.size)
              have hoff : ∀ {A A2 : Option Addr} {L L2 : List Va}, VRow w4 A L → Nz (w4.drew.alloc (.cells #[.int .i64 0, .int .i64 0, .int .i64 0, .slice none 0 0, .slice none 0 0, .int .i64 0, .bool false, .bool false] 24)) A L A2 L2 → ∀ g o s, A2 = some ⟨g, o, s⟩ → L2 ≠ [] → g ≠ w4.heap.size := nz_off
              have hok6 := (show Ac.ok _ ⟨⟨cl2, me2, pc2, lk2, ii2, dr2⟩, ls2, ss2, lA2, lc2, sA2, sc2⟩ from ⟨HOK2.out.l.off hg6 (hoff HI4.out.ok.l HNL.out), HOK2.out.s.off hg6 (hoff HI4.out.ok.s HNS.out), HOK2.out.ll, HOK2.out.sl⟩)
              clear hoff hg6 hn
              generalize hW6 : (((((((w5.setCell ⟨w4.heap.size, 0, none⟩ (.int .i64 cl2)).setCell ⟨w4.heap.size, 1, none⟩ (.int .i64 me2)).setCell ⟨w4.heap.size, 2, none⟩ (.int .i64 pc2)).setCell ⟨w4.heap.size, 3, none⟩ (.slice lA2 p1 lc2)).setCell ⟨w4.heap.size, 4, none⟩ (.slice sA2 p2 sc2)).setCell ⟨w4.heap.size, 5, none⟩ (.int .i64 lk2)).setCell ⟨w4.heap.size, 6, none⟩ (.bool ii2)).setCell ⟨w4.heap.size, 7, none⟩ (.bool dr2) = w6 at hnb hb46 hok6 ⊢
              clear hW6
              clear hS0 hS1 hS2 hS3 KS nl nf n0 n1 n2 n3 n4 n5 n6 n7 CL HD
              have hz6 := hb46.size
              have HI6 := Lib.hid (HI4.out.up hb46)
              have HB6 := Lib.hid ((hb46.block _ q0).trans HB4.out)
              have HR6 := Lib.hid ((hb46.block _ q1).trans HR4.out)
              have HN6 := Lib.hid hnb
              have HBL6 := Lib.hid hb46
              have HOK6 := Lib.hid hok6
              have HBK := Lib.hid ((hb46.block _ q1).trans (HBL4.out.block _ y1))
              clear hnb hb46 hok6
              obtain ⟨t0, t1, t2, t3, t4, t5, t6, t7⟩ := eight_cells HB6.out
              have f0 := fun j => frozV HB6.out j
              have f1 := fun j => frozV HR6.out j
              obtain ⟨s0, s1, s2, s3, s4, s5, s6, s7⟩ := eight_cells HN6.out
              obtain ⟨z0, z1, z2, z3, z4, z5, z6, z7⟩ := eight_cells HR6.out
              have hkm : k < m := by have := HM.out; omega
              have HKM := Lib.hid (show m - k = (m - (k + 1)) + 1 by omega)
              by_cases he : er = 0
              · subst he
                go_wp2
                obtain ⟨hs8, hg8⟩ := set_eight (w := w6) (B := w.heap.size) (a := .int .i64 cl2) (b := .int .i64 me2) (c := .int .i64 pc2) (d := .slice lA2 p1 lc2) (e := .slice sA2 p2 sc2) (f := .int .i64 lk2) (g := .bool ii2) (h := .bool dr2) ⟨_, _, _, _, _, _, _, _, rfl⟩ HB6.out
                refine ⟨⟨k + 1, ⟨⟨cl2, me2, pc2, lk2, ii2, dr2⟩, ls2, ss2, lA2, lc2, sA2, sc2⟩, by omega, by go_num, ?_, ?_⟩, by simp [intOf]; omega⟩
                · refine HI.out.step (w2 := w4) HA.out hkm HF.out HAT.out HO.out HER.out HBL4.out.size HOK6.out HE123.out.1 HE123.out.2.1 HE123.out.2.2 HNL.out.toA HNS.out.toA (below_on HI4.out.bel HBL6.out) HBK.out hg8 ?_ (by omega)
                  unfold Ac.obj
                  dsimp only
                  rw [HP1.out, HP2.out]
                  exact hs8
                · have := hg8.size
                  omega
              · have hne : (er == 0) = false := by simpa using he
                have HE := Lib.hid (show runS l (m - k) (Ac.sp ⟨⟨cl, me, (p : Int), lk, ii, dr⟩, ls, ss, lA, lc, sA, sc⟩) = ((Ac.sp ⟨⟨cl, me, (p : Int), lk, ii, dr⟩, ls, ss, lA, lc, sA, sc⟩), 0, er) from by
                  have h9 := runS_err (l := l) (k := m - (k + 1)) HAT.out HO.out (by rw [HER.out]; exact he)
                  rw [HKM.out, h9, HER.out])
                clear s0 s1 s2 s3 s4 s5 s6 s7 hlen1 hlen2 hkm hz6 hkn htn hp0 hq hq1 hlt hwr hk y0 y1 he q0 q1 hgl
                go_wp2
                (try simp only [Exit.inBlock, Exit.then])
                obtain ⟨hs8, hg8⟩ := set_eight (w := w6) (B := w.heap.size + 1) (a := .int .i64 cl) (b := .int .i64 me) (c := .int .i64 (p : Int)) (d := .slice lA m1 lc) (e := .slice sA m2 sc) (f := .int .i64 lk) (g := .bool ii) (h := .bool dr) ⟨_, _, _, _, _, _, _, _, rfl⟩ HR6.out
                refine bodyPost_ret (ru_ret rfl rfl hs8 rfl) rfl ?_
                have hh := RunIz.end HI6.out HA.out hg8 HE.out
                dsimp only [Ac.val] at hh
                rw [HM1.out, HM2.out] at hh
                exact hh
        · have hq2 : ¬ (p : Int) < (ln : Int) := by omega
          have HE := Lib.hid (show runS l (m - k) (Ac.sp ⟨⟨cl, me, p, lk, ii, dr⟩, ls, ss, lA, lc, sA, sc⟩) = ((Ac.sp ⟨⟨cl, me, p, lk, ii, dr⟩, ls, ss, lA, lc, sA, sc⟩), 0, 0) from runS_none ((if_pos hp0).trans (List.getElem?_eq_none (by have := HLN.out; show l.length ≤ (p : Int).toNat; omega))))
          go_wp2
          (try simp only [Exit.inBlock, Exit.then])
          obtain ⟨hs8, hg8⟩ := set_eight (w := wr) (B := w.heap.size + 1) (a := .int .i64 cl) (b := .int .i64 me) (c := .int .i64 p) (d := .slice lA m1 lc) (e := .slice sA m2 sc) (f := .int .i64 lk) (g := .bool ii) (h := .bool dr) ⟨_, _, _, _, _, _, _, _, rfl⟩ HRS.out
          refine bodyPost_ret (ru_ret rfl rfl hs8 rfl) rfl ?_
          have hh := RunIz.end (HI.out) HA.out hg8 (HE.out)
          dsimp only [Ac.val] at hh
          rw [HM1.out, HM2.out] at hh
          exact hh
    · have HE := Lib.hid (show runS l (m - k) (Ac.sp ⟨⟨cl, me, pc, lk, ii, dr⟩, ls, ss, lA, lc, sA, sc⟩) = ((Ac.sp ⟨⟨cl, me, pc, lk, ii, dr⟩, ls, ss, lA, lc, sA, sc⟩), 0, 0) from by
        have := HM.out
        rw [show m - k = 0 by omega]; rfl)
      go_wp2
      (try simp only [Exit.inBlock, Exit.then])
      obtain ⟨hs8, hg8⟩ := set_eight (w := wr) (B := w.heap.size + 1) (a := .int .i64 cl) (b := .int .i64 me) (c := .int .i64 pc) (d := .slice lA m1 lc) (e := .slice sA m2 sc) (f := .int .i64 lk) (g := .bool ii) (h := .bool dr) ⟨_, _, _, _, _, _, _, _, rfl⟩ HRS.out
      refine bodyPost_ret (ru_ret rfl rfl hs8 rfl) rfl ?_
      have hh := RunIz.end (HI.out) HA.out hg8 (HE.out)
      dsimp only [Ac.val] at hh
      rw [HM1.out, HM2.out] at hh
      exact hh
end Go.Proofs.Ytgiglbjkijlchaa
