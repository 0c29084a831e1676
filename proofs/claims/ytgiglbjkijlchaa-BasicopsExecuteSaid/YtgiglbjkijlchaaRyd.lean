/- Layer 42: the reference's Execute (written by gen/boxr.py). -/
import Derived.Test.YtgiglbjkijlchaaRyc
import Derived.Test.YtgiglbjkijlchaaRya
import Derived.Test.YtgiglbjkijlchaaRyb
namespace Go.Proofs.Ytgiglbjkijlchaa
open Go.ChangeShapes Go.WideShapes Go.ChangeAt Go.RowKit Go.PlainAid
set_option linter.unusedSimpArgs false
set_option linter.unusedVariables false

/-- the two results of the reference's Execute -/
def RxRet (a : Ac) (w : World) (s : Sp) (e : Int) (en : Ending) (w' : World) : Prop :=
  ∃ a' : Ac, en = .returned (.tuple #[a'.val, .int .i64 e]) ∧ a'.ok w' ∧ a'.h = s.h ∧ a'.ls = s.ls ∧ a'.ss = s.ss ∧ Below w.heap.size w w' ∧ Nz w a.lA a.ls a'.lA a'.ls ∧ Nz w a.sA a.ss a'.sA a'.ss
theorem rx_self {a : Ac} {w w' : World} {e : Int} (ha : a.ok w) (hb : Below w.heap.size w w') : RxRet a w ⟨a.h, a.ls, a.ss⟩ e (.returned (.tuple #[a.val, .int .i64 e])) w' :=
  ⟨a, rfl, ⟨ha.l.up hb, ha.s.up hb, ha.ll, ha.sl⟩, rfl, rfl, rfl, hb, Nz.refl _ _ _, Nz.refl _ _ _⟩
theorem Ac.ok.lb {a : Ac} {w : World} (ha : a.ok w) {B : Nat} (hB : w.heap.size ≤ B) : (∀ g o s, a.lA = some ⟨g, o, s⟩ → a.ls ≠ [] → g ≠ B) ∧ (∀ g o s, a.sA = some ⟨g, o, s⟩ → a.ss ≠ [] → g ≠ B) := by
  constructor
  · intro g o s hA h0
    rcases ha.l with h3 | ⟨g3, o3, hA3, hg3, _⟩
    · exact absurd h3 h0
    · rw [hA] at hA3
      injection hA3 with hA3
      injection hA3 with hA3
      omega
  · intro g o s hA h0
    rcases ha.s with h3 | ⟨g3, o3, hA3, hg3, _⟩
    · exact absurd h3 h0
    · rw [hA] at hA3
      injection hA3 with hA3
      injection hA3 with hA3
      omega
/-- the hand's results copied to a box of the call's own -/
theorem rx_ok {a : Ac} {w w3 w5 w6 w9 : World} {b : Nat} {r' : Rs} {lA' sA' : Option Addr} {lc' sc' : Nat} {pc' : Int} {o2 : Array Value} (ha : a.ok w) (hb3 : Below w.heap.size w w3) (H5 : HdSt w w5 b a.h r' lA' lc' sA' sc') (hk : Kb w3 w5 b)
    (hn1 : Nz w3 a.lA a.ls lA' r'.ls) (hn2 : Nz w3 a.sA a.ss sA' r'.ss) (hv : w5.heap[w.heap.size + 1 + 1]? = some (.cells o2 24)) (hz : w.heap.size + 1 + 1 < w3.heap.size)
    (hg : w5.grownBy w6 (some b)) (hg8 : w6.grownBy w9 (some (w.heap.size + 1 + 1))) :
    RxRet a w ⟨{ a.h with pc := pc' }, r'.ls, r'.ss⟩ 0 (.returned (.tuple #[(Value.agg #[Value.int IntKind.i64 (Hd8.cl ({ a.h with pc := pc' })), Value.int IntKind.i64 (Hd8.me ({ a.h with pc := pc' })), Value.int IntKind.i64 (Hd8.pc ({ a.h with pc := pc' })), ((.slice lA' r'.ls.length lc')), ((.slice sA' r'.ss.length sc')), Value.int IntKind.i64 (Hd8.lk ({ a.h with pc := pc' })), Value.bool (Hd8.ii ({ a.h with pc := pc' })), Value.bool (Hd8.dr ({ a.h with pc := pc' }))]), .int .i64 0])) w9 := by
  have hbel : Below w.heap.size w w9 := (H5.bel.trans (grown_below hg (fun k hk => by have := Option.some.inj hk; have := H5.bb; omega) H5.bel.size)).trans (grown_below hg8 (fun k hk => by have := Option.some.inj hk; omega) (Nat.le_trans H5.bel.size hg.size))
  have hlb := ha.lb (B := w.heap.size + 1 + 1) (by omega)
  have hs3 := hb3.size
  refine ⟨⟨{ a.h with pc := pc' }, r'.ls, r'.ss, lA', lc', sA', sc'⟩, rfl, ⟨?_, ?_, H5.ll, H5.sl⟩, rfl, rfl, rfl, hbel, hn1.imp id (fun h g o s e => Nat.le_trans hs3 (h g o s e)), hn2.imp id (fun h g o s e => Nat.le_trans hs3 (h g o s e))⟩
  · exact (H5.loc.kept hg (fun g o s hA h0 e => H5.ol g o s hA h0 (Option.some.inj e).symm)).kept hg8 (fun g o s hA h0 e => hn1.ne hlb.1 hz g o s hA h0 (Option.some.inj e).symm)
  · exact (H5.stk.kept hg (fun g o s hA h0 e => H5.os g o s hA h0 (Option.some.inj e).symm)).kept hg8 (fun g o s hA h0 e => hn2.ne hlb.2 hz g o s hA h0 (Option.some.inj e).symm)
set_option maxRecDepth 100000 in
set_option maxHeartbeats 2000000 in
theorem rexec_bad (a : Ac) (i : In) (w : World) (ha : a.ok w) (hi : i.ok w w.heap.size) (hl1 : a.ls.length ≤ 100000) (hl2 : a.ss.length ≤ 100000) (h1 : i.kn ≤ 100000) (h2 : i.tn ≤ 100000) (hra : Rg i.a) (hv1 : VsIn a.ls) (hv2 : VsIn a.ss) (ho : ownI i = false) :
    Calls Try.prog 11 #[(Value.agg #[Value.int IntKind.i64 (Hd8.cl a.h), Value.int IntKind.i64 (Hd8.me a.h), Value.int IntKind.i64 (Hd8.pc a.h), ((.slice a.lA a.ls.length a.lc)), ((.slice a.sA a.ss.length a.sc)), Value.int IntKind.i64 (Hd8.lk a.h), Value.bool (Hd8.ii a.h), Value.bool (Hd8.dr a.h)]), (Value.agg #[Value.int IntKind.i64 (In.op i), Value.int IntKind.i64 (In.a i), Value.int IntKind.i64 (In.b i), Value.int IntKind.i64 (In.t i), Value.slice (In.kA i) (In.kn i) (In.kc i), Value.slice (In.tA i) (In.tn i) (In.tc i), Value.string (In.r1 i), Value.string (In.r2 i), Value.string (In.r3 i), Value.string (In.s i)])] w (RxRet a w ⟨a.h, a.ls, a.ss⟩ 15) := by
  have HA := Lib.hid ha
  have HI := Lib.hid hi
  have HV1 := Lib.hid hv1
  have HV2 := Lib.hid hv2
  have HRA := Lib.hid hra
  obtain ⟨n1, hn1⟩ : ∃ n, a.ls.length = n := ⟨_, rfl⟩
  obtain ⟨n2, hn2⟩ : ∃ n, a.ss.length = n := ⟨_, rfl⟩
  have HN := Lib.hid (And.intro hn1 hn2)
  have HOW := Lib.hid ho
  rw [hn1] at hl1
  rw [hn2] at hl2
  rw [hn1, hn2]
  clear ha hi hv1 hv2 hra hn1 hn2 ho
  go_enter Try.func11, Try.ntmps11
  go_upto_region 1 with fail
  have h3 := three_new w (.cells #[.int .i64 a.h.cl, .int .i64 a.h.me, .int .i64 a.h.pc, .slice a.lA n1 a.lc, .slice a.sA n2 a.sc, .int .i64 a.h.lk, .bool a.h.ii, .bool a.h.dr] 24) (.cells #[.int .i64 i.op, .int .i64 i.a, .int .i64 i.b, .int .i64 i.t, .slice i.kA i.kn i.kc, .slice i.tA i.tn i.tc, .string i.r1, .string i.r2, .string i.r3, .string i.s] 29) (.cells #[.int .i64 0, .int .i64 0, .int .i64 0, .slice none 0 0, .slice none 0 0, .int .i64 0, .bool false, .bool false] 24)
  generalize ((w.alloc (.cells #[.int .i64 a.h.cl, .int .i64 a.h.me, .int .i64 a.h.pc, .slice a.lA n1 a.lc, .slice a.sA n2 a.sc, .int .i64 a.h.lk, .bool a.h.ii, .bool a.h.dr] 24)).alloc (.cells #[.int .i64 i.op, .int .i64 i.a, .int .i64 i.b, .int .i64 i.t, .slice i.kA i.kn i.kc, .slice i.tA i.tn i.tc, .string i.r1, .string i.r2, .string i.r3, .string i.s] 29)).alloc (.cells #[.int .i64 0, .int .i64 0, .int .i64 0, .slice none 0 0, .slice none 0 0, .int .i64 0, .bool false, .bool false] 24) = w3 at h3 ⊢
  obtain ⟨R0, R1, R2, hsz, hb3⟩ := h3
  obtain ⟨a0, a1, a2, a3, a4, a5, a6, a7⟩ := eight_cells R0
  obtain ⟨r0, r1, r2, r3, r4, r5, r6, r7, r8, r9⟩ := ten_cells R1
  obtain ⟨z0, z1, z2, z3, z4, z5, z6, z7⟩ := eight_cells R2
  have y0 := lt_heapV R0
  have y1 := lt_heapV R1
  have y2 := lt_heapV R2
  have f2 := fun j => frozV R2 j
  have HR0 := Lib.hid R0
  have HR1 := Lib.hid R1
  have HR2 := Lib.hid R2
  have HB3 := Lib.hid hb3
  clear R0 R1 R2 hb3
  go_wp2_with (go_at_call 23; refine (rown_any _ _).mono ?_; rintro e w4 ⟨rfl, hb4⟩; rw [HOW.out]; have HB4 := Lib.hid (below_on HB3.out hb4); have HS0 := Lib.hid ((hb4.block _ y0).trans HR0.out); have HS1 := Lib.hid ((hb4.block _ y1).trans HR1.out); have HS2 := Lib.hid ((hb4.block _ y2).trans HR2.out); have hs4 := hb4.size; obtain ⟨b0, b1, b2, b3, b4, b5, b6, b7⟩ := eight_cells HS0.out; obtain ⟨c0, c1, c2, c3, c4, c5, c6, c7, c8, c9⟩ := ten_cells HS1.out; have x0 := lt_heapV HS0.out; have x1 := lt_heapV HS1.out; have x2 := lt_heapV HS2.out; obtain ⟨d0, d1, d2, d3, d4, d5, d6, d7⟩ := eight_cells HS2.out; have g2 := fun j => frozV HS2.out j; clear hb4)
  (try simp only [Exit.inBlock, Exit.then])
  obtain ⟨hs8, hg8⟩ := set_eight (w := w4) (B := w.heap.size + 1 + 1) (a := .int .i64 a.h.cl) (b := .int .i64 a.h.me) (c := .int .i64 a.h.pc) (d := .slice a.lA n1 a.lc) (e := .slice a.sA n2 a.sc) (f := .int .i64 a.h.lk) (g := .bool a.h.ii) (h := .bool a.h.dr) ⟨_, _, _, _, _, _, _, _, rfl⟩ HS2.out
  refine bodyPost_ret (ex_ret rfl rfl hs8 rfl) rfl ?_
  have hb8 := HB4.out.trans (grown_below hg8 (fun k hk => by have := Option.some.inj hk; omega) HB4.out.size)
  have hh := rx_self (e := 15) HA.out hb8
  dsimp only [Ac.val] at hh
  rw [HN.out.1, HN.out.2] at hh
  exact hh
set_option maxRecDepth 100000 in
set_option maxHeartbeats 2000000 in
theorem rexec_num (a : Ac) (i : In) (w : World) (ha : a.ok w) (hi : i.ok w w.heap.size) (hl1 : a.ls.length ≤ 100000) (hl2 : a.ss.length ≤ 100000) (h1 : i.kn ≤ 100000) (h2 : i.tn ≤ 100000) (hra : Rg i.a) (hv1 : VsIn a.ls) (hv2 : VsIn a.ss) (ho : ownI i = true) (hc : 15 ≤ i.op ∧ i.op ≤ 35) :
    Calls Try.prog 11 #[(Value.agg #[Value.int IntKind.i64 (Hd8.cl a.h), Value.int IntKind.i64 (Hd8.me a.h), Value.int IntKind.i64 (Hd8.pc a.h), ((.slice a.lA a.ls.length a.lc)), ((.slice a.sA a.ss.length a.sc)), Value.int IntKind.i64 (Hd8.lk a.h), Value.bool (Hd8.ii a.h), Value.bool (Hd8.dr a.h)]), (Value.agg #[Value.int IntKind.i64 (In.op i), Value.int IntKind.i64 (In.a i), Value.int IntKind.i64 (In.b i), Value.int IntKind.i64 (In.t i), Value.slice (In.kA i) (In.kn i) (In.kc i), Value.slice (In.tA i) (In.tn i) (In.tc i), Value.string (In.r1 i), Value.string (In.r2 i), Value.string (In.r3 i), Value.string (In.s i)])] w (RxRet a w (refX i ⟨a.h, a.ls, a.ss⟩) (refE i ⟨a.h, a.ls, a.ss⟩)) := by
  have HA := Lib.hid ha
  have HI := Lib.hid hi
  have HV1 := Lib.hid hv1
  have HV2 := Lib.hid hv2
  have HRA := Lib.hid hra
  obtain ⟨n1, hn1⟩ : ∃ n, a.ls.length = n := ⟨_, rfl⟩
  obtain ⟨n2, hn2⟩ : ∃ n, a.ss.length = n := ⟨_, rfl⟩
  have HN := Lib.hid (And.intro hn1 hn2)
  have HOW := Lib.hid ho
  rw [hn1] at hl1
  rw [hn2] at hl2
  rw [hn1, hn2]
  clear ha hi hv1 hv2 hra hn1 hn2 ho
  go_enter Try.func11, Try.ntmps11
  go_upto_region 1 with fail
  have h3 := three_new w (.cells #[.int .i64 a.h.cl, .int .i64 a.h.me, .int .i64 a.h.pc, .slice a.lA n1 a.lc, .slice a.sA n2 a.sc, .int .i64 a.h.lk, .bool a.h.ii, .bool a.h.dr] 24) (.cells #[.int .i64 i.op, .int .i64 i.a, .int .i64 i.b, .int .i64 i.t, .slice i.kA i.kn i.kc, .slice i.tA i.tn i.tc, .string i.r1, .string i.r2, .string i.r3, .string i.s] 29) (.cells #[.int .i64 0, .int .i64 0, .int .i64 0, .slice none 0 0, .slice none 0 0, .int .i64 0, .bool false, .bool false] 24)
  generalize ((w.alloc (.cells #[.int .i64 a.h.cl, .int .i64 a.h.me, .int .i64 a.h.pc, .slice a.lA n1 a.lc, .slice a.sA n2 a.sc, .int .i64 a.h.lk, .bool a.h.ii, .bool a.h.dr] 24)).alloc (.cells #[.int .i64 i.op, .int .i64 i.a, .int .i64 i.b, .int .i64 i.t, .slice i.kA i.kn i.kc, .slice i.tA i.tn i.tc, .string i.r1, .string i.r2, .string i.r3, .string i.s] 29)).alloc (.cells #[.int .i64 0, .int .i64 0, .int .i64 0, .slice none 0 0, .slice none 0 0, .int .i64 0, .bool false, .bool false] 24) = w3 at h3 ⊢
  obtain ⟨R0, R1, R2, hsz, hb3⟩ := h3
  obtain ⟨a0, a1, a2, a3, a4, a5, a6, a7⟩ := eight_cells R0
  obtain ⟨r0, r1, r2, r3, r4, r5, r6, r7, r8, r9⟩ := ten_cells R1
  obtain ⟨z0, z1, z2, z3, z4, z5, z6, z7⟩ := eight_cells R2
  have y0 := lt_heapV R0
  have y1 := lt_heapV R1
  have y2 := lt_heapV R2
  have f2 := fun j => frozV R2 j
  have HR0 := Lib.hid R0
  have HR1 := Lib.hid R1
  have HR2 := Lib.hid R2
  have HB3 := Lib.hid hb3
  clear R0 R1 R2 hb3
  have hc0 : 15 ≤ i.op := by omega
  have hc1 : i.op ≤ 35 := by omega
  go_upto_region 3 with (go_at_call 23; refine (rown_any _ _).mono ?_; rintro e w4 ⟨rfl, hb4⟩; rw [HOW.out]; have HB4 := Lib.hid (below_on HB3.out hb4); have HS0 := Lib.hid ((hb4.block _ y0).trans HR0.out); have HS1 := Lib.hid ((hb4.block _ y1).trans HR1.out); have HS2 := Lib.hid ((hb4.block _ y2).trans HR2.out); have hs4 := hb4.size; obtain ⟨b0, b1, b2, b3, b4, b5, b6, b7⟩ := eight_cells HS0.out; obtain ⟨c0, c1, c2, c3, c4, c5, c6, c7, c8, c9⟩ := ten_cells HS1.out; have x0 := lt_heapV HS0.out; have x1 := lt_heapV HS1.out; have x2 := lt_heapV HS2.out; obtain ⟨d0, d1, d2, d3, d4, d5, d6, d7⟩ := eight_cells HS2.out; have g2 := fun j => frozV HS2.out j; clear hb4)
  go_upto_region 4 with fail
  have q := World.alloc_heap_new w4 (.cells #[.int .i64 a.h.cl, .int .i64 a.h.me, .int .i64 a.h.pc, .slice a.lA n1 a.lc, .slice a.sA n2 a.sc, .int .i64 a.h.lk, .bool a.h.ii, .bool a.h.dr, .int .i64 0] 56)
  have hb5 := below_al (Below.refl w4.heap.size w4) (.cells #[.int .i64 a.h.cl, .int .i64 a.h.me, .int .i64 a.h.pc, .slice a.lA n1 a.lc, .slice a.sA n2 a.sc, .int .i64 a.h.lk, .bool a.h.ii, .bool a.h.dr, .int .i64 0] 56)
  have hz5 : w4.heap.size < (w4.alloc (.cells #[.int .i64 a.h.cl, .int .i64 a.h.me, .int .i64 a.h.pc, .slice a.lA n1 a.lc, .slice a.sA n2 a.sc, .int .i64 a.h.lk, .bool a.h.ii, .bool a.h.dr, .int .i64 0] 56)).heap.size := by simp
  generalize w4.alloc (.cells #[.int .i64 a.h.cl, .int .i64 a.h.me, .int .i64 a.h.pc, .slice a.lA n1 a.lc, .slice a.sA n2 a.sc, .int .i64 a.h.lk, .bool a.h.ii, .bool a.h.dr, .int .i64 0] 56) = w5 at q hb5 hz5 ⊢
  have HT0 := Lib.hid ((hb5.block _ x0).trans HS0.out)
  have HT1 := Lib.hid ((hb5.block _ x1).trans HS1.out)
  have HT2 := Lib.hid ((hb5.block _ x2).trans HS2.out)
  have HB5 := Lib.hid (below_on HB4.out hb5)
  have HHD := Lib.hid (show HdSt w w5 w4.heap.size a.h ⟨a.ls, a.ss, 0⟩ a.lA a.lc a.sA a.sc from ⟨by show _ = some (Obj.cells #[Value.int IntKind.i64 (Hd8.cl a.h), Value.int IntKind.i64 (Hd8.me a.h), Value.int IntKind.i64 (Hd8.pc a.h), ((.slice a.lA a.ls.length a.lc)), ((.slice a.sA a.ss.length a.sc)), Value.int IntKind.i64 (Hd8.lk a.h), Value.bool (Hd8.ii a.h), Value.bool (Hd8.dr a.h), Value.int IntKind.i64 0] 56); rw [HN.out.1, HN.out.2]; exact q, HA.out.l.up HB5.out, HA.out.s.up HB5.out, (HA.out.lb (by have := HB4.out.size; omega)).1, (HA.out.lb (by have := HB4.out.size; omega)).2, HA.out.ll, HA.out.sl, HB5.out, by have := HB4.out.size; omega⟩)
  clear a0 a1 a2 a3 a4 a5 a6 a7 r0 r1 r2 r3 r4 r5 r6 r7 r8 r9 z0 z1 z2 z3 z4 z5 z6 z7 b0 b1 b2 b3 b4 b5 b6 b7 c0 c1 c2 c3 c4 c5 c6 c7 c8 c9 d0 d1 d2 d3 d4 d5 d6 d7 f2 g2 q hb5
  obtain ⟨b0, b1, b2, b3, b4, b5, b6, b7⟩ := eight_cells HT0.out
  obtain ⟨c0, c1, c2, c3, c4, c5, c6, c7, c8, c9⟩ := ten_cells HT1.out
  have t0 := lt_heapV HT0.out
  have t1 := lt_heapV HT1.out
  have t2 := lt_heapV HT2.out
  have CL := Lib.hid (number_any HHD.out (by show a.ss.length ≤ _; rw [HN.out.2]; omega) HV2.out (op := i.op) (by omega))
  obtain ⟨r', hr'⟩ : ∃ r', numR i.op ⟨a.ls, a.ss, 0⟩ = r' := ⟨_, rfl⟩
  rw [hr'] at CL
  have HRR := Lib.hid (show refI i ⟨a.ls, a.ss, 0⟩ = r' from (if_pos ⟨by omega, by omega⟩).trans hr')
  clear hr'
  have HNX := Lib.hid (show (if 36 ≤ i.op then nextR i ⟨a.ls, a.ss, 0⟩ a.h.pc else wrap64 (a.h.pc + 1)) = wrap64 (a.h.pc + 1) from if_neg (by omega))
  have HE := Lib.hid (show refE i ⟨a.h, a.ls, a.ss⟩ = r'.e from (if_pos HOW.out).trans (congrArg Rs.e HRR.out))
  go_upto_region 10 with (go_at_call 24; refine CL.out.mono ?_; rintro e w6 ⟨rfl, hk6, lA6, lc6, sA6, sc6, hr6, hm6, hm7⟩)
  have H6 := Lib.hid hr6
  have HK6 := Lib.hid hk6
  have HM := Lib.hid (And.intro hm6 hm7)
  obtain ⟨p1, hp1⟩ : ∃ n, r'.ls.length = n := ⟨_, rfl⟩
  obtain ⟨p2, hp2⟩ : ∃ n, r'.ss.length = n := ⟨_, rfl⟩
  have HP := Lib.hid (And.intro hp1 hp2)
  have bx := hr6.box
  rw [hp1, hp2] at bx
  have v0 := (hk6.block _ t0 (by omega)).trans HT0.out
  have v2 := (hk6.block _ t2 (by omega)).trans HT2.out
  have V0 := Lib.hid v0
  have V2 := Lib.hid v2
  have BX := Lib.hid bx
  have u0 := lt_heapV v0
  have u2 := lt_heapV v2
  have ub := lt_heapV bx
  have fb := frozV bx 2
  have f2 := fun j => frozV v2 j
  clear b0 b1 b2 b3 b4 b5 b6 b7 c0 c1 c2 c3 c4 c5 c6 c7 c8 c9 hp1 hp2 hr6 hk6 hm6 hm7
  obtain ⟨g0, g1, g2, g3, g4, g5, g6, g7, g8⟩ := nine_cells bx
  obtain ⟨j0, j1, j2, j3, j4, j5, j6, j7⟩ := eight_cells v0
  obtain ⟨z0, z1, z2, z3, z4, z5, z6, z7⟩ := eight_cells v2
  clear bx v0 v2
  by_cases he : r'.e = 0
  · rw [he] at g8
    go_upto_region 13 with fail
    have hgs := grown_setV (w := w6) (g := w4.heap.size) (j := 2) (u := .int .i64 (wrap64 (a.h.pc + 1)))
    have hx7 := heap_setCell_same w6 w4.heap.size 2 _ _ (.int .i64 (wrap64 (a.h.pc + 1))) BX.out
    have hv7 := (hgs.block (w.heap.size + 1 + 1) u2 (fun e => by have := Option.some.inj e; omega)).trans V2.out
    generalize w6.setCell ⟨w4.heap.size, 2, none⟩ (.int .i64 (wrap64 (a.h.pc + 1))) = w7 at hgs hx7 hv7 ⊢
    clear g0 g1 g2 g3 g4 g5 g6 g7 g8 j0 j1 j2 j3 j4 j5 j6 j7 z0 z1 z2 z3 z4 z5 z6 z7 f2 fb
    obtain ⟨g0, g1, g2, g3, g4, g5, g6, g7, g8⟩ := nine_cells (c := .int .i64 (wrap64 (a.h.pc + 1))) hx7
    obtain ⟨z0, z1, z2, z3, z4, z5, z6, z7⟩ := eight_cells hv7
    have f2 := fun j => frozV hv7 j
    have HV7 := Lib.hid hv7
    have HGS := Lib.hid hgs
    have k2 := lt_heapV hv7
    have k3 := lt_heapV hx7
    clear hv7 hgs hx7
    go_wp2
    (try simp only [Exit.inBlock, Exit.then])
    obtain ⟨hs8, hg8⟩ := set_eight (w := w7) (B := w.heap.size + 1 + 1) (a := .int .i64 a.h.cl) (b := .int .i64 a.h.me) (c := .int .i64 (wrap64 (a.h.pc + 1))) (d := .slice lA6 p1 lc6) (e := .slice sA6 p2 sc6) (f := .int .i64 a.h.lk) (g := .bool a.h.ii) (h := .bool a.h.dr) ⟨_, _, _, _, _, _, _, _, rfl⟩ HV7.out
    refine bodyPost_ret (ex_ret rfl rfl hs8 rfl) rfl ?_
    have hh := rx_ok (pc' := wrap64 (a.h.pc + 1)) HA.out HB5.out H6.out HK6.out HM.out.1 HM.out.2 V2.out t2 HGS.out hg8
    rw [HP.out.1, HP.out.2] at hh
    rw [show refX i ⟨a.h, a.ls, a.ss⟩ = ⟨{ a.h with pc := wrap64 (a.h.pc + 1) }, r'.ls, r'.ss⟩ from (if_neg (by rw [HE.out]; exact fun h => h he)).trans (by rw [HNX.out, HRR.out]), HE.out, he]
    exact hh
  · have hne : (r'.e == 0) = false := by simpa using he
    have KS18 := Lib.hid (show (fun (w' : World) => w'.cell? ⟨w.heap.size, 0, none⟩ = some (.int .i64 a.h.cl) ∧ w'.cell? ⟨w.heap.size, 1, none⟩ = some (.int .i64 a.h.me) ∧ w'.cell? ⟨w.heap.size, 2, none⟩ = some (.int .i64 a.h.pc) ∧ w'.cell? ⟨w.heap.size, 3, none⟩ = some (.slice a.lA n1 a.lc) ∧ w'.cell? ⟨w.heap.size, 4, none⟩ = some (.slice a.sA n2 a.sc) ∧ w'.cell? ⟨w.heap.size, 5, none⟩ = some (.int .i64 a.h.lk) ∧ w'.cell? ⟨w.heap.size, 6, none⟩ = some (.bool a.h.ii) ∧ w'.cell? ⟨w.heap.size, 7, none⟩ = some (.bool a.h.dr) ∧ w'.cell? ⟨w4.heap.size, 8, none⟩ = some (.int .i64 r'.e)) w6.drew from ⟨j0, j1, j2, j3, j4, j5, j6, j7, g8⟩)
    have hg8k := (set_eight (w := w6) (B := w.heap.size + 1 + 1) (a := .int .i64 a.h.cl) (b := .int .i64 a.h.me) (c := .int .i64 a.h.pc) (d := .slice a.lA n1 a.lc) (e := .slice a.sA n2 a.sc) (f := .int .i64 a.h.lk) (g := .bool a.h.ii) (h := .bool a.h.dr) ⟨_, _, _, _, _, _, _, _, rfl⟩ V2.out).2
    have e0 := eight_cells ((hg8k.block w.heap.size u0 (fun e => by have := Option.some.inj e; omega)).trans V0.out)
    have e3 := (nine_cells ((hg8k.block w4.heap.size ub (fun e => by have := Option.some.inj e; omega)).trans BX.out)).2.2.2.2.2.2.2.2
    have KS19 := Lib.hid (And.intro e0.1 (And.intro e0.2.1 (And.intro e0.2.2.1 (And.intro e0.2.2.2.1 (And.intro e0.2.2.2.2.1 (And.intro e0.2.2.2.2.2.1 (And.intro e0.2.2.2.2.2.2.1 (And.intro e0.2.2.2.2.2.2.2 e3))))))))
    have KD := Lib.hid (fun (W : World) (h : (fun (w' : World) => w'.cell? ⟨w.heap.size, 0, none⟩ = some (.int .i64 a.h.cl) ∧ w'.cell? ⟨w.heap.size, 1, none⟩ = some (.int .i64 a.h.me) ∧ w'.cell? ⟨w.heap.size, 2, none⟩ = some (.int .i64 a.h.pc) ∧ w'.cell? ⟨w.heap.size, 3, none⟩ = some (.slice a.lA n1 a.lc) ∧ w'.cell? ⟨w.heap.size, 4, none⟩ = some (.slice a.sA n2 a.sc) ∧ w'.cell? ⟨w.heap.size, 5, none⟩ = some (.int .i64 a.h.lk) ∧ w'.cell? ⟨w.heap.size, 6, none⟩ = some (.bool a.h.ii) ∧ w'.cell? ⟨w.heap.size, 7, none⟩ = some (.bool a.h.dr) ∧ w'.cell? ⟨w4.heap.size, 8, none⟩ = some (.int .i64 r'.e)) W) => show (fun (w' : World) => w'.cell? ⟨w.heap.size, 0, none⟩ = some (.int .i64 a.h.cl) ∧ w'.cell? ⟨w.heap.size, 1, none⟩ = some (.int .i64 a.h.me) ∧ w'.cell? ⟨w.heap.size, 2, none⟩ = some (.int .i64 a.h.pc) ∧ w'.cell? ⟨w.heap.size, 3, none⟩ = some (.slice a.lA n1 a.lc) ∧ w'.cell? ⟨w.heap.size, 4, none⟩ = some (.slice a.sA n2 a.sc) ∧ w'.cell? ⟨w.heap.size, 5, none⟩ = some (.int .i64 a.h.lk) ∧ w'.cell? ⟨w.heap.size, 6, none⟩ = some (.bool a.h.ii) ∧ w'.cell? ⟨w.heap.size, 7, none⟩ = some (.bool a.h.dr) ∧ w'.cell? ⟨w4.heap.size, 8, none⟩ = some (.int .i64 r'.e)) W.drew from h)
    clear hg8k e0 e3
    go_upto_region 11 with fail
    refine regN_start (N := 6) (S := (fun (w' : World) => w'.cell? ⟨w.heap.size, 0, none⟩ = some (.int .i64 a.h.cl) ∧ w'.cell? ⟨w.heap.size, 1, none⟩ = some (.int .i64 a.h.me) ∧ w'.cell? ⟨w.heap.size, 2, none⟩ = some (.int .i64 a.h.pc) ∧ w'.cell? ⟨w.heap.size, 3, none⟩ = some (.slice a.lA n1 a.lc) ∧ w'.cell? ⟨w.heap.size, 4, none⟩ = some (.slice a.sA n2 a.sc) ∧ w'.cell? ⟨w.heap.size, 5, none⟩ = some (.int .i64 a.h.lk) ∧ w'.cell? ⟨w.heap.size, 6, none⟩ = some (.bool a.h.ii) ∧ w'.cell? ⟨w.heap.size, 7, none⟩ = some (.bool a.h.dr) ∧ w'.cell? ⟨w4.heap.size, 8, none⟩ = some (.int .i64 r'.e))) (by kernel_rfl) ?_
    change wpAnyN _ _ _ _ _ _ _ #[false, false, false, false, false, false, false] _ (World.drew _)
    have hS0 := KS18.out
    refine regN_take (i := 0) (d := (some 46)) (v := ?v11x1) (l2 := #[true, false, false, false, false, false, false]) rfl rfl rfl (by kernel_rfl) (by kernel_rfl) (by kernel_rfl) (by kernel_rfl) (fun _ _ _ h => h) (by rfl) ?hv11x1 hS0 ?h11x1
    case hv11x1 => intro u hSu; (try dsimp only at hSu); (try go_split_ands); go_simp; (try with_reducible rfl)
    (try simp only [Act.put, List.setIfInBounds_toArray, List.set_cons_zero, List.set_cons_succ])
    refine regN_take (i := 1) (d := (some 47)) (v := ?v11x2) (l2 := #[true, true, false, false, false, false, false]) rfl rfl rfl (by kernel_rfl) (by kernel_rfl) (by kernel_rfl) (by kernel_rfl) (fun _ _ _ h => h) (by rfl) ?hv11x2 hS0 ?h11x2
    case hv11x2 => intro u hSu; clear hSu; go_simp; (try with_reducible rfl)
    (try simp only [Act.put, List.setIfInBounds_toArray, List.set_cons_zero, List.set_cons_succ])
    refine regN_take (i := 2) (d := (some 48)) (v := ?v11x3) (l2 := #[true, true, true, false, false, false, false]) rfl rfl rfl (by kernel_rfl) (by kernel_rfl) (by kernel_rfl) (by kernel_rfl) (fun _ _ _ h => h) (by rfl) ?hv11x3 hS0 ?h11x3
    case hv11x3 => intro u hSu; clear hSu; go_simp; (try with_reducible rfl)
    (try simp only [Act.put, List.setIfInBounds_toArray, List.set_cons_zero, List.set_cons_succ])
    refine regN_take (i := 3) (d := (some 49)) (v := ?v11x4) (l2 := #[true, true, true, true, false, false, false]) rfl rfl rfl (by kernel_rfl) (by kernel_rfl) (by kernel_rfl) (by kernel_rfl) (fun _ _ _ h => h) (by rfl) ?hv11x4 hS0 ?h11x4
    case hv11x4 => intro u hSu; clear hSu; go_simp; (try with_reducible rfl)
    (try simp only [Act.put, List.setIfInBounds_toArray, List.set_cons_zero, List.set_cons_succ])
    refine regN_take (i := 4) (d := (some 50)) (v := ?v11x5) (l2 := #[true, true, true, true, true, false, false]) rfl rfl rfl (by kernel_rfl) (by kernel_rfl) (by kernel_rfl) (by kernel_rfl) (fun _ _ _ h => h) (by rfl) ?hv11x5 hS0 ?h11x5
    case hv11x5 => intro u hSu; (try dsimp only at hSu); (try go_split_ands); go_simp; (try with_reducible rfl)
    (try simp only [Act.put, List.setIfInBounds_toArray, List.set_cons_zero, List.set_cons_succ])
    refine regN_ready (rs := [5]) (by kernel_rfl) (by simp) ?_
    refine (AllN.cons (i := 5) (l2 := #[true, true, true, true, true, true, false]) rfl rfl (fun K hK => ?_) AllN.nil)
    go_simp
    have hS1 : ((fun (w' : World) => w'.cell? ⟨w.heap.size, 0, none⟩ = some (.int .i64 a.h.cl) ∧ w'.cell? ⟨w.heap.size, 1, none⟩ = some (.int .i64 a.h.me) ∧ w'.cell? ⟨w.heap.size, 2, none⟩ = some (.int .i64 a.h.pc) ∧ w'.cell? ⟨w.heap.size, 3, none⟩ = some (.slice a.lA n1 a.lc) ∧ w'.cell? ⟨w.heap.size, 4, none⟩ = some (.slice a.sA n2 a.sc) ∧ w'.cell? ⟨w.heap.size, 5, none⟩ = some (.int .i64 a.h.lk) ∧ w'.cell? ⟨w.heap.size, 6, none⟩ = some (.bool a.h.ii) ∧ w'.cell? ⟨w.heap.size, 7, none⟩ = some (.bool a.h.dr) ∧ w'.cell? ⟨w4.heap.size, 8, none⟩ = some (.int .i64 r'.e)) : World → Prop) _ := KD.out _ KS19.out
    refine hK _ _ (fun _ => hS1) ?_
    clear hK K
    (try simp only [Act.put, List.setIfInBounds_toArray, List.set_cons_zero, List.set_cons_succ])
    refine regN_ready (rs := [6]) (by kernel_rfl) (by simp) ?_
    refine (AllN.cons (i := 6) (l2 := #[true, true, true, true, true, true, true]) rfl rfl (fun K hK => ?_) AllN.nil)
    go_simp
    refine hK _ _ (fun h => absurd rfl h) ?_
    clear hK K
    (try simp only [Act.put, List.setIfInBounds_toArray, List.set_cons_zero, List.set_cons_succ])
    refine regN_done (by kernel_rfl) ?_ _
    go_wp2
    (try simp only [Exit.inBlock, Exit.then])
    obtain ⟨hs8, hg8⟩ := set_eight (w := w6) (B := w.heap.size + 1 + 1) (a := .int .i64 a.h.cl) (b := .int .i64 a.h.me) (c := .int .i64 a.h.pc) (d := .slice a.lA n1 a.lc) (e := .slice a.sA n2 a.sc) (f := .int .i64 a.h.lk) (g := .bool a.h.ii) (h := .bool a.h.dr) ⟨_, _, _, _, _, _, _, _, rfl⟩ V2.out
    have hb8 := H6.out.bel.trans (grown_below hg8 (fun k hk => by have := Option.some.inj hk; omega) H6.out.bel.size)
    generalize (((((((w6.setCell ⟨w.heap.size + 1 + 1, 0, none⟩ (.int .i64 a.h.cl)).setCell ⟨w.heap.size + 1 + 1, 1, none⟩ (.int .i64 a.h.me)).setCell ⟨w.heap.size + 1 + 1, 2, none⟩ (.int .i64 a.h.pc)).setCell ⟨w.heap.size + 1 + 1, 3, none⟩ (.slice a.lA n1 a.lc)).setCell ⟨w.heap.size + 1 + 1, 4, none⟩ (.slice a.sA n2 a.sc)).setCell ⟨w.heap.size + 1 + 1, 5, none⟩ (.int .i64 a.h.lk)).setCell ⟨w.heap.size + 1 + 1, 6, none⟩ (.bool a.h.ii)).setCell ⟨w.heap.size + 1 + 1, 7, none⟩ (.bool a.h.dr) = w9 at hs8 hg8 hb8 ⊢
    refine bodyPost_ret (ex_ret (w := w9.drew) rfl rfl hs8 rfl) rfl ?_
    have hb8 := below_dr1 hb8
    rw [show refX i ⟨a.h, a.ls, a.ss⟩ = ⟨a.h, a.ls, a.ss⟩ from if_pos (by rw [HE.out]; exact he), HE.out]
    have hh := rx_self (e := r'.e) HA.out hb8
    dsimp only [Ac.val] at hh
    rw [HN.out.1, HN.out.2] at hh
    exact hh
theorem jumpR_ls (i : In) (r : Rs) (g : r.ls = []) : (jumpR i r).ls = [] := by
  unfold jumpR
  repeat' split
  all_goals simp only [takeS_ls, g]
theorem jumpR_ss (i : In) (r : Rs) (g : r.ss = []) : (jumpR i r).ss = [] := by
  unfold jumpR
  repeat' split
  all_goals first | exact takeS_nil (takeS_nil g) | exact takeS_nil g | exact g
set_option maxRecDepth 100000 in
set_option maxHeartbeats 2000000 in
theorem rexec_jmp (a : Ac) (i : In) (w : World) (ha : a.ok w) (hi : i.ok w w.heap.size) (hl1 : a.ls.length ≤ 100000) (hl2 : a.ss.length ≤ 100000) (h1 : i.kn ≤ 100000) (h2 : i.tn ≤ 100000) (hra : Rg i.a) (hv1 : VsIn a.ls) (hv2 : VsIn a.ss) (ho : ownI i = true) (hc : 36 ≤ i.op ∧ i.op ≤ 54) :
    Calls Try.prog 11 #[(Value.agg #[Value.int IntKind.i64 (Hd8.cl a.h), Value.int IntKind.i64 (Hd8.me a.h), Value.int IntKind.i64 (Hd8.pc a.h), ((.slice a.lA a.ls.length a.lc)), ((.slice a.sA a.ss.length a.sc)), Value.int IntKind.i64 (Hd8.lk a.h), Value.bool (Hd8.ii a.h), Value.bool (Hd8.dr a.h)]), (Value.agg #[Value.int IntKind.i64 (In.op i), Value.int IntKind.i64 (In.a i), Value.int IntKind.i64 (In.b i), Value.int IntKind.i64 (In.t i), Value.slice (In.kA i) (In.kn i) (In.kc i), Value.slice (In.tA i) (In.tn i) (In.tc i), Value.string (In.r1 i), Value.string (In.r2 i), Value.string (In.r3 i), Value.string (In.s i)])] w (RxRet a w (refX i ⟨a.h, a.ls, a.ss⟩) (refE i ⟨a.h, a.ls, a.ss⟩)) := by
  have HA := Lib.hid ha
  have HI := Lib.hid hi
  have HV1 := Lib.hid hv1
  have HV2 := Lib.hid hv2
  have HRA := Lib.hid hra
  obtain ⟨n1, hn1⟩ : ∃ n, a.ls.length = n := ⟨_, rfl⟩
  obtain ⟨n2, hn2⟩ : ∃ n, a.ss.length = n := ⟨_, rfl⟩
  have HN := Lib.hid (And.intro hn1 hn2)
  have HOW := Lib.hid ho
  rw [hn1] at hl1
  rw [hn2] at hl2
  rw [hn1, hn2]
  clear ha hi hv1 hv2 hra hn1 hn2 ho
  go_enter Try.func11, Try.ntmps11
  go_upto_region 1 with fail
  have h3 := three_new w (.cells #[.int .i64 a.h.cl, .int .i64 a.h.me, .int .i64 a.h.pc, .slice a.lA n1 a.lc, .slice a.sA n2 a.sc, .int .i64 a.h.lk, .bool a.h.ii, .bool a.h.dr] 24) (.cells #[.int .i64 i.op, .int .i64 i.a, .int .i64 i.b, .int .i64 i.t, .slice i.kA i.kn i.kc, .slice i.tA i.tn i.tc, .string i.r1, .string i.r2, .string i.r3, .string i.s] 29) (.cells #[.int .i64 0, .int .i64 0, .int .i64 0, .slice none 0 0, .slice none 0 0, .int .i64 0, .bool false, .bool false] 24)
  generalize ((w.alloc (.cells #[.int .i64 a.h.cl, .int .i64 a.h.me, .int .i64 a.h.pc, .slice a.lA n1 a.lc, .slice a.sA n2 a.sc, .int .i64 a.h.lk, .bool a.h.ii, .bool a.h.dr] 24)).alloc (.cells #[.int .i64 i.op, .int .i64 i.a, .int .i64 i.b, .int .i64 i.t, .slice i.kA i.kn i.kc, .slice i.tA i.tn i.tc, .string i.r1, .string i.r2, .string i.r3, .string i.s] 29)).alloc (.cells #[.int .i64 0, .int .i64 0, .int .i64 0, .slice none 0 0, .slice none 0 0, .int .i64 0, .bool false, .bool false] 24) = w3 at h3 ⊢
  obtain ⟨R0, R1, R2, hsz, hb3⟩ := h3
  obtain ⟨a0, a1, a2, a3, a4, a5, a6, a7⟩ := eight_cells R0
  obtain ⟨r0, r1, r2, r3, r4, r5, r6, r7, r8, r9⟩ := ten_cells R1
  obtain ⟨z0, z1, z2, z3, z4, z5, z6, z7⟩ := eight_cells R2
  have y0 := lt_heapV R0
  have y1 := lt_heapV R1
  have y2 := lt_heapV R2
  have f2 := fun j => frozV R2 j
  have HR0 := Lib.hid R0
  have HR1 := Lib.hid R1
  have HR2 := Lib.hid R2
  have HB3 := Lib.hid hb3
  clear R0 R1 R2 hb3
  have hc0 : 35 < i.op := by omega
  have hc1 : 15 ≤ i.op := by omega
  have hc2 : 36 ≤ i.op := by omega
  go_upto_region 3 with (go_at_call 23; refine (rown_any _ _).mono ?_; rintro e w4 ⟨rfl, hb4⟩; rw [HOW.out]; have HB4 := Lib.hid (below_on HB3.out hb4); have HS0 := Lib.hid ((hb4.block _ y0).trans HR0.out); have HS1 := Lib.hid ((hb4.block _ y1).trans HR1.out); have HS2 := Lib.hid ((hb4.block _ y2).trans HR2.out); have hs4 := hb4.size; obtain ⟨b0, b1, b2, b3, b4, b5, b6, b7⟩ := eight_cells HS0.out; obtain ⟨c0, c1, c2, c3, c4, c5, c6, c7, c8, c9⟩ := ten_cells HS1.out; have x0 := lt_heapV HS0.out; have x1 := lt_heapV HS1.out; have x2 := lt_heapV HS2.out; obtain ⟨d0, d1, d2, d3, d4, d5, d6, d7⟩ := eight_cells HS2.out; have g2 := fun j => frozV HS2.out j; clear hb4)
  go_upto_region 4 with fail
  have q := World.alloc_heap_new w4 (.cells #[.int .i64 a.h.cl, .int .i64 a.h.me, .int .i64 a.h.pc, .slice a.lA n1 a.lc, .slice a.sA n2 a.sc, .int .i64 a.h.lk, .bool a.h.ii, .bool a.h.dr, .int .i64 0] 56)
  have hb5 := below_al (Below.refl w4.heap.size w4) (.cells #[.int .i64 a.h.cl, .int .i64 a.h.me, .int .i64 a.h.pc, .slice a.lA n1 a.lc, .slice a.sA n2 a.sc, .int .i64 a.h.lk, .bool a.h.ii, .bool a.h.dr, .int .i64 0] 56)
  have hz5 : w4.heap.size < (w4.alloc (.cells #[.int .i64 a.h.cl, .int .i64 a.h.me, .int .i64 a.h.pc, .slice a.lA n1 a.lc, .slice a.sA n2 a.sc, .int .i64 a.h.lk, .bool a.h.ii, .bool a.h.dr, .int .i64 0] 56)).heap.size := by simp
  generalize w4.alloc (.cells #[.int .i64 a.h.cl, .int .i64 a.h.me, .int .i64 a.h.pc, .slice a.lA n1 a.lc, .slice a.sA n2 a.sc, .int .i64 a.h.lk, .bool a.h.ii, .bool a.h.dr, .int .i64 0] 56) = w5 at q hb5 hz5 ⊢
  have HT0 := Lib.hid ((hb5.block _ x0).trans HS0.out)
  have HT1 := Lib.hid ((hb5.block _ x1).trans HS1.out)
  have HT2 := Lib.hid ((hb5.block _ x2).trans HS2.out)
  have HB5 := Lib.hid (below_on HB4.out hb5)
  have HHD := Lib.hid (show HdSt w w5 w4.heap.size a.h ⟨a.ls, a.ss, 0⟩ a.lA a.lc a.sA a.sc from ⟨by show _ = some (Obj.cells #[Value.int IntKind.i64 (Hd8.cl a.h), Value.int IntKind.i64 (Hd8.me a.h), Value.int IntKind.i64 (Hd8.pc a.h), ((.slice a.lA a.ls.length a.lc)), ((.slice a.sA a.ss.length a.sc)), Value.int IntKind.i64 (Hd8.lk a.h), Value.bool (Hd8.ii a.h), Value.bool (Hd8.dr a.h), Value.int IntKind.i64 0] 56); rw [HN.out.1, HN.out.2]; exact q, HA.out.l.up HB5.out, HA.out.s.up HB5.out, (HA.out.lb (by have := HB4.out.size; omega)).1, (HA.out.lb (by have := HB4.out.size; omega)).2, HA.out.ll, HA.out.sl, HB5.out, by have := HB4.out.size; omega⟩)
  clear a0 a1 a2 a3 a4 a5 a6 a7 r0 r1 r2 r3 r4 r5 r6 r7 r8 r9 z0 z1 z2 z3 z4 z5 z6 z7 b0 b1 b2 b3 b4 b5 b6 b7 c0 c1 c2 c3 c4 c5 c6 c7 c8 c9 d0 d1 d2 d3 d4 d5 d6 d7 f2 g2 q hb5
  obtain ⟨b0, b1, b2, b3, b4, b5, b6, b7⟩ := eight_cells HT0.out
  obtain ⟨c0, c1, c2, c3, c4, c5, c6, c7, c8, c9⟩ := ten_cells HT1.out
  have t0 := lt_heapV HT0.out
  have t1 := lt_heapV HT1.out
  have t2 := lt_heapV HT2.out
  have CL := Lib.hid (jump_any i (by omega) HI.out h1 h2 HRA.out HV2.out HHD.out (by show a.ss.length ≤ _; rw [HN.out.2]; omega))
  obtain ⟨r', hr'⟩ : ∃ r', jumpR i ⟨a.ls, a.ss, 0⟩ = r' := ⟨_, rfl⟩
  rw [hr'] at CL
  have HRR := Lib.hid (show refI i ⟨a.ls, a.ss, 0⟩ = r' from ((if_neg (fun g => by omega)).trans (if_pos (by omega))).trans hr')
  clear hr'
  obtain ⟨nj, hnj⟩ : ∃ nj, nextR i ⟨a.ls, a.ss, 0⟩ a.h.pc = nj := ⟨_, rfl⟩
  rw [hnj] at CL
  have HNX := Lib.hid (show (if 36 ≤ i.op then nextR i ⟨a.ls, a.ss, 0⟩ a.h.pc else wrap64 (a.h.pc + 1)) = nj from (if_pos (by omega)).trans hnj)
  have HE := Lib.hid (show refE i ⟨a.h, a.ls, a.ss⟩ = r'.e from (if_pos HOW.out).trans (congrArg Rs.e HRR.out))
  clear hnj
  have HLN := Lib.hid (show (a.ls = [] → (jumpR i ⟨a.ls, a.ss, 0⟩).ls = []) ∧ (a.ss = [] → (jumpR i ⟨a.ls, a.ss, 0⟩).ss = []) from ⟨jumpR_ls i ⟨a.ls, a.ss, 0⟩, jumpR_ss i ⟨a.ls, a.ss, 0⟩⟩)
  rw [show jumpR i ⟨a.ls, a.ss, 0⟩ = r' from (show refI i ⟨a.ls, a.ss, 0⟩ = jumpR i ⟨a.ls, a.ss, 0⟩ from (if_neg (fun g => by omega)).trans (if_pos (by omega))).symm.trans HRR.out] at HLN
  go_upto_region 10 with (go_at_call 25; refine CL.out.mono ?_; rintro e w6 ⟨rfl, hr6, hk6⟩; obtain ⟨lA6, hlA6⟩ : ∃ x, a.lA = x := ⟨_, rfl⟩; have hm6 : Nz w5 a.lA a.ls a.lA r'.ls := Or.inl ⟨rfl, HLN.out.1⟩; have hm7 : Nz w5 a.sA a.ss a.sA r'.ss := Or.inl ⟨rfl, HLN.out.2⟩; clear hlA6 lA6)
  have H6 := Lib.hid hr6
  have HK6 := Lib.hid hk6
  have HM := Lib.hid (And.intro hm6 hm7)
  obtain ⟨p1, hp1⟩ : ∃ n, r'.ls.length = n := ⟨_, rfl⟩
  obtain ⟨p2, hp2⟩ : ∃ n, r'.ss.length = n := ⟨_, rfl⟩
  have HP := Lib.hid (And.intro hp1 hp2)
  have bx := hr6.box
  rw [hp1, hp2] at bx
  have v0 := (hk6.block _ t0 (by omega)).trans HT0.out
  have v2 := (hk6.block _ t2 (by omega)).trans HT2.out
  have V0 := Lib.hid v0
  have V2 := Lib.hid v2
  have BX := Lib.hid bx
  have u0 := lt_heapV v0
  have u2 := lt_heapV v2
  have ub := lt_heapV bx
  have fb := frozV bx 2
  have f2 := fun j => frozV v2 j
  clear b0 b1 b2 b3 b4 b5 b6 b7 c0 c1 c2 c3 c4 c5 c6 c7 c8 c9 hp1 hp2 hr6 hk6 hm6 hm7
  obtain ⟨g0, g1, g2, g3, g4, g5, g6, g7, g8⟩ := nine_cells bx
  obtain ⟨j0, j1, j2, j3, j4, j5, j6, j7⟩ := eight_cells v0
  obtain ⟨z0, z1, z2, z3, z4, z5, z6, z7⟩ := eight_cells v2
  clear bx v0 v2
  by_cases he : r'.e = 0
  · rw [he] at g8
    go_upto_region 13 with fail
    have hgs := grown_setV (w := w6) (g := w4.heap.size) (j := 2) (u := .int .i64 (nj))
    have hx7 := heap_setCell_same w6 w4.heap.size 2 _ _ (.int .i64 (nj)) BX.out
    have hv7 := (hgs.block (w.heap.size + 1 + 1) u2 (fun e => by have := Option.some.inj e; omega)).trans V2.out
    generalize w6.setCell ⟨w4.heap.size, 2, none⟩ (.int .i64 (nj)) = w7 at hgs hx7 hv7 ⊢
    clear g0 g1 g2 g3 g4 g5 g6 g7 g8 j0 j1 j2 j3 j4 j5 j6 j7 z0 z1 z2 z3 z4 z5 z6 z7 f2 fb
    obtain ⟨g0, g1, g2, g3, g4, g5, g6, g7, g8⟩ := nine_cells (c := .int .i64 (nj)) hx7
    obtain ⟨z0, z1, z2, z3, z4, z5, z6, z7⟩ := eight_cells hv7
    have f2 := fun j => frozV hv7 j
    have HV7 := Lib.hid hv7
    have HGS := Lib.hid hgs
    have k2 := lt_heapV hv7
    have k3 := lt_heapV hx7
    clear hv7 hgs hx7
    go_wp2
    (try simp only [Exit.inBlock, Exit.then])
    obtain ⟨hs8, hg8⟩ := set_eight (w := w7) (B := w.heap.size + 1 + 1) (a := .int .i64 a.h.cl) (b := .int .i64 a.h.me) (c := .int .i64 (nj)) (d := .slice a.lA p1 a.lc) (e := .slice a.sA p2 a.sc) (f := .int .i64 a.h.lk) (g := .bool a.h.ii) (h := .bool a.h.dr) ⟨_, _, _, _, _, _, _, _, rfl⟩ HV7.out
    refine bodyPost_ret (ex_ret rfl rfl hs8 rfl) rfl ?_
    have hh := rx_ok (pc' := nj) HA.out HB5.out H6.out HK6.out HM.out.1 HM.out.2 V2.out t2 HGS.out hg8
    rw [HP.out.1, HP.out.2] at hh
    rw [show refX i ⟨a.h, a.ls, a.ss⟩ = ⟨{ a.h with pc := nj }, r'.ls, r'.ss⟩ from (if_neg (by rw [HE.out]; exact fun h => h he)).trans (by rw [HNX.out, HRR.out]), HE.out, he]
    exact hh
  · have hne : (r'.e == 0) = false := by simpa using he
    have KS18 := Lib.hid (show (fun (w' : World) => w'.cell? ⟨w.heap.size, 0, none⟩ = some (.int .i64 a.h.cl) ∧ w'.cell? ⟨w.heap.size, 1, none⟩ = some (.int .i64 a.h.me) ∧ w'.cell? ⟨w.heap.size, 2, none⟩ = some (.int .i64 a.h.pc) ∧ w'.cell? ⟨w.heap.size, 3, none⟩ = some (.slice a.lA n1 a.lc) ∧ w'.cell? ⟨w.heap.size, 4, none⟩ = some (.slice a.sA n2 a.sc) ∧ w'.cell? ⟨w.heap.size, 5, none⟩ = some (.int .i64 a.h.lk) ∧ w'.cell? ⟨w.heap.size, 6, none⟩ = some (.bool a.h.ii) ∧ w'.cell? ⟨w.heap.size, 7, none⟩ = some (.bool a.h.dr) ∧ w'.cell? ⟨w4.heap.size, 8, none⟩ = some (.int .i64 r'.e)) w6.drew from ⟨j0, j1, j2, j3, j4, j5, j6, j7, g8⟩)
    have hg8k := (set_eight (w := w6) (B := w.heap.size + 1 + 1) (a := .int .i64 a.h.cl) (b := .int .i64 a.h.me) (c := .int .i64 a.h.pc) (d := .slice a.lA n1 a.lc) (e := .slice a.sA n2 a.sc) (f := .int .i64 a.h.lk) (g := .bool a.h.ii) (h := .bool a.h.dr) ⟨_, _, _, _, _, _, _, _, rfl⟩ V2.out).2
    have e0 := eight_cells ((hg8k.block w.heap.size u0 (fun e => by have := Option.some.inj e; omega)).trans V0.out)
    have e3 := (nine_cells ((hg8k.block w4.heap.size ub (fun e => by have := Option.some.inj e; omega)).trans BX.out)).2.2.2.2.2.2.2.2
    have KS19 := Lib.hid (And.intro e0.1 (And.intro e0.2.1 (And.intro e0.2.2.1 (And.intro e0.2.2.2.1 (And.intro e0.2.2.2.2.1 (And.intro e0.2.2.2.2.2.1 (And.intro e0.2.2.2.2.2.2.1 (And.intro e0.2.2.2.2.2.2.2 e3))))))))
    have KD := Lib.hid (fun (W : World) (h : (fun (w' : World) => w'.cell? ⟨w.heap.size, 0, none⟩ = some (.int .i64 a.h.cl) ∧ w'.cell? ⟨w.heap.size, 1, none⟩ = some (.int .i64 a.h.me) ∧ w'.cell? ⟨w.heap.size, 2, none⟩ = some (.int .i64 a.h.pc) ∧ w'.cell? ⟨w.heap.size, 3, none⟩ = some (.slice a.lA n1 a.lc) ∧ w'.cell? ⟨w.heap.size, 4, none⟩ = some (.slice a.sA n2 a.sc) ∧ w'.cell? ⟨w.heap.size, 5, none⟩ = some (.int .i64 a.h.lk) ∧ w'.cell? ⟨w.heap.size, 6, none⟩ = some (.bool a.h.ii) ∧ w'.cell? ⟨w.heap.size, 7, none⟩ = some (.bool a.h.dr) ∧ w'.cell? ⟨w4.heap.size, 8, none⟩ = some (.int .i64 r'.e)) W) => show (fun (w' : World) => w'.cell? ⟨w.heap.size, 0, none⟩ = some (.int .i64 a.h.cl) ∧ w'.cell? ⟨w.heap.size, 1, none⟩ = some (.int .i64 a.h.me) ∧ w'.cell? ⟨w.heap.size, 2, none⟩ = some (.int .i64 a.h.pc) ∧ w'.cell? ⟨w.heap.size, 3, none⟩ = some (.slice a.lA n1 a.lc) ∧ w'.cell? ⟨w.heap.size, 4, none⟩ = some (.slice a.sA n2 a.sc) ∧ w'.cell? ⟨w.heap.size, 5, none⟩ = some (.int .i64 a.h.lk) ∧ w'.cell? ⟨w.heap.size, 6, none⟩ = some (.bool a.h.ii) ∧ w'.cell? ⟨w.heap.size, 7, none⟩ = some (.bool a.h.dr) ∧ w'.cell? ⟨w4.heap.size, 8, none⟩ = some (.int .i64 r'.e)) W.drew from h)
    clear hg8k e0 e3
    go_upto_region 11 with fail
    refine regN_start (N := 6) (S := (fun (w' : World) => w'.cell? ⟨w.heap.size, 0, none⟩ = some (.int .i64 a.h.cl) ∧ w'.cell? ⟨w.heap.size, 1, none⟩ = some (.int .i64 a.h.me) ∧ w'.cell? ⟨w.heap.size, 2, none⟩ = some (.int .i64 a.h.pc) ∧ w'.cell? ⟨w.heap.size, 3, none⟩ = some (.slice a.lA n1 a.lc) ∧ w'.cell? ⟨w.heap.size, 4, none⟩ = some (.slice a.sA n2 a.sc) ∧ w'.cell? ⟨w.heap.size, 5, none⟩ = some (.int .i64 a.h.lk) ∧ w'.cell? ⟨w.heap.size, 6, none⟩ = some (.bool a.h.ii) ∧ w'.cell? ⟨w.heap.size, 7, none⟩ = some (.bool a.h.dr) ∧ w'.cell? ⟨w4.heap.size, 8, none⟩ = some (.int .i64 r'.e))) (by kernel_rfl) ?_
    change wpAnyN _ _ _ _ _ _ _ #[false, false, false, false, false, false, false] _ (World.drew _)
    have hS0 := KS18.out
    refine regN_take (i := 0) (d := (some 46)) (v := ?v11x1) (l2 := #[true, false, false, false, false, false, false]) rfl rfl rfl (by kernel_rfl) (by kernel_rfl) (by kernel_rfl) (by kernel_rfl) (fun _ _ _ h => h) (by rfl) ?hv11x1 hS0 ?h11x1
    case hv11x1 => intro u hSu; (try dsimp only at hSu); (try go_split_ands); go_simp; (try with_reducible rfl)
    (try simp only [Act.put, List.setIfInBounds_toArray, List.set_cons_zero, List.set_cons_succ])
    refine regN_take (i := 1) (d := (some 47)) (v := ?v11x2) (l2 := #[true, true, false, false, false, false, false]) rfl rfl rfl (by kernel_rfl) (by kernel_rfl) (by kernel_rfl) (by kernel_rfl) (fun _ _ _ h => h) (by rfl) ?hv11x2 hS0 ?h11x2
    case hv11x2 => intro u hSu; clear hSu; go_simp; (try with_reducible rfl)
    (try simp only [Act.put, List.setIfInBounds_toArray, List.set_cons_zero, List.set_cons_succ])
    refine regN_take (i := 2) (d := (some 48)) (v := ?v11x3) (l2 := #[true, true, true, false, false, false, false]) rfl rfl rfl (by kernel_rfl) (by kernel_rfl) (by kernel_rfl) (by kernel_rfl) (fun _ _ _ h => h) (by rfl) ?hv11x3 hS0 ?h11x3
    case hv11x3 => intro u hSu; clear hSu; go_simp; (try with_reducible rfl)
    (try simp only [Act.put, List.setIfInBounds_toArray, List.set_cons_zero, List.set_cons_succ])
    refine regN_take (i := 3) (d := (some 49)) (v := ?v11x4) (l2 := #[true, true, true, true, false, false, false]) rfl rfl rfl (by kernel_rfl) (by kernel_rfl) (by kernel_rfl) (by kernel_rfl) (fun _ _ _ h => h) (by rfl) ?hv11x4 hS0 ?h11x4
    case hv11x4 => intro u hSu; clear hSu; go_simp; (try with_reducible rfl)
    (try simp only [Act.put, List.setIfInBounds_toArray, List.set_cons_zero, List.set_cons_succ])
    refine regN_take (i := 4) (d := (some 50)) (v := ?v11x5) (l2 := #[true, true, true, true, true, false, false]) rfl rfl rfl (by kernel_rfl) (by kernel_rfl) (by kernel_rfl) (by kernel_rfl) (fun _ _ _ h => h) (by rfl) ?hv11x5 hS0 ?h11x5
    case hv11x5 => intro u hSu; (try dsimp only at hSu); (try go_split_ands); go_simp; (try with_reducible rfl)
    (try simp only [Act.put, List.setIfInBounds_toArray, List.set_cons_zero, List.set_cons_succ])
    refine regN_ready (rs := [5]) (by kernel_rfl) (by simp) ?_
    refine (AllN.cons (i := 5) (l2 := #[true, true, true, true, true, true, false]) rfl rfl (fun K hK => ?_) AllN.nil)
    go_simp
    have hS1 : ((fun (w' : World) => w'.cell? ⟨w.heap.size, 0, none⟩ = some (.int .i64 a.h.cl) ∧ w'.cell? ⟨w.heap.size, 1, none⟩ = some (.int .i64 a.h.me) ∧ w'.cell? ⟨w.heap.size, 2, none⟩ = some (.int .i64 a.h.pc) ∧ w'.cell? ⟨w.heap.size, 3, none⟩ = some (.slice a.lA n1 a.lc) ∧ w'.cell? ⟨w.heap.size, 4, none⟩ = some (.slice a.sA n2 a.sc) ∧ w'.cell? ⟨w.heap.size, 5, none⟩ = some (.int .i64 a.h.lk) ∧ w'.cell? ⟨w.heap.size, 6, none⟩ = some (.bool a.h.ii) ∧ w'.cell? ⟨w.heap.size, 7, none⟩ = some (.bool a.h.dr) ∧ w'.cell? ⟨w4.heap.size, 8, none⟩ = some (.int .i64 r'.e)) : World → Prop) _ := KD.out _ KS19.out
    refine hK _ _ (fun _ => hS1) ?_
    clear hK K
    (try simp only [Act.put, List.setIfInBounds_toArray, List.set_cons_zero, List.set_cons_succ])
    refine regN_ready (rs := [6]) (by kernel_rfl) (by simp) ?_
    refine (AllN.cons (i := 6) (l2 := #[true, true, true, true, true, true, true]) rfl rfl (fun K hK => ?_) AllN.nil)
    go_simp
    refine hK _ _ (fun h => absurd rfl h) ?_
    clear hK K
    (try simp only [Act.put, List.setIfInBounds_toArray, List.set_cons_zero, List.set_cons_succ])
    refine regN_done (by kernel_rfl) ?_ _
    go_wp2
    (try simp only [Exit.inBlock, Exit.then])
    obtain ⟨hs8, hg8⟩ := set_eight (w := w6) (B := w.heap.size + 1 + 1) (a := .int .i64 a.h.cl) (b := .int .i64 a.h.me) (c := .int .i64 a.h.pc) (d := .slice a.lA n1 a.lc) (e := .slice a.sA n2 a.sc) (f := .int .i64 a.h.lk) (g := .bool a.h.ii) (h := .bool a.h.dr) ⟨_, _, _, _, _, _, _, _, rfl⟩ V2.out
    have hb8 := H6.out.bel.trans (grown_below hg8 (fun k hk => by have := Option.some.inj hk; omega) H6.out.bel.size)
    generalize (((((((w6.setCell ⟨w.heap.size + 1 + 1, 0, none⟩ (.int .i64 a.h.cl)).setCell ⟨w.heap.size + 1 + 1, 1, none⟩ (.int .i64 a.h.me)).setCell ⟨w.heap.size + 1 + 1, 2, none⟩ (.int .i64 a.h.pc)).setCell ⟨w.heap.size + 1 + 1, 3, none⟩ (.slice a.lA n1 a.lc)).setCell ⟨w.heap.size + 1 + 1, 4, none⟩ (.slice a.sA n2 a.sc)).setCell ⟨w.heap.size + 1 + 1, 5, none⟩ (.int .i64 a.h.lk)).setCell ⟨w.heap.size + 1 + 1, 6, none⟩ (.bool a.h.ii)).setCell ⟨w.heap.size + 1 + 1, 7, none⟩ (.bool a.h.dr) = w9 at hs8 hg8 hb8 ⊢
    refine bodyPost_ret (ex_ret (w := w9.drew) rfl rfl hs8 rfl) rfl ?_
    have hb8 := below_dr1 hb8
    rw [show refX i ⟨a.h, a.ls, a.ss⟩ = ⟨a.h, a.ls, a.ss⟩ from if_pos (by rw [HE.out]; exact he), HE.out]
    have hh := rx_self (e := r'.e) HA.out hb8
    dsimp only [Ac.val] at hh
    rw [HN.out.1, HN.out.2] at hh
    exact hh
set_option maxRecDepth 100000 in
set_option maxHeartbeats 2000000 in
theorem rexec_pln (a : Ac) (i : In) (w : World) (ha : a.ok w) (hi : i.ok w w.heap.size) (hl1 : a.ls.length ≤ 100000) (hl2 : a.ss.length ≤ 100000) (h1 : i.kn ≤ 100000) (h2 : i.tn ≤ 100000) (hra : Rg i.a) (hv1 : VsIn a.ls) (hv2 : VsIn a.ss) (ho : ownI i = true) (hc : 0 ≤ i.op ∧ i.op ≤ 14) :
    Calls Try.prog 11 #[(Value.agg #[Value.int IntKind.i64 (Hd8.cl a.h), Value.int IntKind.i64 (Hd8.me a.h), Value.int IntKind.i64 (Hd8.pc a.h), ((.slice a.lA a.ls.length a.lc)), ((.slice a.sA a.ss.length a.sc)), Value.int IntKind.i64 (Hd8.lk a.h), Value.bool (Hd8.ii a.h), Value.bool (Hd8.dr a.h)]), (Value.agg #[Value.int IntKind.i64 (In.op i), Value.int IntKind.i64 (In.a i), Value.int IntKind.i64 (In.b i), Value.int IntKind.i64 (In.t i), Value.slice (In.kA i) (In.kn i) (In.kc i), Value.slice (In.tA i) (In.tn i) (In.tc i), Value.string (In.r1 i), Value.string (In.r2 i), Value.string (In.r3 i), Value.string (In.s i)])] w (RxRet a w (refX i ⟨a.h, a.ls, a.ss⟩) (refE i ⟨a.h, a.ls, a.ss⟩)) := by
  have HA := Lib.hid ha
  have HI := Lib.hid hi
  have HV1 := Lib.hid hv1
  have HV2 := Lib.hid hv2
  have HRA := Lib.hid hra
  obtain ⟨n1, hn1⟩ : ∃ n, a.ls.length = n := ⟨_, rfl⟩
  obtain ⟨n2, hn2⟩ : ∃ n, a.ss.length = n := ⟨_, rfl⟩
  have HN := Lib.hid (And.intro hn1 hn2)
  have HOW := Lib.hid ho
  rw [hn1] at hl1
  rw [hn2] at hl2
  rw [hn1, hn2]
  clear ha hi hv1 hv2 hra hn1 hn2 ho
  go_enter Try.func11, Try.ntmps11
  go_upto_region 1 with fail
  have h3 := three_new w (.cells #[.int .i64 a.h.cl, .int .i64 a.h.me, .int .i64 a.h.pc, .slice a.lA n1 a.lc, .slice a.sA n2 a.sc, .int .i64 a.h.lk, .bool a.h.ii, .bool a.h.dr] 24) (.cells #[.int .i64 i.op, .int .i64 i.a, .int .i64 i.b, .int .i64 i.t, .slice i.kA i.kn i.kc, .slice i.tA i.tn i.tc, .string i.r1, .string i.r2, .string i.r3, .string i.s] 29) (.cells #[.int .i64 0, .int .i64 0, .int .i64 0, .slice none 0 0, .slice none 0 0, .int .i64 0, .bool false, .bool false] 24)
  generalize ((w.alloc (.cells #[.int .i64 a.h.cl, .int .i64 a.h.me, .int .i64 a.h.pc, .slice a.lA n1 a.lc, .slice a.sA n2 a.sc, .int .i64 a.h.lk, .bool a.h.ii, .bool a.h.dr] 24)).alloc (.cells #[.int .i64 i.op, .int .i64 i.a, .int .i64 i.b, .int .i64 i.t, .slice i.kA i.kn i.kc, .slice i.tA i.tn i.tc, .string i.r1, .string i.r2, .string i.r3, .string i.s] 29)).alloc (.cells #[.int .i64 0, .int .i64 0, .int .i64 0, .slice none 0 0, .slice none 0 0, .int .i64 0, .bool false, .bool false] 24) = w3 at h3 ⊢
  obtain ⟨R0, R1, R2, hsz, hb3⟩ := h3
  obtain ⟨a0, a1, a2, a3, a4, a5, a6, a7⟩ := eight_cells R0
  obtain ⟨r0, r1, r2, r3, r4, r5, r6, r7, r8, r9⟩ := ten_cells R1
  obtain ⟨z0, z1, z2, z3, z4, z5, z6, z7⟩ := eight_cells R2
  have y0 := lt_heapV R0
  have y1 := lt_heapV R1
  have y2 := lt_heapV R2
  have f2 := fun j => frozV R2 j
  have HR0 := Lib.hid R0
  have HR1 := Lib.hid R1
  have HR2 := Lib.hid R2
  have HB3 := Lib.hid hb3
  clear R0 R1 R2 hb3
  have hc0 : i.op < 15 := by omega
  have hc1 : i.op < 36 := by omega
  go_upto_region 3 with (go_at_call 23; refine (rown_any _ _).mono ?_; rintro e w4 ⟨rfl, hb4⟩; rw [HOW.out]; have HB4 := Lib.hid (below_on HB3.out hb4); have HS0 := Lib.hid ((hb4.block _ y0).trans HR0.out); have HS1 := Lib.hid ((hb4.block _ y1).trans HR1.out); have HS2 := Lib.hid ((hb4.block _ y2).trans HR2.out); have hs4 := hb4.size; obtain ⟨b0, b1, b2, b3, b4, b5, b6, b7⟩ := eight_cells HS0.out; obtain ⟨c0, c1, c2, c3, c4, c5, c6, c7, c8, c9⟩ := ten_cells HS1.out; have x0 := lt_heapV HS0.out; have x1 := lt_heapV HS1.out; have x2 := lt_heapV HS2.out; obtain ⟨d0, d1, d2, d3, d4, d5, d6, d7⟩ := eight_cells HS2.out; have g2 := fun j => frozV HS2.out j; clear hb4)
  go_upto_region 4 with fail
  have q := World.alloc_heap_new w4 (.cells #[.int .i64 a.h.cl, .int .i64 a.h.me, .int .i64 a.h.pc, .slice a.lA n1 a.lc, .slice a.sA n2 a.sc, .int .i64 a.h.lk, .bool a.h.ii, .bool a.h.dr, .int .i64 0] 56)
  have hb5 := below_al (Below.refl w4.heap.size w4) (.cells #[.int .i64 a.h.cl, .int .i64 a.h.me, .int .i64 a.h.pc, .slice a.lA n1 a.lc, .slice a.sA n2 a.sc, .int .i64 a.h.lk, .bool a.h.ii, .bool a.h.dr, .int .i64 0] 56)
  have hz5 : w4.heap.size < (w4.alloc (.cells #[.int .i64 a.h.cl, .int .i64 a.h.me, .int .i64 a.h.pc, .slice a.lA n1 a.lc, .slice a.sA n2 a.sc, .int .i64 a.h.lk, .bool a.h.ii, .bool a.h.dr, .int .i64 0] 56)).heap.size := by simp
  generalize w4.alloc (.cells #[.int .i64 a.h.cl, .int .i64 a.h.me, .int .i64 a.h.pc, .slice a.lA n1 a.lc, .slice a.sA n2 a.sc, .int .i64 a.h.lk, .bool a.h.ii, .bool a.h.dr, .int .i64 0] 56) = w5 at q hb5 hz5 ⊢
  have HT0 := Lib.hid ((hb5.block _ x0).trans HS0.out)
  have HT1 := Lib.hid ((hb5.block _ x1).trans HS1.out)
  have HT2 := Lib.hid ((hb5.block _ x2).trans HS2.out)
  have HB5 := Lib.hid (below_on HB4.out hb5)
  have HHD := Lib.hid (show HdSt w w5 w4.heap.size a.h ⟨a.ls, a.ss, 0⟩ a.lA a.lc a.sA a.sc from ⟨by show _ = some (Obj.cells #[Value.int IntKind.i64 (Hd8.cl a.h), Value.int IntKind.i64 (Hd8.me a.h), Value.int IntKind.i64 (Hd8.pc a.h), ((.slice a.lA a.ls.length a.lc)), ((.slice a.sA a.ss.length a.sc)), Value.int IntKind.i64 (Hd8.lk a.h), Value.bool (Hd8.ii a.h), Value.bool (Hd8.dr a.h), Value.int IntKind.i64 0] 56); rw [HN.out.1, HN.out.2]; exact q, HA.out.l.up HB5.out, HA.out.s.up HB5.out, (HA.out.lb (by have := HB4.out.size; omega)).1, (HA.out.lb (by have := HB4.out.size; omega)).2, HA.out.ll, HA.out.sl, HB5.out, by have := HB4.out.size; omega⟩)
  clear a0 a1 a2 a3 a4 a5 a6 a7 r0 r1 r2 r3 r4 r5 r6 r7 r8 r9 z0 z1 z2 z3 z4 z5 z6 z7 b0 b1 b2 b3 b4 b5 b6 b7 c0 c1 c2 c3 c4 c5 c6 c7 c8 c9 d0 d1 d2 d3 d4 d5 d6 d7 f2 g2 q hb5
  obtain ⟨b0, b1, b2, b3, b4, b5, b6, b7⟩ := eight_cells HT0.out
  obtain ⟨c0, c1, c2, c3, c4, c5, c6, c7, c8, c9⟩ := ten_cells HT1.out
  have t0 := lt_heapV HT0.out
  have t1 := lt_heapV HT1.out
  have t2 := lt_heapV HT2.out
  have CL := Lib.hid (plain_any i (by omega) HV1.out HHD.out (by show a.ss.length ≤ _; rw [HN.out.2]; omega) (by show a.ls.length ≤ _; rw [HN.out.1]; omega))
  obtain ⟨r', hr'⟩ : ∃ r', plainR i ⟨a.ls, a.ss, 0⟩ = r' := ⟨_, rfl⟩
  rw [hr'] at CL
  have HRR := Lib.hid (show refI i ⟨a.ls, a.ss, 0⟩ = r' from ((if_neg (fun g => by omega)).trans (if_neg (by omega))).trans hr')
  clear hr'
  have HNX := Lib.hid (show (if 36 ≤ i.op then nextR i ⟨a.ls, a.ss, 0⟩ a.h.pc else wrap64 (a.h.pc + 1)) = wrap64 (a.h.pc + 1) from if_neg (by omega))
  have HE := Lib.hid (show refE i ⟨a.h, a.ls, a.ss⟩ = r'.e from (if_pos HOW.out).trans (congrArg Rs.e HRR.out))
  go_upto_region 10 with (go_at_call 26; refine CL.out.mono ?_; rintro e w6 ⟨rfl, hk6, lA6, lc6, sA6, sc6, hr6, hm6, hm7⟩)
  have H6 := Lib.hid hr6
  have HK6 := Lib.hid hk6
  have HM := Lib.hid (And.intro hm6 hm7)
  obtain ⟨p1, hp1⟩ : ∃ n, r'.ls.length = n := ⟨_, rfl⟩
  obtain ⟨p2, hp2⟩ : ∃ n, r'.ss.length = n := ⟨_, rfl⟩
  have HP := Lib.hid (And.intro hp1 hp2)
  have bx := hr6.box
  rw [hp1, hp2] at bx
  have v0 := (hk6.block _ t0 (by omega)).trans HT0.out
  have v2 := (hk6.block _ t2 (by omega)).trans HT2.out
  have V0 := Lib.hid v0
  have V2 := Lib.hid v2
  have BX := Lib.hid bx
  have u0 := lt_heapV v0
  have u2 := lt_heapV v2
  have ub := lt_heapV bx
  have fb := frozV bx 2
  have f2 := fun j => frozV v2 j
  clear b0 b1 b2 b3 b4 b5 b6 b7 c0 c1 c2 c3 c4 c5 c6 c7 c8 c9 hp1 hp2 hr6 hk6 hm6 hm7
  obtain ⟨g0, g1, g2, g3, g4, g5, g6, g7, g8⟩ := nine_cells bx
  obtain ⟨j0, j1, j2, j3, j4, j5, j6, j7⟩ := eight_cells v0
  obtain ⟨z0, z1, z2, z3, z4, z5, z6, z7⟩ := eight_cells v2
  clear bx v0 v2
  by_cases he : r'.e = 0
  · rw [he] at g8
    go_upto_region 13 with fail
    have hgs := grown_setV (w := w6) (g := w4.heap.size) (j := 2) (u := .int .i64 (wrap64 (a.h.pc + 1)))
    have hx7 := heap_setCell_same w6 w4.heap.size 2 _ _ (.int .i64 (wrap64 (a.h.pc + 1))) BX.out
    have hv7 := (hgs.block (w.heap.size + 1 + 1) u2 (fun e => by have := Option.some.inj e; omega)).trans V2.out
    generalize w6.setCell ⟨w4.heap.size, 2, none⟩ (.int .i64 (wrap64 (a.h.pc + 1))) = w7 at hgs hx7 hv7 ⊢
    clear g0 g1 g2 g3 g4 g5 g6 g7 g8 j0 j1 j2 j3 j4 j5 j6 j7 z0 z1 z2 z3 z4 z5 z6 z7 f2 fb
    obtain ⟨g0, g1, g2, g3, g4, g5, g6, g7, g8⟩ := nine_cells (c := .int .i64 (wrap64 (a.h.pc + 1))) hx7
    obtain ⟨z0, z1, z2, z3, z4, z5, z6, z7⟩ := eight_cells hv7
    have f2 := fun j => frozV hv7 j
    have HV7 := Lib.hid hv7
    have HGS := Lib.hid hgs
    have k2 := lt_heapV hv7
    have k3 := lt_heapV hx7
    clear hv7 hgs hx7
    go_wp2
    (try simp only [Exit.inBlock, Exit.then])
    obtain ⟨hs8, hg8⟩ := set_eight (w := w7) (B := w.heap.size + 1 + 1) (a := .int .i64 a.h.cl) (b := .int .i64 a.h.me) (c := .int .i64 (wrap64 (a.h.pc + 1))) (d := .slice lA6 p1 lc6) (e := .slice sA6 p2 sc6) (f := .int .i64 a.h.lk) (g := .bool a.h.ii) (h := .bool a.h.dr) ⟨_, _, _, _, _, _, _, _, rfl⟩ HV7.out
    refine bodyPost_ret (ex_ret rfl rfl hs8 rfl) rfl ?_
    have hh := rx_ok (pc' := wrap64 (a.h.pc + 1)) HA.out HB5.out H6.out HK6.out HM.out.1 HM.out.2 V2.out t2 HGS.out hg8
    rw [HP.out.1, HP.out.2] at hh
    rw [show refX i ⟨a.h, a.ls, a.ss⟩ = ⟨{ a.h with pc := wrap64 (a.h.pc + 1) }, r'.ls, r'.ss⟩ from (if_neg (by rw [HE.out]; exact fun h => h he)).trans (by rw [HNX.out, HRR.out]), HE.out, he]
    exact hh
  · have hne : (r'.e == 0) = false := by simpa using he
    have KS18 := Lib.hid (show (fun (w' : World) => w'.cell? ⟨w.heap.size, 0, none⟩ = some (.int .i64 a.h.cl) ∧ w'.cell? ⟨w.heap.size, 1, none⟩ = some (.int .i64 a.h.me) ∧ w'.cell? ⟨w.heap.size, 2, none⟩ = some (.int .i64 a.h.pc) ∧ w'.cell? ⟨w.heap.size, 3, none⟩ = some (.slice a.lA n1 a.lc) ∧ w'.cell? ⟨w.heap.size, 4, none⟩ = some (.slice a.sA n2 a.sc) ∧ w'.cell? ⟨w.heap.size, 5, none⟩ = some (.int .i64 a.h.lk) ∧ w'.cell? ⟨w.heap.size, 6, none⟩ = some (.bool a.h.ii) ∧ w'.cell? ⟨w.heap.size, 7, none⟩ = some (.bool a.h.dr) ∧ w'.cell? ⟨w4.heap.size, 8, none⟩ = some (.int .i64 r'.e)) w6.drew from ⟨j0, j1, j2, j3, j4, j5, j6, j7, g8⟩)
    have hg8k := (set_eight (w := w6) (B := w.heap.size + 1 + 1) (a := .int .i64 a.h.cl) (b := .int .i64 a.h.me) (c := .int .i64 a.h.pc) (d := .slice a.lA n1 a.lc) (e := .slice a.sA n2 a.sc) (f := .int .i64 a.h.lk) (g := .bool a.h.ii) (h := .bool a.h.dr) ⟨_, _, _, _, _, _, _, _, rfl⟩ V2.out).2
    have e0 := eight_cells ((hg8k.block w.heap.size u0 (fun e => by have := Option.some.inj e; omega)).trans V0.out)
    have e3 := (nine_cells ((hg8k.block w4.heap.size ub (fun e => by have := Option.some.inj e; omega)).trans BX.out)).2.2.2.2.2.2.2.2
    have KS19 := Lib.hid (And.intro e0.1 (And.intro e0.2.1 (And.intro e0.2.2.1 (And.intro e0.2.2.2.1 (And.intro e0.2.2.2.2.1 (And.intro e0.2.2.2.2.2.1 (And.intro e0.2.2.2.2.2.2.1 (And.intro e0.2.2.2.2.2.2.2 e3))))))))
    have KD := Lib.hid (fun (W : World) (h : (fun (w' : World) => w'.cell? ⟨w.heap.size, 0, none⟩ = some (.int .i64 a.h.cl) ∧ w'.cell? ⟨w.heap.size, 1, none⟩ = some (.int .i64 a.h.me) ∧ w'.cell? ⟨w.heap.size, 2, none⟩ = some (.int .i64 a.h.pc) ∧ w'.cell? ⟨w.heap.size, 3, none⟩ = some (.slice a.lA n1 a.lc) ∧ w'.cell? ⟨w.heap.size, 4, none⟩ = some (.slice a.sA n2 a.sc) ∧ w'.cell? ⟨w.heap.size, 5, none⟩ = some (.int .i64 a.h.lk) ∧ w'.cell? ⟨w.heap.size, 6, none⟩ = some (.bool a.h.ii) ∧ w'.cell? ⟨w.heap.size, 7, none⟩ = some (.bool a.h.dr) ∧ w'.cell? ⟨w4.heap.size, 8, none⟩ = some (.int .i64 r'.e)) W) => show (fun (w' : World) => w'.cell? ⟨w.heap.size, 0, none⟩ = some (.int .i64 a.h.cl) ∧ w'.cell? ⟨w.heap.size, 1, none⟩ = some (.int .i64 a.h.me) ∧ w'.cell? ⟨w.heap.size, 2, none⟩ = some (.int .i64 a.h.pc) ∧ w'.cell? ⟨w.heap.size, 3, none⟩ = some (.slice a.lA n1 a.lc) ∧ w'.cell? ⟨w.heap.size, 4, none⟩ = some (.slice a.sA n2 a.sc) ∧ w'.cell? ⟨w.heap.size, 5, none⟩ = some (.int .i64 a.h.lk) ∧ w'.cell? ⟨w.heap.size, 6, none⟩ = some (.bool a.h.ii) ∧ w'.cell? ⟨w.heap.size, 7, none⟩ = some (.bool a.h.dr) ∧ w'.cell? ⟨w4.heap.size, 8, none⟩ = some (.int .i64 r'.e)) W.drew from h)
    clear hg8k e0 e3
    go_upto_region 11 with fail
    refine regN_start (N := 6) (S := (fun (w' : World) => w'.cell? ⟨w.heap.size, 0, none⟩ = some (.int .i64 a.h.cl) ∧ w'.cell? ⟨w.heap.size, 1, none⟩ = some (.int .i64 a.h.me) ∧ w'.cell? ⟨w.heap.size, 2, none⟩ = some (.int .i64 a.h.pc) ∧ w'.cell? ⟨w.heap.size, 3, none⟩ = some (.slice a.lA n1 a.lc) ∧ w'.cell? ⟨w.heap.size, 4, none⟩ = some (.slice a.sA n2 a.sc) ∧ w'.cell? ⟨w.heap.size, 5, none⟩ = some (.int .i64 a.h.lk) ∧ w'.cell? ⟨w.heap.size, 6, none⟩ = some (.bool a.h.ii) ∧ w'.cell? ⟨w.heap.size, 7, none⟩ = some (.bool a.h.dr) ∧ w'.cell? ⟨w4.heap.size, 8, none⟩ = some (.int .i64 r'.e))) (by kernel_rfl) ?_
    change wpAnyN _ _ _ _ _ _ _ #[false, false, false, false, false, false, false] _ (World.drew _)
    have hS0 := KS18.out
    refine regN_take (i := 0) (d := (some 46)) (v := ?v11x1) (l2 := #[true, false, false, false, false, false, false]) rfl rfl rfl (by kernel_rfl) (by kernel_rfl) (by kernel_rfl) (by kernel_rfl) (fun _ _ _ h => h) (by rfl) ?hv11x1 hS0 ?h11x1
    case hv11x1 => intro u hSu; (try dsimp only at hSu); (try go_split_ands); go_simp; (try with_reducible rfl)
    (try simp only [Act.put, List.setIfInBounds_toArray, List.set_cons_zero, List.set_cons_succ])
    refine regN_take (i := 1) (d := (some 47)) (v := ?v11x2) (l2 := #[true, true, false, false, false, false, false]) rfl rfl rfl (by kernel_rfl) (by kernel_rfl) (by kernel_rfl) (by kernel_rfl) (fun _ _ _ h => h) (by rfl) ?hv11x2 hS0 ?h11x2
    case hv11x2 => intro u hSu; clear hSu; go_simp; (try with_reducible rfl)
    (try simp only [Act.put, List.setIfInBounds_toArray, List.set_cons_zero, List.set_cons_succ])
    refine regN_take (i := 2) (d := (some 48)) (v := ?v11x3) (l2 := #[true, true, true, false, false, false, false]) rfl rfl rfl (by kernel_rfl) (by kernel_rfl) (by kernel_rfl) (by kernel_rfl) (fun _ _ _ h => h) (by rfl) ?hv11x3 hS0 ?h11x3
    case hv11x3 => intro u hSu; clear hSu; go_simp; (try with_reducible rfl)
    (try simp only [Act.put, List.setIfInBounds_toArray, List.set_cons_zero, List.set_cons_succ])
    refine regN_take (i := 3) (d := (some 49)) (v := ?v11x4) (l2 := #[true, true, true, true, false, false, false]) rfl rfl rfl (by kernel_rfl) (by kernel_rfl) (by kernel_rfl) (by kernel_rfl) (fun _ _ _ h => h) (by rfl) ?hv11x4 hS0 ?h11x4
    case hv11x4 => intro u hSu; clear hSu; go_simp; (try with_reducible rfl)
    (try simp only [Act.put, List.setIfInBounds_toArray, List.set_cons_zero, List.set_cons_succ])
    refine regN_take (i := 4) (d := (some 50)) (v := ?v11x5) (l2 := #[true, true, true, true, true, false, false]) rfl rfl rfl (by kernel_rfl) (by kernel_rfl) (by kernel_rfl) (by kernel_rfl) (fun _ _ _ h => h) (by rfl) ?hv11x5 hS0 ?h11x5
    case hv11x5 => intro u hSu; (try dsimp only at hSu); (try go_split_ands); go_simp; (try with_reducible rfl)
    (try simp only [Act.put, List.setIfInBounds_toArray, List.set_cons_zero, List.set_cons_succ])
    refine regN_ready (rs := [5]) (by kernel_rfl) (by simp) ?_
    refine (AllN.cons (i := 5) (l2 := #[true, true, true, true, true, true, false]) rfl rfl (fun K hK => ?_) AllN.nil)
    go_simp
    have hS1 : ((fun (w' : World) => w'.cell? ⟨w.heap.size, 0, none⟩ = some (.int .i64 a.h.cl) ∧ w'.cell? ⟨w.heap.size, 1, none⟩ = some (.int .i64 a.h.me) ∧ w'.cell? ⟨w.heap.size, 2, none⟩ = some (.int .i64 a.h.pc) ∧ w'.cell? ⟨w.heap.size, 3, none⟩ = some (.slice a.lA n1 a.lc) ∧ w'.cell? ⟨w.heap.size, 4, none⟩ = some (.slice a.sA n2 a.sc) ∧ w'.cell? ⟨w.heap.size, 5, none⟩ = some (.int .i64 a.h.lk) ∧ w'.cell? ⟨w.heap.size, 6, none⟩ = some (.bool a.h.ii) ∧ w'.cell? ⟨w.heap.size, 7, none⟩ = some (.bool a.h.dr) ∧ w'.cell? ⟨w4.heap.size, 8, none⟩ = some (.int .i64 r'.e)) : World → Prop) _ := KD.out _ KS19.out
    refine hK _ _ (fun _ => hS1) ?_
    clear hK K
    (try simp only [Act.put, List.setIfInBounds_toArray, List.set_cons_zero, List.set_cons_succ])
    refine regN_ready (rs := [6]) (by kernel_rfl) (by simp) ?_
    refine (AllN.cons (i := 6) (l2 := #[true, true, true, true, true, true, true]) rfl rfl (fun K hK => ?_) AllN.nil)
    go_simp
    refine hK _ _ (fun h => absurd rfl h) ?_
    clear hK K
    (try simp only [Act.put, List.setIfInBounds_toArray, List.set_cons_zero, List.set_cons_succ])
    refine regN_done (by kernel_rfl) ?_ _
    go_wp2
    (try simp only [Exit.inBlock, Exit.then])
    obtain ⟨hs8, hg8⟩ := set_eight (w := w6) (B := w.heap.size + 1 + 1) (a := .int .i64 a.h.cl) (b := .int .i64 a.h.me) (c := .int .i64 a.h.pc) (d := .slice a.lA n1 a.lc) (e := .slice a.sA n2 a.sc) (f := .int .i64 a.h.lk) (g := .bool a.h.ii) (h := .bool a.h.dr) ⟨_, _, _, _, _, _, _, _, rfl⟩ V2.out
    have hb8 := H6.out.bel.trans (grown_below hg8 (fun k hk => by have := Option.some.inj hk; omega) H6.out.bel.size)
    generalize (((((((w6.setCell ⟨w.heap.size + 1 + 1, 0, none⟩ (.int .i64 a.h.cl)).setCell ⟨w.heap.size + 1 + 1, 1, none⟩ (.int .i64 a.h.me)).setCell ⟨w.heap.size + 1 + 1, 2, none⟩ (.int .i64 a.h.pc)).setCell ⟨w.heap.size + 1 + 1, 3, none⟩ (.slice a.lA n1 a.lc)).setCell ⟨w.heap.size + 1 + 1, 4, none⟩ (.slice a.sA n2 a.sc)).setCell ⟨w.heap.size + 1 + 1, 5, none⟩ (.int .i64 a.h.lk)).setCell ⟨w.heap.size + 1 + 1, 6, none⟩ (.bool a.h.ii)).setCell ⟨w.heap.size + 1 + 1, 7, none⟩ (.bool a.h.dr) = w9 at hs8 hg8 hb8 ⊢
    refine bodyPost_ret (ex_ret (w := w9.drew) rfl rfl hs8 rfl) rfl ?_
    have hb8 := below_dr1 hb8
    rw [show refX i ⟨a.h, a.ls, a.ss⟩ = ⟨a.h, a.ls, a.ss⟩ from if_pos (by rw [HE.out]; exact he), HE.out]
    have hh := rx_self (e := r'.e) HA.out hb8
    dsimp only [Ac.val] at hh
    rw [HN.out.1, HN.out.2] at hh
    exact hh
theorem rexec_any (a : Ac) (i : In) (w : World) (ha : a.ok w) (hi : i.ok w w.heap.size) (hl1 : a.ls.length ≤ 100000) (hl2 : a.ss.length ≤ 100000) (h1 : i.kn ≤ 100000) (h2 : i.tn ≤ 100000) (hra : Rg i.a) (hv1 : VsIn a.ls) (hv2 : VsIn a.ss) :
    Calls Try.prog 11 #[(Value.agg #[Value.int IntKind.i64 (Hd8.cl a.h), Value.int IntKind.i64 (Hd8.me a.h), Value.int IntKind.i64 (Hd8.pc a.h), ((.slice a.lA a.ls.length a.lc)), ((.slice a.sA a.ss.length a.sc)), Value.int IntKind.i64 (Hd8.lk a.h), Value.bool (Hd8.ii a.h), Value.bool (Hd8.dr a.h)]), (Value.agg #[Value.int IntKind.i64 (In.op i), Value.int IntKind.i64 (In.a i), Value.int IntKind.i64 (In.b i), Value.int IntKind.i64 (In.t i), Value.slice (In.kA i) (In.kn i) (In.kc i), Value.slice (In.tA i) (In.tn i) (In.tc i), Value.string (In.r1 i), Value.string (In.r2 i), Value.string (In.r3 i), Value.string (In.s i)])] w (RxRet a w (execS i ⟨a.h, a.ls, a.ss⟩) (execE i ⟨a.h, a.ls, a.ss⟩)) := by
  rw [← (ref_eq i ⟨a.h, a.ls, a.ss⟩).1, ← (ref_eq i ⟨a.h, a.ls, a.ss⟩).2]
  cases ho : ownI i with
  | false =>
    have hE : refE i ⟨a.h, a.ls, a.ss⟩ = 15 := if_neg (by rw [ho]; decide)
    rw [show refX i ⟨a.h, a.ls, a.ss⟩ = ⟨a.h, a.ls, a.ss⟩ from if_pos (by rw [hE]; decide), hE]
    exact rexec_bad a i w ha hi hl1 hl2 h1 h2 hra hv1 hv2 ho
  | true =>
    have := own_rg ho
    rcases (by omega : (0 ≤ i.op ∧ i.op ≤ 14) ∨ (15 ≤ i.op ∧ i.op ≤ 35) ∨ (36 ≤ i.op ∧ i.op ≤ 54)) with c | c | c
    · exact rexec_pln a i w ha hi hl1 hl2 h1 h2 hra hv1 hv2 ho c
    · exact rexec_num a i w ha hi hl1 hl2 h1 h2 hra hv1 hv2 ho c
    · exact rexec_jmp a i w ha hi hl1 hl2 h1 h2 hra hv1 hv2 ho c
end Go.Proofs.Ytgiglbjkijlchaa
