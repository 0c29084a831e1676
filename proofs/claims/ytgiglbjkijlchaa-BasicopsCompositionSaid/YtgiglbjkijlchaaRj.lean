/- Layer 42: branch (written by gen/bobr.py). -/
import Derived.Test.YtgiglbjkijlchaaRi
namespace Go.Proofs.Ytgiglbjkijlchaa
open Go.ChangeShapes Go.WideShapes Go.ChangeAt Go.RowKit Go.PlainAid
set_option linter.unusedSimpArgs false
set_option linter.unusedVariables false

def Rg (x : Int) : Prop := -9223372036854775808 ≤ x ∧ x ≤ 9223372036854775807
def VsIn (L : List Va) : Prop := ∀ p ∈ L, Rg p.2
theorem topV_rg {L : List Va} (h : VsIn L) : Rg (topV L).2 := by
  unfold topV
  rcases Classical.em (L = []) with e | e
  · subst e; exact ⟨by decide, by decide⟩
  · rw [List.getLast?_eq_some_getLast e]; exact h _ (List.getLast_mem e)
def brT (i : In) (r : Rs) : Int := if i.op = 53 then tabV i (topV r.ss).2 else if i.op = 54 then lookV i (topV r.ss).2 else i.t
def brY (i : In) (r : Rs) : Bool :=
  if i.op = 48 ∨ i.op = 49 then ((topV (popS 3 r).ss).2 == (topV r.ss).2) == (i.op == 48) else if i.op = 50 ∨ i.op = 51 then ((topV r.ss).2 == 0) == (i.op == 50)
  else if 42 ≤ i.op ∧ i.op ≤ 47 then condV i.op (topV (popS 1 r).ss).2 (topV r.ss).2 else if i.op ≤ 41 then condV i.op (topV r.ss).2 0 else true
def brS (i : In) (r : Rs) : Rs :=
  if i.op = 48 ∨ i.op = 49 then popS 3 (popS 3 r) else if i.op = 50 ∨ i.op = 51 then popS 3 r
  else if 42 ≤ i.op ∧ i.op ≤ 47 then popS 1 (popS 1 r) else if i.op = 52 then r else popS 1 r
set_option maxRecDepth 100000 in
set_option maxHeartbeats 1000000 in
theorem br_36 {w0 W : World} {b : Nat} {h : Hd8} {r : Rs} {lA : Option Addr} {lc : Nat} {sv : Value} (i : In) (hop : i.op = 36) (H : RunSt w0 W b h r lA lc sv) (hl : r.ss.length ≤ 900000) (hi : i.ok w0 w0.heap.size) (h1 : i.kn ≤ 9223372036854775807) (h2 : i.tn ≤ 9223372036854775807) (hra : Rg i.a) (hv : VsIn r.ss) :
    Calls Try.prog 18 #[.pointer (some ⟨b, 0, none⟩), (Value.agg #[Value.int IntKind.i64 (In.op i), Value.int IntKind.i64 (In.a i), Value.int IntKind.i64 (In.b i), Value.int IntKind.i64 (In.t i), Value.slice (In.kA i) (In.kn i) (In.kc i), Value.slice (In.tA i) (In.tn i) (In.tc i), Value.string (In.r1 i), Value.string (In.r2 i), Value.string (In.r3 i), Value.string (In.s i)])] W (VlRet w0 W b h (brS i r) lA lc sv (.tuple #[.int .i64 (brT i r), .bool (brY i r)])) := by
  have hb1 := below_al (Below.refl W.heap.size W) (.cells #[.int .i64 i.op, .int .i64 i.a, .int .i64 i.b, .int .i64 i.t, .slice i.kA i.kn i.kc, .slice i.tA i.tn i.tc, .string i.r1, .string i.r2, .string i.r3, .string i.s] 29)
  have HB := Lib.hid hb1
  have HH := Lib.hid (H.up hb1)
  have R := World.alloc_heap_new W (.cells #[.int .i64 i.op, .int .i64 i.a, .int .i64 i.b, .int .i64 i.t, .slice i.kA i.kn i.kc, .slice i.tA i.tn i.tc, .string i.r1, .string i.r2, .string i.r3, .string i.s] 29)
  have hxb : W.heap.size ≠ b := fun e => by have := lt_heapV H.box; omega
  have hxs : sv.ownBlock ≠ some W.heap.size := fun e => by have := (H.own.lt _ e).2; omega
  have hz1 : W.heap.size < (W.alloc (.cells #[.int .i64 i.op, .int .i64 i.a, .int .i64 i.b, .int .i64 i.t, .slice i.kA i.kn i.kc, .slice i.tA i.tn i.tc, .string i.r1, .string i.r2, .string i.r3, .string i.s] 29)).heap.size := by simp
  have HOP := Lib.hid hop
  have HI := Lib.hid hi
  have HVr := Lib.hid (topV_rg hv)
  have HRA := Lib.hid hra
  have hT : brT i r = i.t := by unfold brT; rw [hop]; rfl
  have hY : brY i r = condV 36 (topV r.ss).2 0 := by unfold brY; rw [hop]; rfl
  have hS : brS i r = popS 1 r := by unfold brS; rw [hop]; rfl
  rw [hT, hY, hS]
  clear H hop hi hra hv hT hY hS
  obtain ⟨r1', hr1'⟩ : ∃ r1', popS 1 r = r1' := ⟨_, rfl⟩
  obtain ⟨x, hx⟩ : ∃ x, (topV r.ss).2 = x := ⟨_, rfl⟩
  rw [hr1', hx]
  rw [hx] at HVr
  have hs1 := popS_ss 1 r
  rw [hr1'] at hs1
  have HEQ := Lib.hid (And.intro hr1' hx)
  clear hr1' hx
  go_enter Try.func18, Try.ntmps18
  go_upto_region 1 with fail
  generalize W.alloc (.cells #[.int .i64 i.op, .int .i64 i.a, .int .i64 i.b, .int .i64 i.t, .slice i.kA i.kn i.kc, .slice i.tA i.tn i.tc, .string i.r1, .string i.r2, .string i.r3, .string i.s] 29) = W1 at hb1 HB HH R hz1 ⊢
  obtain ⟨r0, r1, r2, r3, r4, r5, r6, r7, r8, r9⟩ := ten_cells R
  rw [HOP.out] at r0
  have HX := Lib.hid R
  have HP := Lib.hid (fun (u : World) (hu : Below W1.heap.size W1 u) => pop_any (W := u) 1 (HH.out.up hu) (by omega))
  rw [HEQ.out.1, HEQ.out.2] at HP
  go_wp2_with (first | (go_at_call 28; refine (HP.out _ (by first | exact Below.refl _ _ | exact (Below.refl _ _).drew)).mono ?_; rintro e w3 ⟨rfl, sv3, hr3, hk3, hl3⟩; have hx3 := (hk3.block W.heap.size hz1 hxb hxs).trans HX.out; obtain ⟨d0, d1, d2, d3, d4, d5, d6, d7, d8, d9⟩ := ten_cells hx3; rw [HOP.out] at d0; have hz3 := lt_heapV hx3; have hxs3 : sv3.ownBlock ≠ some W.heap.size := (fun e => by rcases hl3 with e2 | ⟨g, e2, hg⟩; (rw [e2] at e; exact hxs e); (rw [e2] at e; have := Option.some.inj e; omega))) | (go_at_call 30; refine (cond_any 36 x 0 _).mono ?_; rintro e w6 ⟨rfl, rfl⟩))
  go_ret2
  exact ⟨rfl, sv3, hr3, hk3.below_ HB.out, hl3.below_ HB.out⟩
set_option maxRecDepth 100000 in
set_option maxHeartbeats 1000000 in
theorem br_37 {w0 W : World} {b : Nat} {h : Hd8} {r : Rs} {lA : Option Addr} {lc : Nat} {sv : Value} (i : In) (hop : i.op = 37) (H : RunSt w0 W b h r lA lc sv) (hl : r.ss.length ≤ 900000) (hi : i.ok w0 w0.heap.size) (h1 : i.kn ≤ 9223372036854775807) (h2 : i.tn ≤ 9223372036854775807) (hra : Rg i.a) (hv : VsIn r.ss) :
    Calls Try.prog 18 #[.pointer (some ⟨b, 0, none⟩), (Value.agg #[Value.int IntKind.i64 (In.op i), Value.int IntKind.i64 (In.a i), Value.int IntKind.i64 (In.b i), Value.int IntKind.i64 (In.t i), Value.slice (In.kA i) (In.kn i) (In.kc i), Value.slice (In.tA i) (In.tn i) (In.tc i), Value.string (In.r1 i), Value.string (In.r2 i), Value.string (In.r3 i), Value.string (In.s i)])] W (VlRet w0 W b h (brS i r) lA lc sv (.tuple #[.int .i64 (brT i r), .bool (brY i r)])) := by
  have hb1 := below_al (Below.refl W.heap.size W) (.cells #[.int .i64 i.op, .int .i64 i.a, .int .i64 i.b, .int .i64 i.t, .slice i.kA i.kn i.kc, .slice i.tA i.tn i.tc, .string i.r1, .string i.r2, .string i.r3, .string i.s] 29)
  have HB := Lib.hid hb1
  have HH := Lib.hid (H.up hb1)
  have R := World.alloc_heap_new W (.cells #[.int .i64 i.op, .int .i64 i.a, .int .i64 i.b, .int .i64 i.t, .slice i.kA i.kn i.kc, .slice i.tA i.tn i.tc, .string i.r1, .string i.r2, .string i.r3, .string i.s] 29)
  have hxb : W.heap.size ≠ b := fun e => by have := lt_heapV H.box; omega
  have hxs : sv.ownBlock ≠ some W.heap.size := fun e => by have := (H.own.lt _ e).2; omega
  have hz1 : W.heap.size < (W.alloc (.cells #[.int .i64 i.op, .int .i64 i.a, .int .i64 i.b, .int .i64 i.t, .slice i.kA i.kn i.kc, .slice i.tA i.tn i.tc, .string i.r1, .string i.r2, .string i.r3, .string i.s] 29)).heap.size := by simp
  have HOP := Lib.hid hop
  have HI := Lib.hid hi
  have HVr := Lib.hid (topV_rg hv)
  have HRA := Lib.hid hra
  have hT : brT i r = i.t := by unfold brT; rw [hop]; rfl
  have hY : brY i r = condV 37 (topV r.ss).2 0 := by unfold brY; rw [hop]; rfl
  have hS : brS i r = popS 1 r := by unfold brS; rw [hop]; rfl
  rw [hT, hY, hS]
  clear H hop hi hra hv hT hY hS
  obtain ⟨r1', hr1'⟩ : ∃ r1', popS 1 r = r1' := ⟨_, rfl⟩
  obtain ⟨x, hx⟩ : ∃ x, (topV r.ss).2 = x := ⟨_, rfl⟩
  rw [hr1', hx]
  rw [hx] at HVr
  have hs1 := popS_ss 1 r
  rw [hr1'] at hs1
  have HEQ := Lib.hid (And.intro hr1' hx)
  clear hr1' hx
  go_enter Try.func18, Try.ntmps18
  go_upto_region 1 with fail
  generalize W.alloc (.cells #[.int .i64 i.op, .int .i64 i.a, .int .i64 i.b, .int .i64 i.t, .slice i.kA i.kn i.kc, .slice i.tA i.tn i.tc, .string i.r1, .string i.r2, .string i.r3, .string i.s] 29) = W1 at hb1 HB HH R hz1 ⊢
  obtain ⟨r0, r1, r2, r3, r4, r5, r6, r7, r8, r9⟩ := ten_cells R
  rw [HOP.out] at r0
  have HX := Lib.hid R
  have HP := Lib.hid (fun (u : World) (hu : Below W1.heap.size W1 u) => pop_any (W := u) 1 (HH.out.up hu) (by omega))
  rw [HEQ.out.1, HEQ.out.2] at HP
  go_wp2_with (first | (go_at_call 28; refine (HP.out _ (by first | exact Below.refl _ _ | exact (Below.refl _ _).drew)).mono ?_; rintro e w3 ⟨rfl, sv3, hr3, hk3, hl3⟩; have hx3 := (hk3.block W.heap.size hz1 hxb hxs).trans HX.out; obtain ⟨d0, d1, d2, d3, d4, d5, d6, d7, d8, d9⟩ := ten_cells hx3; rw [HOP.out] at d0; have hz3 := lt_heapV hx3; have hxs3 : sv3.ownBlock ≠ some W.heap.size := (fun e => by rcases hl3 with e2 | ⟨g, e2, hg⟩; (rw [e2] at e; exact hxs e); (rw [e2] at e; have := Option.some.inj e; omega))) | (go_at_call 30; refine (cond_any 37 x 0 _).mono ?_; rintro e w6 ⟨rfl, rfl⟩))
  go_ret2
  exact ⟨rfl, sv3, hr3, hk3.below_ HB.out, hl3.below_ HB.out⟩
set_option maxRecDepth 100000 in
set_option maxHeartbeats 1000000 in
theorem br_38 {w0 W : World} {b : Nat} {h : Hd8} {r : Rs} {lA : Option Addr} {lc : Nat} {sv : Value} (i : In) (hop : i.op = 38) (H : RunSt w0 W b h r lA lc sv) (hl : r.ss.length ≤ 900000) (hi : i.ok w0 w0.heap.size) (h1 : i.kn ≤ 9223372036854775807) (h2 : i.tn ≤ 9223372036854775807) (hra : Rg i.a) (hv : VsIn r.ss) :
    Calls Try.prog 18 #[.pointer (some ⟨b, 0, none⟩), (Value.agg #[Value.int IntKind.i64 (In.op i), Value.int IntKind.i64 (In.a i), Value.int IntKind.i64 (In.b i), Value.int IntKind.i64 (In.t i), Value.slice (In.kA i) (In.kn i) (In.kc i), Value.slice (In.tA i) (In.tn i) (In.tc i), Value.string (In.r1 i), Value.string (In.r2 i), Value.string (In.r3 i), Value.string (In.s i)])] W (VlRet w0 W b h (brS i r) lA lc sv (.tuple #[.int .i64 (brT i r), .bool (brY i r)])) := by
  have hb1 := below_al (Below.refl W.heap.size W) (.cells #[.int .i64 i.op, .int .i64 i.a, .int .i64 i.b, .int .i64 i.t, .slice i.kA i.kn i.kc, .slice i.tA i.tn i.tc, .string i.r1, .string i.r2, .string i.r3, .string i.s] 29)
  have HB := Lib.hid hb1
  have HH := Lib.hid (H.up hb1)
  have R := World.alloc_heap_new W (.cells #[.int .i64 i.op, .int .i64 i.a, .int .i64 i.b, .int .i64 i.t, .slice i.kA i.kn i.kc, .slice i.tA i.tn i.tc, .string i.r1, .string i.r2, .string i.r3, .string i.s] 29)
  have hxb : W.heap.size ≠ b := fun e => by have := lt_heapV H.box; omega
  have hxs : sv.ownBlock ≠ some W.heap.size := fun e => by have := (H.own.lt _ e).2; omega
  have hz1 : W.heap.size < (W.alloc (.cells #[.int .i64 i.op, .int .i64 i.a, .int .i64 i.b, .int .i64 i.t, .slice i.kA i.kn i.kc, .slice i.tA i.tn i.tc, .string i.r1, .string i.r2, .string i.r3, .string i.s] 29)).heap.size := by simp
  have HOP := Lib.hid hop
  have HI := Lib.hid hi
  have HVr := Lib.hid (topV_rg hv)
  have HRA := Lib.hid hra
  have hT : brT i r = i.t := by unfold brT; rw [hop]; rfl
  have hY : brY i r = condV 38 (topV r.ss).2 0 := by unfold brY; rw [hop]; rfl
  have hS : brS i r = popS 1 r := by unfold brS; rw [hop]; rfl
  rw [hT, hY, hS]
  clear H hop hi hra hv hT hY hS
  obtain ⟨r1', hr1'⟩ : ∃ r1', popS 1 r = r1' := ⟨_, rfl⟩
  obtain ⟨x, hx⟩ : ∃ x, (topV r.ss).2 = x := ⟨_, rfl⟩
  rw [hr1', hx]
  rw [hx] at HVr
  have hs1 := popS_ss 1 r
  rw [hr1'] at hs1
  have HEQ := Lib.hid (And.intro hr1' hx)
  clear hr1' hx
  go_enter Try.func18, Try.ntmps18
  go_upto_region 1 with fail
  generalize W.alloc (.cells #[.int .i64 i.op, .int .i64 i.a, .int .i64 i.b, .int .i64 i.t, .slice i.kA i.kn i.kc, .slice i.tA i.tn i.tc, .string i.r1, .string i.r2, .string i.r3, .string i.s] 29) = W1 at hb1 HB HH R hz1 ⊢
  obtain ⟨r0, r1, r2, r3, r4, r5, r6, r7, r8, r9⟩ := ten_cells R
  rw [HOP.out] at r0
  have HX := Lib.hid R
  have HP := Lib.hid (fun (u : World) (hu : Below W1.heap.size W1 u) => pop_any (W := u) 1 (HH.out.up hu) (by omega))
  rw [HEQ.out.1, HEQ.out.2] at HP
  go_wp2_with (first | (go_at_call 28; refine (HP.out _ (by first | exact Below.refl _ _ | exact (Below.refl _ _).drew)).mono ?_; rintro e w3 ⟨rfl, sv3, hr3, hk3, hl3⟩; have hx3 := (hk3.block W.heap.size hz1 hxb hxs).trans HX.out; obtain ⟨d0, d1, d2, d3, d4, d5, d6, d7, d8, d9⟩ := ten_cells hx3; rw [HOP.out] at d0; have hz3 := lt_heapV hx3; have hxs3 : sv3.ownBlock ≠ some W.heap.size := (fun e => by rcases hl3 with e2 | ⟨g, e2, hg⟩; (rw [e2] at e; exact hxs e); (rw [e2] at e; have := Option.some.inj e; omega))) | (go_at_call 30; refine (cond_any 38 x 0 _).mono ?_; rintro e w6 ⟨rfl, rfl⟩))
  go_ret2
  exact ⟨rfl, sv3, hr3, hk3.below_ HB.out, hl3.below_ HB.out⟩
set_option maxRecDepth 100000 in
set_option maxHeartbeats 1000000 in
theorem br_39 {w0 W : World} {b : Nat} {h : Hd8} {r : Rs} {lA : Option Addr} {lc : Nat} {sv : Value} (i : In) (hop : i.op = 39) (H : RunSt w0 W b h r lA lc sv) (hl : r.ss.length ≤ 900000) (hi : i.ok w0 w0.heap.size) (h1 : i.kn ≤ 9223372036854775807) (h2 : i.tn ≤ 9223372036854775807) (hra : Rg i.a) (hv : VsIn r.ss) :
    Calls Try.prog 18 #[.pointer (some ⟨b, 0, none⟩), (Value.agg #[Value.int IntKind.i64 (In.op i), Value.int IntKind.i64 (In.a i), Value.int IntKind.i64 (In.b i), Value.int IntKind.i64 (In.t i), Value.slice (In.kA i) (In.kn i) (In.kc i), Value.slice (In.tA i) (In.tn i) (In.tc i), Value.string (In.r1 i), Value.string (In.r2 i), Value.string (In.r3 i), Value.string (In.s i)])] W (VlRet w0 W b h (brS i r) lA lc sv (.tuple #[.int .i64 (brT i r), .bool (brY i r)])) := by
  have hb1 := below_al (Below.refl W.heap.size W) (.cells #[.int .i64 i.op, .int .i64 i.a, .int .i64 i.b, .int .i64 i.t, .slice i.kA i.kn i.kc, .slice i.tA i.tn i.tc, .string i.r1, .string i.r2, .string i.r3, .string i.s] 29)
  have HB := Lib.hid hb1
  have HH := Lib.hid (H.up hb1)
  have R := World.alloc_heap_new W (.cells #[.int .i64 i.op, .int .i64 i.a, .int .i64 i.b, .int .i64 i.t, .slice i.kA i.kn i.kc, .slice i.tA i.tn i.tc, .string i.r1, .string i.r2, .string i.r3, .string i.s] 29)
  have hxb : W.heap.size ≠ b := fun e => by have := lt_heapV H.box; omega
  have hxs : sv.ownBlock ≠ some W.heap.size := fun e => by have := (H.own.lt _ e).2; omega
  have hz1 : W.heap.size < (W.alloc (.cells #[.int .i64 i.op, .int .i64 i.a, .int .i64 i.b, .int .i64 i.t, .slice i.kA i.kn i.kc, .slice i.tA i.tn i.tc, .string i.r1, .string i.r2, .string i.r3, .string i.s] 29)).heap.size := by simp
  have HOP := Lib.hid hop
  have HI := Lib.hid hi
  have HVr := Lib.hid (topV_rg hv)
  have HRA := Lib.hid hra
  have hT : brT i r = i.t := by unfold brT; rw [hop]; rfl
  have hY : brY i r = condV 39 (topV r.ss).2 0 := by unfold brY; rw [hop]; rfl
  have hS : brS i r = popS 1 r := by unfold brS; rw [hop]; rfl
  rw [hT, hY, hS]
  clear H hop hi hra hv hT hY hS
  obtain ⟨r1', hr1'⟩ : ∃ r1', popS 1 r = r1' := ⟨_, rfl⟩
  obtain ⟨x, hx⟩ : ∃ x, (topV r.ss).2 = x := ⟨_, rfl⟩
  rw [hr1', hx]
  rw [hx] at HVr
  have hs1 := popS_ss 1 r
  rw [hr1'] at hs1
  have HEQ := Lib.hid (And.intro hr1' hx)
  clear hr1' hx
  go_enter Try.func18, Try.ntmps18
  go_upto_region 1 with fail
  generalize W.alloc (.cells #[.int .i64 i.op, .int .i64 i.a, .int .i64 i.b, .int .i64 i.t, .slice i.kA i.kn i.kc, .slice i.tA i.tn i.tc, .string i.r1, .string i.r2, .string i.r3, .string i.s] 29) = W1 at hb1 HB HH R hz1 ⊢
  obtain ⟨r0, r1, r2, r3, r4, r5, r6, r7, r8, r9⟩ := ten_cells R
  rw [HOP.out] at r0
  have HX := Lib.hid R
  have HP := Lib.hid (fun (u : World) (hu : Below W1.heap.size W1 u) => pop_any (W := u) 1 (HH.out.up hu) (by omega))
  rw [HEQ.out.1, HEQ.out.2] at HP
  go_wp2_with (first | (go_at_call 28; refine (HP.out _ (by first | exact Below.refl _ _ | exact (Below.refl _ _).drew)).mono ?_; rintro e w3 ⟨rfl, sv3, hr3, hk3, hl3⟩; have hx3 := (hk3.block W.heap.size hz1 hxb hxs).trans HX.out; obtain ⟨d0, d1, d2, d3, d4, d5, d6, d7, d8, d9⟩ := ten_cells hx3; rw [HOP.out] at d0; have hz3 := lt_heapV hx3; have hxs3 : sv3.ownBlock ≠ some W.heap.size := (fun e => by rcases hl3 with e2 | ⟨g, e2, hg⟩; (rw [e2] at e; exact hxs e); (rw [e2] at e; have := Option.some.inj e; omega))) | (go_at_call 30; refine (cond_any 39 x 0 _).mono ?_; rintro e w6 ⟨rfl, rfl⟩))
  go_ret2
  exact ⟨rfl, sv3, hr3, hk3.below_ HB.out, hl3.below_ HB.out⟩
set_option maxRecDepth 100000 in
set_option maxHeartbeats 1000000 in
theorem br_40 {w0 W : World} {b : Nat} {h : Hd8} {r : Rs} {lA : Option Addr} {lc : Nat} {sv : Value} (i : In) (hop : i.op = 40) (H : RunSt w0 W b h r lA lc sv) (hl : r.ss.length ≤ 900000) (hi : i.ok w0 w0.heap.size) (h1 : i.kn ≤ 9223372036854775807) (h2 : i.tn ≤ 9223372036854775807) (hra : Rg i.a) (hv : VsIn r.ss) :
    Calls Try.prog 18 #[.pointer (some ⟨b, 0, none⟩), (Value.agg #[Value.int IntKind.i64 (In.op i), Value.int IntKind.i64 (In.a i), Value.int IntKind.i64 (In.b i), Value.int IntKind.i64 (In.t i), Value.slice (In.kA i) (In.kn i) (In.kc i), Value.slice (In.tA i) (In.tn i) (In.tc i), Value.string (In.r1 i), Value.string (In.r2 i), Value.string (In.r3 i), Value.string (In.s i)])] W (VlRet w0 W b h (brS i r) lA lc sv (.tuple #[.int .i64 (brT i r), .bool (brY i r)])) := by
  have hb1 := below_al (Below.refl W.heap.size W) (.cells #[.int .i64 i.op, .int .i64 i.a, .int .i64 i.b, .int .i64 i.t, .slice i.kA i.kn i.kc, .slice i.tA i.tn i.tc, .string i.r1, .string i.r2, .string i.r3, .string i.s] 29)
  have HB := Lib.hid hb1
  have HH := Lib.hid (H.up hb1)
  have R := World.alloc_heap_new W (.cells #[.int .i64 i.op, .int .i64 i.a, .int .i64 i.b, .int .i64 i.t, .slice i.kA i.kn i.kc, .slice i.tA i.tn i.tc, .string i.r1, .string i.r2, .string i.r3, .string i.s] 29)
  have hxb : W.heap.size ≠ b := fun e => by have := lt_heapV H.box; omega
  have hxs : sv.ownBlock ≠ some W.heap.size := fun e => by have := (H.own.lt _ e).2; omega
  have hz1 : W.heap.size < (W.alloc (.cells #[.int .i64 i.op, .int .i64 i.a, .int .i64 i.b, .int .i64 i.t, .slice i.kA i.kn i.kc, .slice i.tA i.tn i.tc, .string i.r1, .string i.r2, .string i.r3, .string i.s] 29)).heap.size := by simp
  have HOP := Lib.hid hop
  have HI := Lib.hid hi
  have HVr := Lib.hid (topV_rg hv)
  have HRA := Lib.hid hra
  have hT : brT i r = i.t := by unfold brT; rw [hop]; rfl
  have hY : brY i r = condV 40 (topV r.ss).2 0 := by unfold brY; rw [hop]; rfl
  have hS : brS i r = popS 1 r := by unfold brS; rw [hop]; rfl
  rw [hT, hY, hS]
  clear H hop hi hra hv hT hY hS
  obtain ⟨r1', hr1'⟩ : ∃ r1', popS 1 r = r1' := ⟨_, rfl⟩
  obtain ⟨x, hx⟩ : ∃ x, (topV r.ss).2 = x := ⟨_, rfl⟩
  rw [hr1', hx]
  rw [hx] at HVr
  have hs1 := popS_ss 1 r
  rw [hr1'] at hs1
  have HEQ := Lib.hid (And.intro hr1' hx)
  clear hr1' hx
  go_enter Try.func18, Try.ntmps18
  go_upto_region 1 with fail
  generalize W.alloc (.cells #[.int .i64 i.op, .int .i64 i.a, .int .i64 i.b, .int .i64 i.t, .slice i.kA i.kn i.kc, .slice i.tA i.tn i.tc, .string i.r1, .string i.r2, .string i.r3, .string i.s] 29) = W1 at hb1 HB HH R hz1 ⊢
  obtain ⟨r0, r1, r2, r3, r4, r5, r6, r7, r8, r9⟩ := ten_cells R
  rw [HOP.out] at r0
  have HX := Lib.hid R
  have HP := Lib.hid (fun (u : World) (hu : Below W1.heap.size W1 u) => pop_any (W := u) 1 (HH.out.up hu) (by omega))
  rw [HEQ.out.1, HEQ.out.2] at HP
  go_wp2_with (first | (go_at_call 28; refine (HP.out _ (by first | exact Below.refl _ _ | exact (Below.refl _ _).drew)).mono ?_; rintro e w3 ⟨rfl, sv3, hr3, hk3, hl3⟩; have hx3 := (hk3.block W.heap.size hz1 hxb hxs).trans HX.out; obtain ⟨d0, d1, d2, d3, d4, d5, d6, d7, d8, d9⟩ := ten_cells hx3; rw [HOP.out] at d0; have hz3 := lt_heapV hx3; have hxs3 : sv3.ownBlock ≠ some W.heap.size := (fun e => by rcases hl3 with e2 | ⟨g, e2, hg⟩; (rw [e2] at e; exact hxs e); (rw [e2] at e; have := Option.some.inj e; omega))) | (go_at_call 30; refine (cond_any 40 x 0 _).mono ?_; rintro e w6 ⟨rfl, rfl⟩))
  go_ret2
  exact ⟨rfl, sv3, hr3, hk3.below_ HB.out, hl3.below_ HB.out⟩
set_option maxRecDepth 100000 in
set_option maxHeartbeats 1000000 in
theorem br_41 {w0 W : World} {b : Nat} {h : Hd8} {r : Rs} {lA : Option Addr} {lc : Nat} {sv : Value} (i : In) (hop : i.op = 41) (H : RunSt w0 W b h r lA lc sv) (hl : r.ss.length ≤ 900000) (hi : i.ok w0 w0.heap.size) (h1 : i.kn ≤ 9223372036854775807) (h2 : i.tn ≤ 9223372036854775807) (hra : Rg i.a) (hv : VsIn r.ss) :
    Calls Try.prog 18 #[.pointer (some ⟨b, 0, none⟩), (Value.agg #[Value.int IntKind.i64 (In.op i), Value.int IntKind.i64 (In.a i), Value.int IntKind.i64 (In.b i), Value.int IntKind.i64 (In.t i), Value.slice (In.kA i) (In.kn i) (In.kc i), Value.slice (In.tA i) (In.tn i) (In.tc i), Value.string (In.r1 i), Value.string (In.r2 i), Value.string (In.r3 i), Value.string (In.s i)])] W (VlRet w0 W b h (brS i r) lA lc sv (.tuple #[.int .i64 (brT i r), .bool (brY i r)])) := by
  have hb1 := below_al (Below.refl W.heap.size W) (.cells #[.int .i64 i.op, .int .i64 i.a, .int .i64 i.b, .int .i64 i.t, .slice i.kA i.kn i.kc, .slice i.tA i.tn i.tc, .string i.r1, .string i.r2, .string i.r3, .string i.s] 29)
  have HB := Lib.hid hb1
  have HH := Lib.hid (H.up hb1)
  have R := World.alloc_heap_new W (.cells #[.int .i64 i.op, .int .i64 i.a, .int .i64 i.b, .int .i64 i.t, .slice i.kA i.kn i.kc, .slice i.tA i.tn i.tc, .string i.r1, .string i.r2, .string i.r3, .string i.s] 29)
  have hxb : W.heap.size ≠ b := fun e => by have := lt_heapV H.box; omega
  have hxs : sv.ownBlock ≠ some W.heap.size := fun e => by have := (H.own.lt _ e).2; omega
  have hz1 : W.heap.size < (W.alloc (.cells #[.int .i64 i.op, .int .i64 i.a, .int .i64 i.b, .int .i64 i.t, .slice i.kA i.kn i.kc, .slice i.tA i.tn i.tc, .string i.r1, .string i.r2, .string i.r3, .string i.s] 29)).heap.size := by simp
  have HOP := Lib.hid hop
  have HI := Lib.hid hi
  have HVr := Lib.hid (topV_rg hv)
  have HRA := Lib.hid hra
  have hT : brT i r = i.t := by unfold brT; rw [hop]; rfl
  have hY : brY i r = condV 41 (topV r.ss).2 0 := by unfold brY; rw [hop]; rfl
  have hS : brS i r = popS 1 r := by unfold brS; rw [hop]; rfl
  rw [hT, hY, hS]
  clear H hop hi hra hv hT hY hS
  obtain ⟨r1', hr1'⟩ : ∃ r1', popS 1 r = r1' := ⟨_, rfl⟩
  obtain ⟨x, hx⟩ : ∃ x, (topV r.ss).2 = x := ⟨_, rfl⟩
  rw [hr1', hx]
  rw [hx] at HVr
  have hs1 := popS_ss 1 r
  rw [hr1'] at hs1
  have HEQ := Lib.hid (And.intro hr1' hx)
  clear hr1' hx
  go_enter Try.func18, Try.ntmps18
  go_upto_region 1 with fail
  generalize W.alloc (.cells #[.int .i64 i.op, .int .i64 i.a, .int .i64 i.b, .int .i64 i.t, .slice i.kA i.kn i.kc, .slice i.tA i.tn i.tc, .string i.r1, .string i.r2, .string i.r3, .string i.s] 29) = W1 at hb1 HB HH R hz1 ⊢
  obtain ⟨r0, r1, r2, r3, r4, r5, r6, r7, r8, r9⟩ := ten_cells R
  rw [HOP.out] at r0
  have HX := Lib.hid R
  have HP := Lib.hid (fun (u : World) (hu : Below W1.heap.size W1 u) => pop_any (W := u) 1 (HH.out.up hu) (by omega))
  rw [HEQ.out.1, HEQ.out.2] at HP
  go_wp2_with (first | (go_at_call 28; refine (HP.out _ (by first | exact Below.refl _ _ | exact (Below.refl _ _).drew)).mono ?_; rintro e w3 ⟨rfl, sv3, hr3, hk3, hl3⟩; have hx3 := (hk3.block W.heap.size hz1 hxb hxs).trans HX.out; obtain ⟨d0, d1, d2, d3, d4, d5, d6, d7, d8, d9⟩ := ten_cells hx3; rw [HOP.out] at d0; have hz3 := lt_heapV hx3; have hxs3 : sv3.ownBlock ≠ some W.heap.size := (fun e => by rcases hl3 with e2 | ⟨g, e2, hg⟩; (rw [e2] at e; exact hxs e); (rw [e2] at e; have := Option.some.inj e; omega))) | (go_at_call 30; refine (cond_any 41 x 0 _).mono ?_; rintro e w6 ⟨rfl, rfl⟩))
  go_ret2
  exact ⟨rfl, sv3, hr3, hk3.below_ HB.out, hl3.below_ HB.out⟩
set_option maxRecDepth 100000 in
set_option maxHeartbeats 1000000 in
theorem br_42 {w0 W : World} {b : Nat} {h : Hd8} {r : Rs} {lA : Option Addr} {lc : Nat} {sv : Value} (i : In) (hop : i.op = 42) (H : RunSt w0 W b h r lA lc sv) (hl : r.ss.length ≤ 900000) (hi : i.ok w0 w0.heap.size) (h1 : i.kn ≤ 9223372036854775807) (h2 : i.tn ≤ 9223372036854775807) (hra : Rg i.a) (hv : VsIn r.ss) :
    Calls Try.prog 18 #[.pointer (some ⟨b, 0, none⟩), (Value.agg #[Value.int IntKind.i64 (In.op i), Value.int IntKind.i64 (In.a i), Value.int IntKind.i64 (In.b i), Value.int IntKind.i64 (In.t i), Value.slice (In.kA i) (In.kn i) (In.kc i), Value.slice (In.tA i) (In.tn i) (In.tc i), Value.string (In.r1 i), Value.string (In.r2 i), Value.string (In.r3 i), Value.string (In.s i)])] W (VlRet w0 W b h (brS i r) lA lc sv (.tuple #[.int .i64 (brT i r), .bool (brY i r)])) := by
  have hb1 := below_al (Below.refl W.heap.size W) (.cells #[.int .i64 i.op, .int .i64 i.a, .int .i64 i.b, .int .i64 i.t, .slice i.kA i.kn i.kc, .slice i.tA i.tn i.tc, .string i.r1, .string i.r2, .string i.r3, .string i.s] 29)
  have HB := Lib.hid hb1
  have HH := Lib.hid (H.up hb1)
  have R := World.alloc_heap_new W (.cells #[.int .i64 i.op, .int .i64 i.a, .int .i64 i.b, .int .i64 i.t, .slice i.kA i.kn i.kc, .slice i.tA i.tn i.tc, .string i.r1, .string i.r2, .string i.r3, .string i.s] 29)
  have hxb : W.heap.size ≠ b := fun e => by have := lt_heapV H.box; omega
  have hxs : sv.ownBlock ≠ some W.heap.size := fun e => by have := (H.own.lt _ e).2; omega
  have hz1 : W.heap.size < (W.alloc (.cells #[.int .i64 i.op, .int .i64 i.a, .int .i64 i.b, .int .i64 i.t, .slice i.kA i.kn i.kc, .slice i.tA i.tn i.tc, .string i.r1, .string i.r2, .string i.r3, .string i.s] 29)).heap.size := by simp
  have HOP := Lib.hid hop
  have HI := Lib.hid hi
  have HVr := Lib.hid (topV_rg hv)
  have HRA := Lib.hid hra
  have hT : brT i r = i.t := by unfold brT; rw [hop]; rfl
  have hY : brY i r = condV 42 (topV (popS 1 r).ss).2 (topV r.ss).2 := by unfold brY; rw [hop]; rfl
  have hS : brS i r = popS 1 (popS 1 r) := by unfold brS; rw [hop]; rfl
  rw [hT, hY, hS]
  clear H hop hi hra hv hT hY hS
  obtain ⟨r1', hr1'⟩ : ∃ r1', popS 1 r = r1' := ⟨_, rfl⟩
  obtain ⟨x, hx⟩ : ∃ x, (topV r.ss).2 = x := ⟨_, rfl⟩
  obtain ⟨r2', hr2'⟩ : ∃ r2', popS 1 r1' = r2' := ⟨_, rfl⟩
  obtain ⟨y, hy⟩ : ∃ y, (topV r1'.ss).2 = y := ⟨_, rfl⟩
  rw [hr1', hx, hr2', hy]
  rw [hx] at HVr
  have hs1 := popS_ss 1 r
  rw [hr1'] at hs1
  have HEQ := Lib.hid (And.intro hr1' hx)
  have HP2 := Lib.hid (fun (W : World) (sv : Value) (H : RunSt w0 W b h r1' lA lc sv) => show Calls Try.prog 28 #[.pointer (some ⟨b, 0, none⟩), .int .i64 1] W (VlRet w0 W b h r2' lA lc sv (.int .i64 y)) by have := pop_any 1 H (by omega); rw [hr2', hy] at this; exact this)
  clear hr1' hx hr2' hy
  go_enter Try.func18, Try.ntmps18
  go_upto_region 1 with fail
  generalize W.alloc (.cells #[.int .i64 i.op, .int .i64 i.a, .int .i64 i.b, .int .i64 i.t, .slice i.kA i.kn i.kc, .slice i.tA i.tn i.tc, .string i.r1, .string i.r2, .string i.r3, .string i.s] 29) = W1 at hb1 HB HH R hz1 ⊢
  obtain ⟨r0, r1, r2, r3, r4, r5, r6, r7, r8, r9⟩ := ten_cells R
  rw [HOP.out] at r0
  have HX := Lib.hid R
  have HP := Lib.hid (fun (u : World) (hu : Below W1.heap.size W1 u) => pop_any (W := u) 1 (HH.out.up hu) (by omega))
  rw [HEQ.out.1, HEQ.out.2] at HP
  go_wp2_with (first | (go_at_call 28; refine (HP2.out _ _ hr3).mono ?_; rintro e w4 ⟨rfl, sv4, hr4, hk4, hl4⟩; have hx4 := (hk4.block W.heap.size hz3 hxb hxs3).trans hx3; obtain ⟨g0, g1, g2, g3, g4, g5, g6, g7, g8, g9⟩ := ten_cells hx4; rw [HOP.out] at g0) | (go_at_call 28; refine (HP.out _ (by first | exact Below.refl _ _ | exact (Below.refl _ _).drew)).mono ?_; rintro e w3 ⟨rfl, sv3, hr3, hk3, hl3⟩; have hx3 := (hk3.block W.heap.size hz1 hxb hxs).trans HX.out; obtain ⟨d0, d1, d2, d3, d4, d5, d6, d7, d8, d9⟩ := ten_cells hx3; rw [HOP.out] at d0; have hz3 := lt_heapV hx3; have hxs3 : sv3.ownBlock ≠ some W.heap.size := (fun e => by rcases hl3 with e2 | ⟨g, e2, hg⟩; (rw [e2] at e; exact hxs e); (rw [e2] at e; have := Option.some.inj e; omega))) | (go_at_call 30; refine (cond_any 42 y x _).mono ?_; rintro e w6 ⟨rfl, rfl⟩))
  go_ret2
  exact ⟨rfl, sv4, hr4, (hk3.below_ HB.out).trans (hl3.below_ HB.out) hk4, (hl3.below_ HB.out).trans (hk3.below_ HB.out).size hl4⟩
set_option maxRecDepth 100000 in
set_option maxHeartbeats 1000000 in
theorem br_43 {w0 W : World} {b : Nat} {h : Hd8} {r : Rs} {lA : Option Addr} {lc : Nat} {sv : Value} (i : In) (hop : i.op = 43) (H : RunSt w0 W b h r lA lc sv) (hl : r.ss.length ≤ 900000) (hi : i.ok w0 w0.heap.size) (h1 : i.kn ≤ 9223372036854775807) (h2 : i.tn ≤ 9223372036854775807) (hra : Rg i.a) (hv : VsIn r.ss) :
    Calls Try.prog 18 #[.pointer (some ⟨b, 0, none⟩), (Value.agg #[Value.int IntKind.i64 (In.op i), Value.int IntKind.i64 (In.a i), Value.int IntKind.i64 (In.b i), Value.int IntKind.i64 (In.t i), Value.slice (In.kA i) (In.kn i) (In.kc i), Value.slice (In.tA i) (In.tn i) (In.tc i), Value.string (In.r1 i), Value.string (In.r2 i), Value.string (In.r3 i), Value.string (In.s i)])] W (VlRet w0 W b h (brS i r) lA lc sv (.tuple #[.int .i64 (brT i r), .bool (brY i r)])) := by
  have hb1 := below_al (Below.refl W.heap.size W) (.cells #[.int .i64 i.op, .int .i64 i.a, .int .i64 i.b, .int .i64 i.t, .slice i.kA i.kn i.kc, .slice i.tA i.tn i.tc, .string i.r1, .string i.r2, .string i.r3, .string i.s] 29)
  have HB := Lib.hid hb1
  have HH := Lib.hid (H.up hb1)
  have R := World.alloc_heap_new W (.cells #[.int .i64 i.op, .int .i64 i.a, .int .i64 i.b, .int .i64 i.t, .slice i.kA i.kn i.kc, .slice i.tA i.tn i.tc, .string i.r1, .string i.r2, .string i.r3, .string i.s] 29)
  have hxb : W.heap.size ≠ b := fun e => by have := lt_heapV H.box; omega
  have hxs : sv.ownBlock ≠ some W.heap.size := fun e => by have := (H.own.lt _ e).2; omega
  have hz1 : W.heap.size < (W.alloc (.cells #[.int .i64 i.op, .int .i64 i.a, .int .i64 i.b, .int .i64 i.t, .slice i.kA i.kn i.kc, .slice i.tA i.tn i.tc, .string i.r1, .string i.r2, .string i.r3, .string i.s] 29)).heap.size := by simp
  have HOP := Lib.hid hop
  have HI := Lib.hid hi
  have HVr := Lib.hid (topV_rg hv)
  have HRA := Lib.hid hra
  have hT : brT i r = i.t := by unfold brT; rw [hop]; rfl
  have hY : brY i r = condV 43 (topV (popS 1 r).ss).2 (topV r.ss).2 := by unfold brY; rw [hop]; rfl
  have hS : brS i r = popS 1 (popS 1 r) := by unfold brS; rw [hop]; rfl
  rw [hT, hY, hS]
  clear H hop hi hra hv hT hY hS
  obtain ⟨r1', hr1'⟩ : ∃ r1', popS 1 r = r1' := ⟨_, rfl⟩
  obtain ⟨x, hx⟩ : ∃ x, (topV r.ss).2 = x := ⟨_, rfl⟩
  obtain ⟨r2', hr2'⟩ : ∃ r2', popS 1 r1' = r2' := ⟨_, rfl⟩
  obtain ⟨y, hy⟩ : ∃ y, (topV r1'.ss).2 = y := ⟨_, rfl⟩
  rw [hr1', hx, hr2', hy]
  rw [hx] at HVr
  have hs1 := popS_ss 1 r
  rw [hr1'] at hs1
  have HEQ := Lib.hid (And.intro hr1' hx)
  have HP2 := Lib.hid (fun (W : World) (sv : Value) (H : RunSt w0 W b h r1' lA lc sv) => show Calls Try.prog 28 #[.pointer (some ⟨b, 0, none⟩), .int .i64 1] W (VlRet w0 W b h r2' lA lc sv (.int .i64 y)) by have := pop_any 1 H (by omega); rw [hr2', hy] at this; exact this)
  clear hr1' hx hr2' hy
  go_enter Try.func18, Try.ntmps18
  go_upto_region 1 with fail
  generalize W.alloc (.cells #[.int .i64 i.op, .int .i64 i.a, .int .i64 i.b, .int .i64 i.t, .slice i.kA i.kn i.kc, .slice i.tA i.tn i.tc, .string i.r1, .string i.r2, .string i.r3, .string i.s] 29) = W1 at hb1 HB HH R hz1 ⊢
  obtain ⟨r0, r1, r2, r3, r4, r5, r6, r7, r8, r9⟩ := ten_cells R
  rw [HOP.out] at r0
  have HX := Lib.hid R
  have HP := Lib.hid (fun (u : World) (hu : Below W1.heap.size W1 u) => pop_any (W := u) 1 (HH.out.up hu) (by omega))
  rw [HEQ.out.1, HEQ.out.2] at HP
  go_wp2_with (first | (go_at_call 28; refine (HP2.out _ _ hr3).mono ?_; rintro e w4 ⟨rfl, sv4, hr4, hk4, hl4⟩; have hx4 := (hk4.block W.heap.size hz3 hxb hxs3).trans hx3; obtain ⟨g0, g1, g2, g3, g4, g5, g6, g7, g8, g9⟩ := ten_cells hx4; rw [HOP.out] at g0) | (go_at_call 28; refine (HP.out _ (by first | exact Below.refl _ _ | exact (Below.refl _ _).drew)).mono ?_; rintro e w3 ⟨rfl, sv3, hr3, hk3, hl3⟩; have hx3 := (hk3.block W.heap.size hz1 hxb hxs).trans HX.out; obtain ⟨d0, d1, d2, d3, d4, d5, d6, d7, d8, d9⟩ := ten_cells hx3; rw [HOP.out] at d0; have hz3 := lt_heapV hx3; have hxs3 : sv3.ownBlock ≠ some W.heap.size := (fun e => by rcases hl3 with e2 | ⟨g, e2, hg⟩; (rw [e2] at e; exact hxs e); (rw [e2] at e; have := Option.some.inj e; omega))) | (go_at_call 30; refine (cond_any 43 y x _).mono ?_; rintro e w6 ⟨rfl, rfl⟩))
  go_ret2
  exact ⟨rfl, sv4, hr4, (hk3.below_ HB.out).trans (hl3.below_ HB.out) hk4, (hl3.below_ HB.out).trans (hk3.below_ HB.out).size hl4⟩
set_option maxRecDepth 100000 in
set_option maxHeartbeats 1000000 in
theorem br_44 {w0 W : World} {b : Nat} {h : Hd8} {r : Rs} {lA : Option Addr} {lc : Nat} {sv : Value} (i : In) (hop : i.op = 44) (H : RunSt w0 W b h r lA lc sv) (hl : r.ss.length ≤ 900000) (hi : i.ok w0 w0.heap.size) (h1 : i.kn ≤ 9223372036854775807) (h2 : i.tn ≤ 9223372036854775807) (hra : Rg i.a) (hv : VsIn r.ss) :
    Calls Try.prog 18 #[.pointer (some ⟨b, 0, none⟩), (Value.agg #[Value.int IntKind.i64 (In.op i), Value.int IntKind.i64 (In.a i), Value.int IntKind.i64 (In.b i), Value.int IntKind.i64 (In.t i), Value.slice (In.kA i) (In.kn i) (In.kc i), Value.slice (In.tA i) (In.tn i) (In.tc i), Value.string (In.r1 i), Value.string (In.r2 i), Value.string (In.r3 i), Value.string (In.s i)])] W (VlRet w0 W b h (brS i r) lA lc sv (.tuple #[.int .i64 (brT i r), .bool (brY i r)])) := by
  have hb1 := below_al (Below.refl W.heap.size W) (.cells #[.int .i64 i.op, .int .i64 i.a, .int .i64 i.b, .int .i64 i.t, .slice i.kA i.kn i.kc, .slice i.tA i.tn i.tc, .string i.r1, .string i.r2, .string i.r3, .string i.s] 29)
  have HB := Lib.hid hb1
  have HH := Lib.hid (H.up hb1)
  have R := World.alloc_heap_new W (.cells #[.int .i64 i.op, .int .i64 i.a, .int .i64 i.b, .int .i64 i.t, .slice i.kA i.kn i.kc, .slice i.tA i.tn i.tc, .string i.r1, .string i.r2, .string i.r3, .string i.s] 29)
  have hxb : W.heap.size ≠ b := fun e => by have := lt_heapV H.box; omega
  have hxs : sv.ownBlock ≠ some W.heap.size := fun e => by have := (H.own.lt _ e).2; omega
  have hz1 : W.heap.size < (W.alloc (.cells #[.int .i64 i.op, .int .i64 i.a, .int .i64 i.b, .int .i64 i.t, .slice i.kA i.kn i.kc, .slice i.tA i.tn i.tc, .string i.r1, .string i.r2, .string i.r3, .string i.s] 29)).heap.size := by simp
  have HOP := Lib.hid hop
  have HI := Lib.hid hi
  have HVr := Lib.hid (topV_rg hv)
  have HRA := Lib.hid hra
  have hT : brT i r = i.t := by unfold brT; rw [hop]; rfl
  have hY : brY i r = condV 44 (topV (popS 1 r).ss).2 (topV r.ss).2 := by unfold brY; rw [hop]; rfl
  have hS : brS i r = popS 1 (popS 1 r) := by unfold brS; rw [hop]; rfl
  rw [hT, hY, hS]
  clear H hop hi hra hv hT hY hS
  obtain ⟨r1', hr1'⟩ : ∃ r1', popS 1 r = r1' := ⟨_, rfl⟩
  obtain ⟨x, hx⟩ : ∃ x, (topV r.ss).2 = x := ⟨_, rfl⟩
  obtain ⟨r2', hr2'⟩ : ∃ r2', popS 1 r1' = r2' := ⟨_, rfl⟩
  obtain ⟨y, hy⟩ : ∃ y, (topV r1'.ss).2 = y := ⟨_, rfl⟩
  rw [hr1', hx, hr2', hy]
  rw [hx] at HVr
  have hs1 := popS_ss 1 r
  rw [hr1'] at hs1
  have HEQ := Lib.hid (And.intro hr1' hx)
  have HP2 := Lib.hid (fun (W : World) (sv : Value) (H : RunSt w0 W b h r1' lA lc sv) => show Calls Try.prog 28 #[.pointer (some ⟨b, 0, none⟩), .int .i64 1] W (VlRet w0 W b h r2' lA lc sv (.int .i64 y)) by have := pop_any 1 H (by omega); rw [hr2', hy] at this; exact this)
  clear hr1' hx hr2' hy
  go_enter Try.func18, Try.ntmps18
  go_upto_region 1 with fail
  generalize W.alloc (.cells #[.int .i64 i.op, .int .i64 i.a, .int .i64 i.b, .int .i64 i.t, .slice i.kA i.kn i.kc, .slice i.tA i.tn i.tc, .string i.r1, .string i.r2, .string i.r3, .string i.s] 29) = W1 at hb1 HB HH R hz1 ⊢
  obtain ⟨r0, r1, r2, r3, r4, r5, r6, r7, r8, r9⟩ := ten_cells R
  rw [HOP.out] at r0
  have HX := Lib.hid R
  have HP := Lib.hid (fun (u : World) (hu : Below W1.heap.size W1 u) => pop_any (W := u) 1 (HH.out.up hu) (by omega))
  rw [HEQ.out.1, HEQ.out.2] at HP
  go_wp2_with (first | (go_at_call 28; refine (HP2.out _ _ hr3).mono ?_; rintro e w4 ⟨rfl, sv4, hr4, hk4, hl4⟩; have hx4 := (hk4.block W.heap.size hz3 hxb hxs3).trans hx3; obtain ⟨g0, g1, g2, g3, g4, g5, g6, g7, g8, g9⟩ := ten_cells hx4; rw [HOP.out] at g0) | (go_at_call 28; refine (HP.out _ (by first | exact Below.refl _ _ | exact (Below.refl _ _).drew)).mono ?_; rintro e w3 ⟨rfl, sv3, hr3, hk3, hl3⟩; have hx3 := (hk3.block W.heap.size hz1 hxb hxs).trans HX.out; obtain ⟨d0, d1, d2, d3, d4, d5, d6, d7, d8, d9⟩ := ten_cells hx3; rw [HOP.out] at d0; have hz3 := lt_heapV hx3; have hxs3 : sv3.ownBlock ≠ some W.heap.size := (fun e => by rcases hl3 with e2 | ⟨g, e2, hg⟩; (rw [e2] at e; exact hxs e); (rw [e2] at e; have := Option.some.inj e; omega))) | (go_at_call 30; refine (cond_any 44 y x _).mono ?_; rintro e w6 ⟨rfl, rfl⟩))
  go_ret2
  exact ⟨rfl, sv4, hr4, (hk3.below_ HB.out).trans (hl3.below_ HB.out) hk4, (hl3.below_ HB.out).trans (hk3.below_ HB.out).size hl4⟩
set_option maxRecDepth 100000 in
set_option maxHeartbeats 1000000 in
theorem br_45 {w0 W : World} {b : Nat} {h : Hd8} {r : Rs} {lA : Option Addr} {lc : Nat} {sv : Value} (i : In) (hop : i.op = 45) (H : RunSt w0 W b h r lA lc sv) (hl : r.ss.length ≤ 900000) (hi : i.ok w0 w0.heap.size) (h1 : i.kn ≤ 9223372036854775807) (h2 : i.tn ≤ 9223372036854775807) (hra : Rg i.a) (hv : VsIn r.ss) :
    Calls Try.prog 18 #[.pointer (some ⟨b, 0, none⟩), (Value.agg #[Value.int IntKind.i64 (In.op i), Value.int IntKind.i64 (In.a i), Value.int IntKind.i64 (In.b i), Value.int IntKind.i64 (In.t i), Value.slice (In.kA i) (In.kn i) (In.kc i), Value.slice (In.tA i) (In.tn i) (In.tc i), Value.string (In.r1 i), Value.string (In.r2 i), Value.string (In.r3 i), Value.string (In.s i)])] W (VlRet w0 W b h (brS i r) lA lc sv (.tuple #[.int .i64 (brT i r), .bool (brY i r)])) := by
  have hb1 := below_al (Below.refl W.heap.size W) (.cells #[.int .i64 i.op, .int .i64 i.a, .int .i64 i.b, .int .i64 i.t, .slice i.kA i.kn i.kc, .slice i.tA i.tn i.tc, .string i.r1, .string i.r2, .string i.r3, .string i.s] 29)
  have HB := Lib.hid hb1
  have HH := Lib.hid (H.up hb1)
  have R := World.alloc_heap_new W (.cells #[.int .i64 i.op, .int .i64 i.a, .int .i64 i.b, .int .i64 i.t, .slice i.kA i.kn i.kc, .slice i.tA i.tn i.tc, .string i.r1, .string i.r2, .string i.r3, .string i.s] 29)
  have hxb : W.heap.size ≠ b := fun e => by have := lt_heapV H.box; omega
  have hxs : sv.ownBlock ≠ some W.heap.size := fun e => by have := (H.own.lt _ e).2; omega
  have hz1 : W.heap.size < (W.alloc (.cells #[.int .i64 i.op, .int .i64 i.a, .int .i64 i.b, .int .i64 i.t, .slice i.kA i.kn i.kc, .slice i.tA i.tn i.tc, .string i.r1, .string i.r2, .string i.r3, .string i.s] 29)).heap.size := by simp
  have HOP := Lib.hid hop
  have HI := Lib.hid hi
  have HVr := Lib.hid (topV_rg hv)
  have HRA := Lib.hid hra
  have hT : brT i r = i.t := by unfold brT; rw [hop]; rfl
  have hY : brY i r = condV 45 (topV (popS 1 r).ss).2 (topV r.ss).2 := by unfold brY; rw [hop]; rfl
  have hS : brS i r = popS 1 (popS 1 r) := by unfold brS; rw [hop]; rfl
  rw [hT, hY, hS]
  clear H hop hi hra hv hT hY hS
  obtain ⟨r1', hr1'⟩ : ∃ r1', popS 1 r = r1' := ⟨_, rfl⟩
  obtain ⟨x, hx⟩ : ∃ x, (topV r.ss).2 = x := ⟨_, rfl⟩
  obtain ⟨r2', hr2'⟩ : ∃ r2', popS 1 r1' = r2' := ⟨_, rfl⟩
  obtain ⟨y, hy⟩ : ∃ y, (topV r1'.ss).2 = y := ⟨_, rfl⟩
  rw [hr1', hx, hr2', hy]
  rw [hx] at HVr
  have hs1 := popS_ss 1 r
  rw [hr1'] at hs1
  have HEQ := Lib.hid (And.intro hr1' hx)
  have HP2 := Lib.hid (fun (W : World) (sv : Value) (H : RunSt w0 W b h r1' lA lc sv) => show Calls Try.prog 28 #[.pointer (some ⟨b, 0, none⟩), .int .i64 1] W (VlRet w0 W b h r2' lA lc sv (.int .i64 y)) by have := pop_any 1 H (by omega); rw [hr2', hy] at this; exact this)
  clear hr1' hx hr2' hy
  go_enter Try.func18, Try.ntmps18
  go_upto_region 1 with fail
  generalize W.alloc (.cells #[.int .i64 i.op, .int .i64 i.a, .int .i64 i.b, .int .i64 i.t, .slice i.kA i.kn i.kc, .slice i.tA i.tn i.tc, .string i.r1, .string i.r2, .string i.r3, .string i.s] 29) = W1 at hb1 HB HH R hz1 ⊢
  obtain ⟨r0, r1, r2, r3, r4, r5, r6, r7, r8, r9⟩ := ten_cells R
  rw [HOP.out] at r0
  have HX := Lib.hid R
  have HP := Lib.hid (fun (u : World) (hu : Below W1.heap.size W1 u) => pop_any (W := u) 1 (HH.out.up hu) (by omega))
  rw [HEQ.out.1, HEQ.out.2] at HP
  go_wp2_with (first | (go_at_call 28; refine (HP2.out _ _ hr3).mono ?_; rintro e w4 ⟨rfl, sv4, hr4, hk4, hl4⟩; have hx4 := (hk4.block W.heap.size hz3 hxb hxs3).trans hx3; obtain ⟨g0, g1, g2, g3, g4, g5, g6, g7, g8, g9⟩ := ten_cells hx4; rw [HOP.out] at g0) | (go_at_call 28; refine (HP.out _ (by first | exact Below.refl _ _ | exact (Below.refl _ _).drew)).mono ?_; rintro e w3 ⟨rfl, sv3, hr3, hk3, hl3⟩; have hx3 := (hk3.block W.heap.size hz1 hxb hxs).trans HX.out; obtain ⟨d0, d1, d2, d3, d4, d5, d6, d7, d8, d9⟩ := ten_cells hx3; rw [HOP.out] at d0; have hz3 := lt_heapV hx3; have hxs3 : sv3.ownBlock ≠ some W.heap.size := (fun e => by rcases hl3 with e2 | ⟨g, e2, hg⟩; (rw [e2] at e; exact hxs e); (rw [e2] at e; have := Option.some.inj e; omega))) | (go_at_call 30; refine (cond_any 45 y x _).mono ?_; rintro e w6 ⟨rfl, rfl⟩))
  go_ret2
  exact ⟨rfl, sv4, hr4, (hk3.below_ HB.out).trans (hl3.below_ HB.out) hk4, (hl3.below_ HB.out).trans (hk3.below_ HB.out).size hl4⟩
set_option maxRecDepth 100000 in
set_option maxHeartbeats 1000000 in
theorem br_46 {w0 W : World} {b : Nat} {h : Hd8} {r : Rs} {lA : Option Addr} {lc : Nat} {sv : Value} (i : In) (hop : i.op = 46) (H : RunSt w0 W b h r lA lc sv) (hl : r.ss.length ≤ 900000) (hi : i.ok w0 w0.heap.size) (h1 : i.kn ≤ 9223372036854775807) (h2 : i.tn ≤ 9223372036854775807) (hra : Rg i.a) (hv : VsIn r.ss) :
    Calls Try.prog 18 #[.pointer (some ⟨b, 0, none⟩), (Value.agg #[Value.int IntKind.i64 (In.op i), Value.int IntKind.i64 (In.a i), Value.int IntKind.i64 (In.b i), Value.int IntKind.i64 (In.t i), Value.slice (In.kA i) (In.kn i) (In.kc i), Value.slice (In.tA i) (In.tn i) (In.tc i), Value.string (In.r1 i), Value.string (In.r2 i), Value.string (In.r3 i), Value.string (In.s i)])] W (VlRet w0 W b h (brS i r) lA lc sv (.tuple #[.int .i64 (brT i r), .bool (brY i r)])) := by
  have hb1 := below_al (Below.refl W.heap.size W) (.cells #[.int .i64 i.op, .int .i64 i.a, .int .i64 i.b, .int .i64 i.t, .slice i.kA i.kn i.kc, .slice i.tA i.tn i.tc, .string i.r1, .string i.r2, .string i.r3, .string i.s] 29)
  have HB := Lib.hid hb1
  have HH := Lib.hid (H.up hb1)
  have R := World.alloc_heap_new W (.cells #[.int .i64 i.op, .int .i64 i.a, .int .i64 i.b, .int .i64 i.t, .slice i.kA i.kn i.kc, .slice i.tA i.tn i.tc, .string i.r1, .string i.r2, .string i.r3, .string i.s] 29)
  have hxb : W.heap.size ≠ b := fun e => by have := lt_heapV H.box; omega
  have hxs : sv.ownBlock ≠ some W.heap.size := fun e => by have := (H.own.lt _ e).2; omega
  have hz1 : W.heap.size < (W.alloc (.cells #[.int .i64 i.op, .int .i64 i.a, .int .i64 i.b, .int .i64 i.t, .slice i.kA i.kn i.kc, .slice i.tA i.tn i.tc, .string i.r1, .string i.r2, .string i.r3, .string i.s] 29)).heap.size := by simp
  have HOP := Lib.hid hop
  have HI := Lib.hid hi
  have HVr := Lib.hid (topV_rg hv)
  have HRA := Lib.hid hra
  have hT : brT i r = i.t := by unfold brT; rw [hop]; rfl
  have hY : brY i r = condV 46 (topV (popS 1 r).ss).2 (topV r.ss).2 := by unfold brY; rw [hop]; rfl
  have hS : brS i r = popS 1 (popS 1 r) := by unfold brS; rw [hop]; rfl
  rw [hT, hY, hS]
  clear H hop hi hra hv hT hY hS
  obtain ⟨r1', hr1'⟩ : ∃ r1', popS 1 r = r1' := ⟨_, rfl⟩
  obtain ⟨x, hx⟩ : ∃ x, (topV r.ss).2 = x := ⟨_, rfl⟩
  obtain ⟨r2', hr2'⟩ : ∃ r2', popS 1 r1' = r2' := ⟨_, rfl⟩
  obtain ⟨y, hy⟩ : ∃ y, (topV r1'.ss).2 = y := ⟨_, rfl⟩
  rw [hr1', hx, hr2', hy]
  rw [hx] at HVr
  have hs1 := popS_ss 1 r
  rw [hr1'] at hs1
  have HEQ := Lib.hid (And.intro hr1' hx)
  have HP2 := Lib.hid (fun (W : World) (sv : Value) (H : RunSt w0 W b h r1' lA lc sv) => show Calls Try.prog 28 #[.pointer (some ⟨b, 0, none⟩), .int .i64 1] W (VlRet w0 W b h r2' lA lc sv (.int .i64 y)) by have := pop_any 1 H (by omega); rw [hr2', hy] at this; exact this)
  clear hr1' hx hr2' hy
  go_enter Try.func18, Try.ntmps18
  go_upto_region 1 with fail
  generalize W.alloc (.cells #[.int .i64 i.op, .int .i64 i.a, .int .i64 i.b, .int .i64 i.t, .slice i.kA i.kn i.kc, .slice i.tA i.tn i.tc, .string i.r1, .string i.r2, .string i.r3, .string i.s] 29) = W1 at hb1 HB HH R hz1 ⊢
  obtain ⟨r0, r1, r2, r3, r4, r5, r6, r7, r8, r9⟩ := ten_cells R
  rw [HOP.out] at r0
  have HX := Lib.hid R
  have HP := Lib.hid (fun (u : World) (hu : Below W1.heap.size W1 u) => pop_any (W := u) 1 (HH.out.up hu) (by omega))
  rw [HEQ.out.1, HEQ.out.2] at HP
  go_wp2_with (first | (go_at_call 28; refine (HP2.out _ _ hr3).mono ?_; rintro e w4 ⟨rfl, sv4, hr4, hk4, hl4⟩; have hx4 := (hk4.block W.heap.size hz3 hxb hxs3).trans hx3; obtain ⟨g0, g1, g2, g3, g4, g5, g6, g7, g8, g9⟩ := ten_cells hx4; rw [HOP.out] at g0) | (go_at_call 28; refine (HP.out _ (by first | exact Below.refl _ _ | exact (Below.refl _ _).drew)).mono ?_; rintro e w3 ⟨rfl, sv3, hr3, hk3, hl3⟩; have hx3 := (hk3.block W.heap.size hz1 hxb hxs).trans HX.out; obtain ⟨d0, d1, d2, d3, d4, d5, d6, d7, d8, d9⟩ := ten_cells hx3; rw [HOP.out] at d0; have hz3 := lt_heapV hx3; have hxs3 : sv3.ownBlock ≠ some W.heap.size := (fun e => by rcases hl3 with e2 | ⟨g, e2, hg⟩; (rw [e2] at e; exact hxs e); (rw [e2] at e; have := Option.some.inj e; omega))) | (go_at_call 30; refine (cond_any 46 y x _).mono ?_; rintro e w6 ⟨rfl, rfl⟩))
  go_ret2
  exact ⟨rfl, sv4, hr4, (hk3.below_ HB.out).trans (hl3.below_ HB.out) hk4, (hl3.below_ HB.out).trans (hk3.below_ HB.out).size hl4⟩
set_option maxRecDepth 100000 in
set_option maxHeartbeats 1000000 in
theorem br_47 {w0 W : World} {b : Nat} {h : Hd8} {r : Rs} {lA : Option Addr} {lc : Nat} {sv : Value} (i : In) (hop : i.op = 47) (H : RunSt w0 W b h r lA lc sv) (hl : r.ss.length ≤ 900000) (hi : i.ok w0 w0.heap.size) (h1 : i.kn ≤ 9223372036854775807) (h2 : i.tn ≤ 9223372036854775807) (hra : Rg i.a) (hv : VsIn r.ss) :
    Calls Try.prog 18 #[.pointer (some ⟨b, 0, none⟩), (Value.agg #[Value.int IntKind.i64 (In.op i), Value.int IntKind.i64 (In.a i), Value.int IntKind.i64 (In.b i), Value.int IntKind.i64 (In.t i), Value.slice (In.kA i) (In.kn i) (In.kc i), Value.slice (In.tA i) (In.tn i) (In.tc i), Value.string (In.r1 i), Value.string (In.r2 i), Value.string (In.r3 i), Value.string (In.s i)])] W (VlRet w0 W b h (brS i r) lA lc sv (.tuple #[.int .i64 (brT i r), .bool (brY i r)])) := by
  have hb1 := below_al (Below.refl W.heap.size W) (.cells #[.int .i64 i.op, .int .i64 i.a, .int .i64 i.b, .int .i64 i.t, .slice i.kA i.kn i.kc, .slice i.tA i.tn i.tc, .string i.r1, .string i.r2, .string i.r3, .string i.s] 29)
  have HB := Lib.hid hb1
  have HH := Lib.hid (H.up hb1)
  have R := World.alloc_heap_new W (.cells #[.int .i64 i.op, .int .i64 i.a, .int .i64 i.b, .int .i64 i.t, .slice i.kA i.kn i.kc, .slice i.tA i.tn i.tc, .string i.r1, .string i.r2, .string i.r3, .string i.s] 29)
  have hxb : W.heap.size ≠ b := fun e => by have := lt_heapV H.box; omega
  have hxs : sv.ownBlock ≠ some W.heap.size := fun e => by have := (H.own.lt _ e).2; omega
  have hz1 : W.heap.size < (W.alloc (.cells #[.int .i64 i.op, .int .i64 i.a, .int .i64 i.b, .int .i64 i.t, .slice i.kA i.kn i.kc, .slice i.tA i.tn i.tc, .string i.r1, .string i.r2, .string i.r3, .string i.s] 29)).heap.size := by simp
  have HOP := Lib.hid hop
  have HI := Lib.hid hi
  have HVr := Lib.hid (topV_rg hv)
  have HRA := Lib.hid hra
  have hT : brT i r = i.t := by unfold brT; rw [hop]; rfl
  have hY : brY i r = condV 47 (topV (popS 1 r).ss).2 (topV r.ss).2 := by unfold brY; rw [hop]; rfl
  have hS : brS i r = popS 1 (popS 1 r) := by unfold brS; rw [hop]; rfl
  rw [hT, hY, hS]
  clear H hop hi hra hv hT hY hS
  obtain ⟨r1', hr1'⟩ : ∃ r1', popS 1 r = r1' := ⟨_, rfl⟩
  obtain ⟨x, hx⟩ : ∃ x, (topV r.ss).2 = x := ⟨_, rfl⟩
  obtain ⟨r2', hr2'⟩ : ∃ r2', popS 1 r1' = r2' := ⟨_, rfl⟩
  obtain ⟨y, hy⟩ : ∃ y, (topV r1'.ss).2 = y := ⟨_, rfl⟩
  rw [hr1', hx, hr2', hy]
  rw [hx] at HVr
  have hs1 := popS_ss 1 r
  rw [hr1'] at hs1
  have HEQ := Lib.hid (And.intro hr1' hx)
  have HP2 := Lib.hid (fun (W : World) (sv : Value) (H : RunSt w0 W b h r1' lA lc sv) => show Calls Try.prog 28 #[.pointer (some ⟨b, 0, none⟩), .int .i64 1] W (VlRet w0 W b h r2' lA lc sv (.int .i64 y)) by have := pop_any 1 H (by omega); rw [hr2', hy] at this; exact this)
  clear hr1' hx hr2' hy
  go_enter Try.func18, Try.ntmps18
  go_upto_region 1 with fail
  generalize W.alloc (.cells #[.int .i64 i.op, .int .i64 i.a, .int .i64 i.b, .int .i64 i.t, .slice i.kA i.kn i.kc, .slice i.tA i.tn i.tc, .string i.r1, .string i.r2, .string i.r3, .string i.s] 29) = W1 at hb1 HB HH R hz1 ⊢
  obtain ⟨r0, r1, r2, r3, r4, r5, r6, r7, r8, r9⟩ := ten_cells R
  rw [HOP.out] at r0
  have HX := Lib.hid R
  have HP := Lib.hid (fun (u : World) (hu : Below W1.heap.size W1 u) => pop_any (W := u) 1 (HH.out.up hu) (by omega))
  rw [HEQ.out.1, HEQ.out.2] at HP
  go_wp2_with (first | (go_at_call 28; refine (HP2.out _ _ hr3).mono ?_; rintro e w4 ⟨rfl, sv4, hr4, hk4, hl4⟩; have hx4 := (hk4.block W.heap.size hz3 hxb hxs3).trans hx3; obtain ⟨g0, g1, g2, g3, g4, g5, g6, g7, g8, g9⟩ := ten_cells hx4; rw [HOP.out] at g0) | (go_at_call 28; refine (HP.out _ (by first | exact Below.refl _ _ | exact (Below.refl _ _).drew)).mono ?_; rintro e w3 ⟨rfl, sv3, hr3, hk3, hl3⟩; have hx3 := (hk3.block W.heap.size hz1 hxb hxs).trans HX.out; obtain ⟨d0, d1, d2, d3, d4, d5, d6, d7, d8, d9⟩ := ten_cells hx3; rw [HOP.out] at d0; have hz3 := lt_heapV hx3; have hxs3 : sv3.ownBlock ≠ some W.heap.size := (fun e => by rcases hl3 with e2 | ⟨g, e2, hg⟩; (rw [e2] at e; exact hxs e); (rw [e2] at e; have := Option.some.inj e; omega))) | (go_at_call 30; refine (cond_any 47 y x _).mono ?_; rintro e w6 ⟨rfl, rfl⟩))
  go_ret2
  exact ⟨rfl, sv4, hr4, (hk3.below_ HB.out).trans (hl3.below_ HB.out) hk4, (hl3.below_ HB.out).trans (hk3.below_ HB.out).size hl4⟩
set_option maxRecDepth 100000 in
set_option maxHeartbeats 1000000 in
theorem br_48 {w0 W : World} {b : Nat} {h : Hd8} {r : Rs} {lA : Option Addr} {lc : Nat} {sv : Value} (i : In) (hop : i.op = 48) (H : RunSt w0 W b h r lA lc sv) (hl : r.ss.length ≤ 900000) (hi : i.ok w0 w0.heap.size) (h1 : i.kn ≤ 9223372036854775807) (h2 : i.tn ≤ 9223372036854775807) (hra : Rg i.a) (hv : VsIn r.ss) :
    Calls Try.prog 18 #[.pointer (some ⟨b, 0, none⟩), (Value.agg #[Value.int IntKind.i64 (In.op i), Value.int IntKind.i64 (In.a i), Value.int IntKind.i64 (In.b i), Value.int IntKind.i64 (In.t i), Value.slice (In.kA i) (In.kn i) (In.kc i), Value.slice (In.tA i) (In.tn i) (In.tc i), Value.string (In.r1 i), Value.string (In.r2 i), Value.string (In.r3 i), Value.string (In.s i)])] W (VlRet w0 W b h (brS i r) lA lc sv (.tuple #[.int .i64 (brT i r), .bool (brY i r)])) := by
  have hb1 := below_al (Below.refl W.heap.size W) (.cells #[.int .i64 i.op, .int .i64 i.a, .int .i64 i.b, .int .i64 i.t, .slice i.kA i.kn i.kc, .slice i.tA i.tn i.tc, .string i.r1, .string i.r2, .string i.r3, .string i.s] 29)
  have HB := Lib.hid hb1
  have HH := Lib.hid (H.up hb1)
  have R := World.alloc_heap_new W (.cells #[.int .i64 i.op, .int .i64 i.a, .int .i64 i.b, .int .i64 i.t, .slice i.kA i.kn i.kc, .slice i.tA i.tn i.tc, .string i.r1, .string i.r2, .string i.r3, .string i.s] 29)
  have hxb : W.heap.size ≠ b := fun e => by have := lt_heapV H.box; omega
  have hxs : sv.ownBlock ≠ some W.heap.size := fun e => by have := (H.own.lt _ e).2; omega
  have hz1 : W.heap.size < (W.alloc (.cells #[.int .i64 i.op, .int .i64 i.a, .int .i64 i.b, .int .i64 i.t, .slice i.kA i.kn i.kc, .slice i.tA i.tn i.tc, .string i.r1, .string i.r2, .string i.r3, .string i.s] 29)).heap.size := by simp
  have HOP := Lib.hid hop
  have HI := Lib.hid hi
  have HVr := Lib.hid (topV_rg hv)
  have HRA := Lib.hid hra
  have hT : brT i r = i.t := by unfold brT; rw [hop]; rfl
  have hY : brY i r = (((topV (popS 3 r).ss).2 == (topV r.ss).2) == true) := by unfold brY; rw [hop]; rfl
  have hS : brS i r = popS 3 (popS 3 r) := by unfold brS; rw [hop]; rfl
  rw [hT, hY, hS]
  clear H hop hi hra hv hT hY hS
  obtain ⟨r1', hr1'⟩ : ∃ r1', popS 3 r = r1' := ⟨_, rfl⟩
  obtain ⟨x, hx⟩ : ∃ x, (topV r.ss).2 = x := ⟨_, rfl⟩
  obtain ⟨r2', hr2'⟩ : ∃ r2', popS 3 r1' = r2' := ⟨_, rfl⟩
  obtain ⟨y, hy⟩ : ∃ y, (topV r1'.ss).2 = y := ⟨_, rfl⟩
  rw [hr1', hx, hr2', hy]
  rw [hx] at HVr
  have hs1 := popS_ss 3 r
  rw [hr1'] at hs1
  have HEQ := Lib.hid (And.intro hr1' hx)
  have HP2 := Lib.hid (fun (W : World) (sv : Value) (H : RunSt w0 W b h r1' lA lc sv) => show Calls Try.prog 28 #[.pointer (some ⟨b, 0, none⟩), .int .i64 3] W (VlRet w0 W b h r2' lA lc sv (.int .i64 y)) by have := pop_any 3 H (by omega); rw [hr2', hy] at this; exact this)
  clear hr1' hx hr2' hy
  go_enter Try.func18, Try.ntmps18
  go_upto_region 1 with fail
  generalize W.alloc (.cells #[.int .i64 i.op, .int .i64 i.a, .int .i64 i.b, .int .i64 i.t, .slice i.kA i.kn i.kc, .slice i.tA i.tn i.tc, .string i.r1, .string i.r2, .string i.r3, .string i.s] 29) = W1 at hb1 HB HH R hz1 ⊢
  obtain ⟨r0, r1, r2, r3, r4, r5, r6, r7, r8, r9⟩ := ten_cells R
  rw [HOP.out] at r0
  have HX := Lib.hid R
  have HP := Lib.hid (fun (u : World) (hu : Below W1.heap.size W1 u) => pop_any (W := u) 3 (HH.out.up hu) (by omega))
  rw [HEQ.out.1, HEQ.out.2] at HP
  go_upto_region 11 with (go_at_call 28; refine (HP.out _ (by first | exact Below.refl _ _ | exact (Below.refl _ _).drew)).mono ?_; rintro e w3 ⟨rfl, sv3, hr3, hk3, hl3⟩; have hx3 := (hk3.block W.heap.size hz1 hxb hxs).trans HX.out; obtain ⟨d0, d1, d2, d3, d4, d5, d6, d7, d8, d9⟩ := ten_cells hx3; rw [HOP.out] at d0; have hz3 := lt_heapV hx3; have hxs3 : sv3.ownBlock ≠ some W.heap.size := (fun e => by rcases hl3 with e2 | ⟨g, e2, hg⟩; (rw [e2] at e; exact hxs e); (rw [e2] at e; have := Option.some.inj e; omega)))
  refine regN_start (N := 11) (S := (fun w' : World => w'.cell? ⟨W.heap.size, 0, none⟩ = some (.int .i64 48) ∧ w'.cell? ⟨W.heap.size, 3, none⟩ = some (.int .i64 i.t))) (by kernel_rfl) ?_
  change wpAnyN _ _ _ _ _ _ _ #[false, false, false, false, false, false, false, false, false, false, false, false] _ (World.drew _)
  have hS0 := (show (fun w' : World => w'.cell? ⟨W.heap.size, 0, none⟩ = some (.int .i64 48) ∧ w'.cell? ⟨W.heap.size, 3, none⟩ = some (.int .i64 i.t)) w3.drew from ⟨d0, d3⟩)
  refine regN_take (i := 0) (d := (some 52)) (v := ?v11x1) (l2 := #[true, false, false, false, false, false, false, false, false, false, false, false]) rfl rfl rfl (by kernel_rfl) (by kernel_rfl) (by kernel_rfl) (by kernel_rfl) (fun _ _ _ h => h) (by rfl) ?hv11x1 hS0 ?h11x1
  case hv11x1 => intro u hSu; clear hSu; go_simp; (try with_reducible rfl)
  (try simp only [Act.put, List.setIfInBounds_toArray, List.set_cons_zero, List.set_cons_succ])
  refine regN_take (i := 1) (d := (some 53)) (v := ?v11x2) (l2 := #[true, true, false, false, false, false, false, false, false, false, false, false]) rfl rfl rfl (by kernel_rfl) (by kernel_rfl) (by kernel_rfl) (by kernel_rfl) (fun _ _ _ h => h) (by rfl) ?hv11x2 hS0 ?h11x2
  case hv11x2 => intro u hSu; (try dsimp only at hSu); (try go_split_ands); go_simp; (try with_reducible rfl)
  (try simp only [Act.put, List.setIfInBounds_toArray, List.set_cons_zero, List.set_cons_succ])
  refine regN_take (i := 2) (d := (some 54)) (v := ?v11x3) (l2 := #[true, true, true, false, false, false, false, false, false, false, false, false]) rfl rfl rfl (by kernel_rfl) (by kernel_rfl) (by kernel_rfl) (by kernel_rfl) (fun _ _ _ h => h) (by rfl) ?hv11x3 hS0 ?h11x3
  case hv11x3 => intro u hSu; clear hSu; go_simp; (try with_reducible rfl)
  (try simp only [Act.put, List.setIfInBounds_toArray, List.set_cons_zero, List.set_cons_succ])
  refine regN_take (i := 4) (d := (some 56)) (v := ?v11x4) (l2 := #[true, true, true, false, true, false, false, false, false, false, false, false]) rfl rfl rfl (by kernel_rfl) (by kernel_rfl) (by kernel_rfl) (by kernel_rfl) (fun _ _ _ h => h) (by rfl) ?hv11x4 hS0 ?h11x4
  case hv11x4 => intro u hSu; clear hSu; go_simp; (try with_reducible rfl)
  (try simp only [Act.put, List.setIfInBounds_toArray, List.set_cons_zero, List.set_cons_succ])
  refine regN_take (i := 6) (d := (some 58)) (v := ?v11x5) (l2 := #[true, true, true, false, true, false, true, false, false, false, false, false]) rfl rfl rfl (by kernel_rfl) (by kernel_rfl) (by kernel_rfl) (by kernel_rfl) (fun _ _ _ h => h) (by rfl) ?hv11x5 hS0 ?h11x5
  case hv11x5 => intro u hSu; clear hSu; go_simp; (try with_reducible rfl)
  (try simp only [Act.put, List.setIfInBounds_toArray, List.set_cons_zero, List.set_cons_succ])
  refine regN_take (i := 7) (d := (some 59)) (v := ?v11x6) (l2 := #[true, true, true, false, true, false, true, true, false, false, false, false]) rfl rfl rfl (by kernel_rfl) (by kernel_rfl) (by kernel_rfl) (by kernel_rfl) (fun _ _ _ h => h) (by rfl) ?hv11x6 hS0 ?h11x6
  case hv11x6 => intro u hSu; (try dsimp only at hSu); (try go_split_ands); go_simp; (try with_reducible rfl)
  (try simp only [Act.put, List.setIfInBounds_toArray, List.set_cons_zero, List.set_cons_succ])
  refine regN_take (i := 8) (d := (some 60)) (v := ?v11x7) (l2 := #[true, true, true, false, true, false, true, true, true, false, false, false]) rfl rfl rfl (by kernel_rfl) (by kernel_rfl) (by kernel_rfl) (by kernel_rfl) (fun _ _ _ h => h) (by rfl) ?hv11x7 hS0 ?h11x7
  case hv11x7 => intro u hSu; clear hSu; go_simp; (try with_reducible rfl)
  (try simp only [Act.put, List.setIfInBounds_toArray, List.set_cons_zero, List.set_cons_succ])
  refine regN_ready (rs := [3]) (by kernel_rfl) (by simp) ?_
  refine (AllN.cons (i := 3) (l2 := #[true, true, true, true, true, false, true, true, true, false, false, false]) rfl rfl (fun K hK => ?_) AllN.nil)
  go_simp
  go_at_call 28
  refine (HP2.out _ _ (hr3.up (Below.refl _ _).drew)).mono ?_
  rintro e w4 ⟨rfl, sv4, hr4, hk4, hl4⟩
  have hx4 := (hk4.block W.heap.size hz3 hxb hxs3).trans hx3
  obtain ⟨g0, g1, g2, g3, g4, g5, g6, g7, g8, g9⟩ := ten_cells hx4
  rw [HOP.out] at g0
  go_simp
  have hS1 : ((fun w' : World => w'.cell? ⟨W.heap.size, 0, none⟩ = some (.int .i64 48) ∧ w'.cell? ⟨W.heap.size, 3, none⟩ = some (.int .i64 i.t)) : World → Prop) _ := (show (fun w' : World => w'.cell? ⟨W.heap.size, 0, none⟩ = some (.int .i64 48) ∧ w'.cell? ⟨W.heap.size, 3, none⟩ = some (.int .i64 i.t)) w4 from ⟨g0, g3⟩)
  refine hK _ _ (fun _ => hS1) ?_
  clear hK K
  (try simp only [Act.put, List.setIfInBounds_toArray, List.set_cons_zero, List.set_cons_succ])
  refine regN_take (i := 5) (d := (some 57)) (v := ?v11x8) (l2 := #[true, true, true, true, true, true, true, true, true, false, false, false]) rfl rfl rfl (by kernel_rfl) (by kernel_rfl) (by kernel_rfl) (by kernel_rfl) (fun _ _ _ h => h) (by rfl) ?hv11x8 hS1 ?h11x8
  case hv11x8 => intro u hSu; clear hSu; go_simp; (try with_reducible rfl)
  (try simp only [Act.put, List.setIfInBounds_toArray, List.set_cons_zero, List.set_cons_succ])
  refine regN_take (i := 9) (d := (some 61)) (v := ?v11x9) (l2 := #[true, true, true, true, true, true, true, true, true, true, false, false]) rfl rfl rfl (by kernel_rfl) (by kernel_rfl) (by kernel_rfl) (by kernel_rfl) (fun _ _ _ h => h) (by rfl) ?hv11x9 hS1 ?h11x9
  case hv11x9 => intro u hSu; clear hSu; go_simp; (try with_reducible rfl)
  (try simp only [Act.put, List.setIfInBounds_toArray, List.set_cons_zero, List.set_cons_succ])
  refine regN_take (i := 10) (d := (some 4)) (v := ?v11x10) (l2 := #[true, true, true, true, true, true, true, true, true, true, true, false]) rfl rfl rfl (by kernel_rfl) (by kernel_rfl) (by kernel_rfl) (by kernel_rfl) (fun _ _ _ h => h) (by rfl) ?hv11x10 hS1 ?h11x10
  case hv11x10 => intro u hSu; clear hSu; go_simp; (try with_reducible rfl)
  (try simp only [Act.put, List.setIfInBounds_toArray, List.set_cons_zero, List.set_cons_succ])
  refine regN_ready (rs := [11]) (by kernel_rfl) (by simp) ?_
  refine (AllN.cons (i := 11) (l2 := #[true, true, true, true, true, true, true, true, true, true, true, true]) rfl rfl (fun K hK => ?_) AllN.nil)
  go_simp
  refine hK _ _ (fun h => absurd rfl h) ?_
  clear hK K
  (try simp only [Act.put, List.setIfInBounds_toArray, List.set_cons_zero, List.set_cons_succ])
  refine regN_done (by kernel_rfl) ?_ _
  go_wp2
  go_ret2
  have hk4 := Kept.below_ (Below.refl _ _).drew hk4
  have hl4 := Lies.below_ (Below.refl _ _).drew hl4
  exact ⟨rfl, sv4, hr4, (hk3.below_ HB.out).trans (hl3.below_ HB.out) hk4, (hl3.below_ HB.out).trans (hk3.below_ HB.out).size hl4⟩
set_option maxRecDepth 100000 in
set_option maxHeartbeats 1000000 in
theorem br_49 {w0 W : World} {b : Nat} {h : Hd8} {r : Rs} {lA : Option Addr} {lc : Nat} {sv : Value} (i : In) (hop : i.op = 49) (H : RunSt w0 W b h r lA lc sv) (hl : r.ss.length ≤ 900000) (hi : i.ok w0 w0.heap.size) (h1 : i.kn ≤ 9223372036854775807) (h2 : i.tn ≤ 9223372036854775807) (hra : Rg i.a) (hv : VsIn r.ss) :
    Calls Try.prog 18 #[.pointer (some ⟨b, 0, none⟩), (Value.agg #[Value.int IntKind.i64 (In.op i), Value.int IntKind.i64 (In.a i), Value.int IntKind.i64 (In.b i), Value.int IntKind.i64 (In.t i), Value.slice (In.kA i) (In.kn i) (In.kc i), Value.slice (In.tA i) (In.tn i) (In.tc i), Value.string (In.r1 i), Value.string (In.r2 i), Value.string (In.r3 i), Value.string (In.s i)])] W (VlRet w0 W b h (brS i r) lA lc sv (.tuple #[.int .i64 (brT i r), .bool (brY i r)])) := by
  have hb1 := below_al (Below.refl W.heap.size W) (.cells #[.int .i64 i.op, .int .i64 i.a, .int .i64 i.b, .int .i64 i.t, .slice i.kA i.kn i.kc, .slice i.tA i.tn i.tc, .string i.r1, .string i.r2, .string i.r3, .string i.s] 29)
  have HB := Lib.hid hb1
  have HH := Lib.hid (H.up hb1)
  have R := World.alloc_heap_new W (.cells #[.int .i64 i.op, .int .i64 i.a, .int .i64 i.b, .int .i64 i.t, .slice i.kA i.kn i.kc, .slice i.tA i.tn i.tc, .string i.r1, .string i.r2, .string i.r3, .string i.s] 29)
  have hxb : W.heap.size ≠ b := fun e => by have := lt_heapV H.box; omega
  have hxs : sv.ownBlock ≠ some W.heap.size := fun e => by have := (H.own.lt _ e).2; omega
  have hz1 : W.heap.size < (W.alloc (.cells #[.int .i64 i.op, .int .i64 i.a, .int .i64 i.b, .int .i64 i.t, .slice i.kA i.kn i.kc, .slice i.tA i.tn i.tc, .string i.r1, .string i.r2, .string i.r3, .string i.s] 29)).heap.size := by simp
  have HOP := Lib.hid hop
  have HI := Lib.hid hi
  have HVr := Lib.hid (topV_rg hv)
  have HRA := Lib.hid hra
  have hT : brT i r = i.t := by unfold brT; rw [hop]; rfl
  have hY : brY i r = (((topV (popS 3 r).ss).2 == (topV r.ss).2) == false) := by unfold brY; rw [hop]; rfl
  have hS : brS i r = popS 3 (popS 3 r) := by unfold brS; rw [hop]; rfl
  rw [hT, hY, hS]
  clear H hop hi hra hv hT hY hS
  obtain ⟨r1', hr1'⟩ : ∃ r1', popS 3 r = r1' := ⟨_, rfl⟩
  obtain ⟨x, hx⟩ : ∃ x, (topV r.ss).2 = x := ⟨_, rfl⟩
  obtain ⟨r2', hr2'⟩ : ∃ r2', popS 3 r1' = r2' := ⟨_, rfl⟩
  obtain ⟨y, hy⟩ : ∃ y, (topV r1'.ss).2 = y := ⟨_, rfl⟩
  rw [hr1', hx, hr2', hy]
  rw [hx] at HVr
  have hs1 := popS_ss 3 r
  rw [hr1'] at hs1
  have HEQ := Lib.hid (And.intro hr1' hx)
  have HP2 := Lib.hid (fun (W : World) (sv : Value) (H : RunSt w0 W b h r1' lA lc sv) => show Calls Try.prog 28 #[.pointer (some ⟨b, 0, none⟩), .int .i64 3] W (VlRet w0 W b h r2' lA lc sv (.int .i64 y)) by have := pop_any 3 H (by omega); rw [hr2', hy] at this; exact this)
  clear hr1' hx hr2' hy
  go_enter Try.func18, Try.ntmps18
  go_upto_region 1 with fail
  generalize W.alloc (.cells #[.int .i64 i.op, .int .i64 i.a, .int .i64 i.b, .int .i64 i.t, .slice i.kA i.kn i.kc, .slice i.tA i.tn i.tc, .string i.r1, .string i.r2, .string i.r3, .string i.s] 29) = W1 at hb1 HB HH R hz1 ⊢
  obtain ⟨r0, r1, r2, r3, r4, r5, r6, r7, r8, r9⟩ := ten_cells R
  rw [HOP.out] at r0
  have HX := Lib.hid R
  have HP := Lib.hid (fun (u : World) (hu : Below W1.heap.size W1 u) => pop_any (W := u) 3 (HH.out.up hu) (by omega))
  rw [HEQ.out.1, HEQ.out.2] at HP
  go_upto_region 11 with (go_at_call 28; refine (HP.out _ (by first | exact Below.refl _ _ | exact (Below.refl _ _).drew)).mono ?_; rintro e w3 ⟨rfl, sv3, hr3, hk3, hl3⟩; have hx3 := (hk3.block W.heap.size hz1 hxb hxs).trans HX.out; obtain ⟨d0, d1, d2, d3, d4, d5, d6, d7, d8, d9⟩ := ten_cells hx3; rw [HOP.out] at d0; have hz3 := lt_heapV hx3; have hxs3 : sv3.ownBlock ≠ some W.heap.size := (fun e => by rcases hl3 with e2 | ⟨g, e2, hg⟩; (rw [e2] at e; exact hxs e); (rw [e2] at e; have := Option.some.inj e; omega)))
  refine regN_start (N := 11) (S := (fun w' : World => w'.cell? ⟨W.heap.size, 0, none⟩ = some (.int .i64 49) ∧ w'.cell? ⟨W.heap.size, 3, none⟩ = some (.int .i64 i.t))) (by kernel_rfl) ?_
  change wpAnyN _ _ _ _ _ _ _ #[false, false, false, false, false, false, false, false, false, false, false, false] _ (World.drew _)
  have hS0 := (show (fun w' : World => w'.cell? ⟨W.heap.size, 0, none⟩ = some (.int .i64 49) ∧ w'.cell? ⟨W.heap.size, 3, none⟩ = some (.int .i64 i.t)) w3.drew from ⟨d0, d3⟩)
  refine regN_take (i := 0) (d := (some 52)) (v := ?v11x1) (l2 := #[true, false, false, false, false, false, false, false, false, false, false, false]) rfl rfl rfl (by kernel_rfl) (by kernel_rfl) (by kernel_rfl) (by kernel_rfl) (fun _ _ _ h => h) (by rfl) ?hv11x1 hS0 ?h11x1
  case hv11x1 => intro u hSu; clear hSu; go_simp; (try with_reducible rfl)
  (try simp only [Act.put, List.setIfInBounds_toArray, List.set_cons_zero, List.set_cons_succ])
  refine regN_take (i := 1) (d := (some 53)) (v := ?v11x2) (l2 := #[true, true, false, false, false, false, false, false, false, false, false, false]) rfl rfl rfl (by kernel_rfl) (by kernel_rfl) (by kernel_rfl) (by kernel_rfl) (fun _ _ _ h => h) (by rfl) ?hv11x2 hS0 ?h11x2
  case hv11x2 => intro u hSu; (try dsimp only at hSu); (try go_split_ands); go_simp; (try with_reducible rfl)
  (try simp only [Act.put, List.setIfInBounds_toArray, List.set_cons_zero, List.set_cons_succ])
  refine regN_take (i := 2) (d := (some 54)) (v := ?v11x3) (l2 := #[true, true, true, false, false, false, false, false, false, false, false, false]) rfl rfl rfl (by kernel_rfl) (by kernel_rfl) (by kernel_rfl) (by kernel_rfl) (fun _ _ _ h => h) (by rfl) ?hv11x3 hS0 ?h11x3
  case hv11x3 => intro u hSu; clear hSu; go_simp; (try with_reducible rfl)
  (try simp only [Act.put, List.setIfInBounds_toArray, List.set_cons_zero, List.set_cons_succ])
  refine regN_take (i := 4) (d := (some 56)) (v := ?v11x4) (l2 := #[true, true, true, false, true, false, false, false, false, false, false, false]) rfl rfl rfl (by kernel_rfl) (by kernel_rfl) (by kernel_rfl) (by kernel_rfl) (fun _ _ _ h => h) (by rfl) ?hv11x4 hS0 ?h11x4
  case hv11x4 => intro u hSu; clear hSu; go_simp; (try with_reducible rfl)
  (try simp only [Act.put, List.setIfInBounds_toArray, List.set_cons_zero, List.set_cons_succ])
  refine regN_take (i := 6) (d := (some 58)) (v := ?v11x5) (l2 := #[true, true, true, false, true, false, true, false, false, false, false, false]) rfl rfl rfl (by kernel_rfl) (by kernel_rfl) (by kernel_rfl) (by kernel_rfl) (fun _ _ _ h => h) (by rfl) ?hv11x5 hS0 ?h11x5
  case hv11x5 => intro u hSu; clear hSu; go_simp; (try with_reducible rfl)
  (try simp only [Act.put, List.setIfInBounds_toArray, List.set_cons_zero, List.set_cons_succ])
  refine regN_take (i := 7) (d := (some 59)) (v := ?v11x6) (l2 := #[true, true, true, false, true, false, true, true, false, false, false, false]) rfl rfl rfl (by kernel_rfl) (by kernel_rfl) (by kernel_rfl) (by kernel_rfl) (fun _ _ _ h => h) (by rfl) ?hv11x6 hS0 ?h11x6
  case hv11x6 => intro u hSu; (try dsimp only at hSu); (try go_split_ands); go_simp; (try with_reducible rfl)
  (try simp only [Act.put, List.setIfInBounds_toArray, List.set_cons_zero, List.set_cons_succ])
  refine regN_take (i := 8) (d := (some 60)) (v := ?v11x7) (l2 := #[true, true, true, false, true, false, true, true, true, false, false, false]) rfl rfl rfl (by kernel_rfl) (by kernel_rfl) (by kernel_rfl) (by kernel_rfl) (fun _ _ _ h => h) (by rfl) ?hv11x7 hS0 ?h11x7
  case hv11x7 => intro u hSu; clear hSu; go_simp; (try with_reducible rfl)
  (try simp only [Act.put, List.setIfInBounds_toArray, List.set_cons_zero, List.set_cons_succ])
  refine regN_ready (rs := [3]) (by kernel_rfl) (by simp) ?_
  refine (AllN.cons (i := 3) (l2 := #[true, true, true, true, true, false, true, true, true, false, false, false]) rfl rfl (fun K hK => ?_) AllN.nil)
  go_simp
  go_at_call 28
  refine (HP2.out _ _ (hr3.up (Below.refl _ _).drew)).mono ?_
  rintro e w4 ⟨rfl, sv4, hr4, hk4, hl4⟩
  have hx4 := (hk4.block W.heap.size hz3 hxb hxs3).trans hx3
  obtain ⟨g0, g1, g2, g3, g4, g5, g6, g7, g8, g9⟩ := ten_cells hx4
  rw [HOP.out] at g0
  go_simp
  have hS1 : ((fun w' : World => w'.cell? ⟨W.heap.size, 0, none⟩ = some (.int .i64 49) ∧ w'.cell? ⟨W.heap.size, 3, none⟩ = some (.int .i64 i.t)) : World → Prop) _ := (show (fun w' : World => w'.cell? ⟨W.heap.size, 0, none⟩ = some (.int .i64 49) ∧ w'.cell? ⟨W.heap.size, 3, none⟩ = some (.int .i64 i.t)) w4 from ⟨g0, g3⟩)
  refine hK _ _ (fun _ => hS1) ?_
  clear hK K
  (try simp only [Act.put, List.setIfInBounds_toArray, List.set_cons_zero, List.set_cons_succ])
  refine regN_take (i := 5) (d := (some 57)) (v := ?v11x8) (l2 := #[true, true, true, true, true, true, true, true, true, false, false, false]) rfl rfl rfl (by kernel_rfl) (by kernel_rfl) (by kernel_rfl) (by kernel_rfl) (fun _ _ _ h => h) (by rfl) ?hv11x8 hS1 ?h11x8
  case hv11x8 => intro u hSu; clear hSu; go_simp; (try with_reducible rfl)
  (try simp only [Act.put, List.setIfInBounds_toArray, List.set_cons_zero, List.set_cons_succ])
  refine regN_take (i := 9) (d := (some 61)) (v := ?v11x9) (l2 := #[true, true, true, true, true, true, true, true, true, true, false, false]) rfl rfl rfl (by kernel_rfl) (by kernel_rfl) (by kernel_rfl) (by kernel_rfl) (fun _ _ _ h => h) (by rfl) ?hv11x9 hS1 ?h11x9
  case hv11x9 => intro u hSu; clear hSu; go_simp; (try with_reducible rfl)
  (try simp only [Act.put, List.setIfInBounds_toArray, List.set_cons_zero, List.set_cons_succ])
  refine regN_take (i := 10) (d := (some 4)) (v := ?v11x10) (l2 := #[true, true, true, true, true, true, true, true, true, true, true, false]) rfl rfl rfl (by kernel_rfl) (by kernel_rfl) (by kernel_rfl) (by kernel_rfl) (fun _ _ _ h => h) (by rfl) ?hv11x10 hS1 ?h11x10
  case hv11x10 => intro u hSu; clear hSu; go_simp; (try with_reducible rfl)
  (try simp only [Act.put, List.setIfInBounds_toArray, List.set_cons_zero, List.set_cons_succ])
  refine regN_ready (rs := [11]) (by kernel_rfl) (by simp) ?_
  refine (AllN.cons (i := 11) (l2 := #[true, true, true, true, true, true, true, true, true, true, true, true]) rfl rfl (fun K hK => ?_) AllN.nil)
  go_simp
  refine hK _ _ (fun h => absurd rfl h) ?_
  clear hK K
  (try simp only [Act.put, List.setIfInBounds_toArray, List.set_cons_zero, List.set_cons_succ])
  refine regN_done (by kernel_rfl) ?_ _
  go_wp2
  go_ret2
  have hk4 := Kept.below_ (Below.refl _ _).drew hk4
  have hl4 := Lies.below_ (Below.refl _ _).drew hl4
  exact ⟨rfl, sv4, hr4, (hk3.below_ HB.out).trans (hl3.below_ HB.out) hk4, (hl3.below_ HB.out).trans (hk3.below_ HB.out).size hl4⟩
set_option maxRecDepth 100000 in
set_option maxHeartbeats 1000000 in
theorem br_50 {w0 W : World} {b : Nat} {h : Hd8} {r : Rs} {lA : Option Addr} {lc : Nat} {sv : Value} (i : In) (hop : i.op = 50) (H : RunSt w0 W b h r lA lc sv) (hl : r.ss.length ≤ 900000) (hi : i.ok w0 w0.heap.size) (h1 : i.kn ≤ 9223372036854775807) (h2 : i.tn ≤ 9223372036854775807) (hra : Rg i.a) (hv : VsIn r.ss) :
    Calls Try.prog 18 #[.pointer (some ⟨b, 0, none⟩), (Value.agg #[Value.int IntKind.i64 (In.op i), Value.int IntKind.i64 (In.a i), Value.int IntKind.i64 (In.b i), Value.int IntKind.i64 (In.t i), Value.slice (In.kA i) (In.kn i) (In.kc i), Value.slice (In.tA i) (In.tn i) (In.tc i), Value.string (In.r1 i), Value.string (In.r2 i), Value.string (In.r3 i), Value.string (In.s i)])] W (VlRet w0 W b h (brS i r) lA lc sv (.tuple #[.int .i64 (brT i r), .bool (brY i r)])) := by
  have hb1 := below_al (Below.refl W.heap.size W) (.cells #[.int .i64 i.op, .int .i64 i.a, .int .i64 i.b, .int .i64 i.t, .slice i.kA i.kn i.kc, .slice i.tA i.tn i.tc, .string i.r1, .string i.r2, .string i.r3, .string i.s] 29)
  have HB := Lib.hid hb1
  have HH := Lib.hid (H.up hb1)
  have R := World.alloc_heap_new W (.cells #[.int .i64 i.op, .int .i64 i.a, .int .i64 i.b, .int .i64 i.t, .slice i.kA i.kn i.kc, .slice i.tA i.tn i.tc, .string i.r1, .string i.r2, .string i.r3, .string i.s] 29)
  have hxb : W.heap.size ≠ b := fun e => by have := lt_heapV H.box; omega
  have hxs : sv.ownBlock ≠ some W.heap.size := fun e => by have := (H.own.lt _ e).2; omega
  have hz1 : W.heap.size < (W.alloc (.cells #[.int .i64 i.op, .int .i64 i.a, .int .i64 i.b, .int .i64 i.t, .slice i.kA i.kn i.kc, .slice i.tA i.tn i.tc, .string i.r1, .string i.r2, .string i.r3, .string i.s] 29)).heap.size := by simp
  have HOP := Lib.hid hop
  have HI := Lib.hid hi
  have HVr := Lib.hid (topV_rg hv)
  have HRA := Lib.hid hra
  have hT : brT i r = i.t := by unfold brT; rw [hop]; rfl
  have hY : brY i r = (((topV r.ss).2 == 0) == true) := by unfold brY; rw [hop]; rfl
  have hS : brS i r = popS 3 r := by unfold brS; rw [hop]; rfl
  rw [hT, hY, hS]
  clear H hop hi hra hv hT hY hS
  obtain ⟨r1', hr1'⟩ : ∃ r1', popS 3 r = r1' := ⟨_, rfl⟩
  obtain ⟨x, hx⟩ : ∃ x, (topV r.ss).2 = x := ⟨_, rfl⟩
  rw [hr1', hx]
  rw [hx] at HVr
  have hs1 := popS_ss 3 r
  rw [hr1'] at hs1
  have HEQ := Lib.hid (And.intro hr1' hx)
  clear hr1' hx
  go_enter Try.func18, Try.ntmps18
  go_upto_region 1 with fail
  generalize W.alloc (.cells #[.int .i64 i.op, .int .i64 i.a, .int .i64 i.b, .int .i64 i.t, .slice i.kA i.kn i.kc, .slice i.tA i.tn i.tc, .string i.r1, .string i.r2, .string i.r3, .string i.s] 29) = W1 at hb1 HB HH R hz1 ⊢
  obtain ⟨r0, r1, r2, r3, r4, r5, r6, r7, r8, r9⟩ := ten_cells R
  rw [HOP.out] at r0
  have HX := Lib.hid R
  have HP := Lib.hid (fun (u : World) (hu : Below W1.heap.size W1 u) => pop_any (W := u) 3 (HH.out.up hu) (by omega))
  rw [HEQ.out.1, HEQ.out.2] at HP
  go_upto_region 8 with fail
  refine regN_start (N := 10) (S := (fun w' : World => w'.cell? ⟨W.heap.size, 0, none⟩ = some (.int .i64 50) ∧ w'.cell? ⟨W.heap.size, 3, none⟩ = some (.int .i64 i.t))) (by kernel_rfl) ?_
  change wpAnyN _ _ _ _ _ _ _ #[false, false, false, false, false, false, false, false, false, false, false] _ (World.drew _)
  have hS0 := (show (fun w' : World => w'.cell? ⟨W.heap.size, 0, none⟩ = some (.int .i64 50) ∧ w'.cell? ⟨W.heap.size, 3, none⟩ = some (.int .i64 i.t)) W1.drew from ⟨r0, r3⟩)
  refine regN_take (i := 0) (d := (some 37)) (v := ?v8x1) (l2 := #[true, false, false, false, false, false, false, false, false, false, false]) rfl rfl rfl (by kernel_rfl) (by kernel_rfl) (by kernel_rfl) (by kernel_rfl) (fun _ _ _ h => h) (by rfl) ?hv8x1 hS0 ?h8x1
  case hv8x1 => intro u hSu; clear hSu; go_simp; (try with_reducible rfl)
  (try simp only [Act.put, List.setIfInBounds_toArray, List.set_cons_zero, List.set_cons_succ])
  refine regN_take (i := 1) (d := (some 38)) (v := ?v8x2) (l2 := #[true, true, false, false, false, false, false, false, false, false, false]) rfl rfl rfl (by kernel_rfl) (by kernel_rfl) (by kernel_rfl) (by kernel_rfl) (fun _ _ _ h => h) (by rfl) ?hv8x2 hS0 ?h8x2
  case hv8x2 => intro u hSu; (try dsimp only at hSu); (try go_split_ands); go_simp; (try with_reducible rfl)
  (try simp only [Act.put, List.setIfInBounds_toArray, List.set_cons_zero, List.set_cons_succ])
  refine regN_take (i := 2) (d := (some 39)) (v := ?v8x3) (l2 := #[true, true, true, false, false, false, false, false, false, false, false]) rfl rfl rfl (by kernel_rfl) (by kernel_rfl) (by kernel_rfl) (by kernel_rfl) (fun _ _ _ h => h) (by rfl) ?hv8x3 hS0 ?h8x3
  case hv8x3 => intro u hSu; clear hSu; go_simp; (try with_reducible rfl)
  (try simp only [Act.put, List.setIfInBounds_toArray, List.set_cons_zero, List.set_cons_succ])
  refine regN_take (i := 5) (d := (some 42)) (v := ?v8x4) (l2 := #[true, true, true, false, false, true, false, false, false, false, false]) rfl rfl rfl (by kernel_rfl) (by kernel_rfl) (by kernel_rfl) (by kernel_rfl) (fun _ _ _ h => h) (by rfl) ?hv8x4 hS0 ?h8x4
  case hv8x4 => intro u hSu; clear hSu; go_simp; (try with_reducible rfl)
  (try simp only [Act.put, List.setIfInBounds_toArray, List.set_cons_zero, List.set_cons_succ])
  refine regN_take (i := 6) (d := (some 43)) (v := ?v8x5) (l2 := #[true, true, true, false, false, true, true, false, false, false, false]) rfl rfl rfl (by kernel_rfl) (by kernel_rfl) (by kernel_rfl) (by kernel_rfl) (fun _ _ _ h => h) (by rfl) ?hv8x5 hS0 ?h8x5
  case hv8x5 => intro u hSu; (try dsimp only at hSu); (try go_split_ands); go_simp; (try with_reducible rfl)
  (try simp only [Act.put, List.setIfInBounds_toArray, List.set_cons_zero, List.set_cons_succ])
  refine regN_take (i := 7) (d := (some 44)) (v := ?v8x6) (l2 := #[true, true, true, false, false, true, true, true, false, false, false]) rfl rfl rfl (by kernel_rfl) (by kernel_rfl) (by kernel_rfl) (by kernel_rfl) (fun _ _ _ h => h) (by rfl) ?hv8x6 hS0 ?h8x6
  case hv8x6 => intro u hSu; clear hSu; go_simp; (try with_reducible rfl)
  (try simp only [Act.put, List.setIfInBounds_toArray, List.set_cons_zero, List.set_cons_succ])
  refine regN_ready (rs := [3]) (by kernel_rfl) (by simp) ?_
  refine (AllN.cons (i := 3) (l2 := #[true, true, true, true, false, true, true, true, false, false, false]) rfl rfl (fun K hK => ?_) AllN.nil)
  go_simp
  go_at_call 28
  refine (HP.out _ (Below.refl _ _).drew).mono ?_
  rintro e w3 ⟨rfl, sv3, hr3, hk3, hl3⟩
  have hx3 := (hk3.block W.heap.size hz1 hxb hxs).trans HX.out
  obtain ⟨d0, d1, d2, d3, d4, d5, d6, d7, d8, d9⟩ := ten_cells hx3
  rw [HOP.out] at d0
  go_simp
  have hS1 : ((fun w' : World => w'.cell? ⟨W.heap.size, 0, none⟩ = some (.int .i64 50) ∧ w'.cell? ⟨W.heap.size, 3, none⟩ = some (.int .i64 i.t)) : World → Prop) _ := (show (fun w' : World => w'.cell? ⟨W.heap.size, 0, none⟩ = some (.int .i64 50) ∧ w'.cell? ⟨W.heap.size, 3, none⟩ = some (.int .i64 i.t)) w3 from ⟨d0, d3⟩)
  refine hK _ _ (fun _ => hS1) ?_
  clear hK K
  (try simp only [Act.put, List.setIfInBounds_toArray, List.set_cons_zero, List.set_cons_succ])
  refine regN_take (i := 4) (d := (some 41)) (v := ?v8x7) (l2 := #[true, true, true, true, true, true, true, true, false, false, false]) rfl rfl rfl (by kernel_rfl) (by kernel_rfl) (by kernel_rfl) (by kernel_rfl) (fun _ _ _ h => h) (by rfl) ?hv8x7 hS1 ?h8x7
  case hv8x7 => intro u hSu; clear hSu; go_simp; (try with_reducible rfl)
  (try simp only [Act.put, List.setIfInBounds_toArray, List.set_cons_zero, List.set_cons_succ])
  refine regN_take (i := 8) (d := (some 45)) (v := ?v8x8) (l2 := #[true, true, true, true, true, true, true, true, true, false, false]) rfl rfl rfl (by kernel_rfl) (by kernel_rfl) (by kernel_rfl) (by kernel_rfl) (fun _ _ _ h => h) (by rfl) ?hv8x8 hS1 ?h8x8
  case hv8x8 => intro u hSu; clear hSu; go_simp; (try with_reducible rfl)
  (try simp only [Act.put, List.setIfInBounds_toArray, List.set_cons_zero, List.set_cons_succ])
  refine regN_take (i := 9) (d := (some 4)) (v := ?v8x9) (l2 := #[true, true, true, true, true, true, true, true, true, true, false]) rfl rfl rfl (by kernel_rfl) (by kernel_rfl) (by kernel_rfl) (by kernel_rfl) (fun _ _ _ h => h) (by rfl) ?hv8x9 hS1 ?h8x9
  case hv8x9 => intro u hSu; clear hSu; go_simp; (try with_reducible rfl)
  (try simp only [Act.put, List.setIfInBounds_toArray, List.set_cons_zero, List.set_cons_succ])
  refine regN_ready (rs := [10]) (by kernel_rfl) (by simp) ?_
  refine (AllN.cons (i := 10) (l2 := #[true, true, true, true, true, true, true, true, true, true, true]) rfl rfl (fun K hK => ?_) AllN.nil)
  go_simp
  refine hK _ _ (fun h => absurd rfl h) ?_
  clear hK K
  (try simp only [Act.put, List.setIfInBounds_toArray, List.set_cons_zero, List.set_cons_succ])
  refine regN_done (by kernel_rfl) ?_ _
  go_wp2
  go_ret2
  have hk3 := Kept.below_ (Below.refl W1.heap.size W1).drew hk3
  have hl3 := Lies.below_ (Below.refl W1.heap.size W1).drew hl3
  exact ⟨rfl, sv3, hr3, hk3.below_ HB.out, hl3.below_ HB.out⟩
set_option maxRecDepth 100000 in
set_option maxHeartbeats 1000000 in
theorem br_51 {w0 W : World} {b : Nat} {h : Hd8} {r : Rs} {lA : Option Addr} {lc : Nat} {sv : Value} (i : In) (hop : i.op = 51) (H : RunSt w0 W b h r lA lc sv) (hl : r.ss.length ≤ 900000) (hi : i.ok w0 w0.heap.size) (h1 : i.kn ≤ 9223372036854775807) (h2 : i.tn ≤ 9223372036854775807) (hra : Rg i.a) (hv : VsIn r.ss) :
    Calls Try.prog 18 #[.pointer (some ⟨b, 0, none⟩), (Value.agg #[Value.int IntKind.i64 (In.op i), Value.int IntKind.i64 (In.a i), Value.int IntKind.i64 (In.b i), Value.int IntKind.i64 (In.t i), Value.slice (In.kA i) (In.kn i) (In.kc i), Value.slice (In.tA i) (In.tn i) (In.tc i), Value.string (In.r1 i), Value.string (In.r2 i), Value.string (In.r3 i), Value.string (In.s i)])] W (VlRet w0 W b h (brS i r) lA lc sv (.tuple #[.int .i64 (brT i r), .bool (brY i r)])) := by
  have hb1 := below_al (Below.refl W.heap.size W) (.cells #[.int .i64 i.op, .int .i64 i.a, .int .i64 i.b, .int .i64 i.t, .slice i.kA i.kn i.kc, .slice i.tA i.tn i.tc, .string i.r1, .string i.r2, .string i.r3, .string i.s] 29)
  have HB := Lib.hid hb1
  have HH := Lib.hid (H.up hb1)
  have R := World.alloc_heap_new W (.cells #[.int .i64 i.op, .int .i64 i.a, .int .i64 i.b, .int .i64 i.t, .slice i.kA i.kn i.kc, .slice i.tA i.tn i.tc, .string i.r1, .string i.r2, .string i.r3, .string i.s] 29)
  have hxb : W.heap.size ≠ b := fun e => by have := lt_heapV H.box; omega
  have hxs : sv.ownBlock ≠ some W.heap.size := fun e => by have := (H.own.lt _ e).2; omega
  have hz1 : W.heap.size < (W.alloc (.cells #[.int .i64 i.op, .int .i64 i.a, .int .i64 i.b, .int .i64 i.t, .slice i.kA i.kn i.kc, .slice i.tA i.tn i.tc, .string i.r1, .string i.r2, .string i.r3, .string i.s] 29)).heap.size := by simp
  have HOP := Lib.hid hop
  have HI := Lib.hid hi
  have HVr := Lib.hid (topV_rg hv)
  have HRA := Lib.hid hra
  have hT : brT i r = i.t := by unfold brT; rw [hop]; rfl
  have hY : brY i r = (((topV r.ss).2 == 0) == false) := by unfold brY; rw [hop]; rfl
  have hS : brS i r = popS 3 r := by unfold brS; rw [hop]; rfl
  rw [hT, hY, hS]
  clear H hop hi hra hv hT hY hS
  obtain ⟨r1', hr1'⟩ : ∃ r1', popS 3 r = r1' := ⟨_, rfl⟩
  obtain ⟨x, hx⟩ : ∃ x, (topV r.ss).2 = x := ⟨_, rfl⟩
  rw [hr1', hx]
  rw [hx] at HVr
  have hs1 := popS_ss 3 r
  rw [hr1'] at hs1
  have HEQ := Lib.hid (And.intro hr1' hx)
  clear hr1' hx
  go_enter Try.func18, Try.ntmps18
  go_upto_region 1 with fail
  generalize W.alloc (.cells #[.int .i64 i.op, .int .i64 i.a, .int .i64 i.b, .int .i64 i.t, .slice i.kA i.kn i.kc, .slice i.tA i.tn i.tc, .string i.r1, .string i.r2, .string i.r3, .string i.s] 29) = W1 at hb1 HB HH R hz1 ⊢
  obtain ⟨r0, r1, r2, r3, r4, r5, r6, r7, r8, r9⟩ := ten_cells R
  rw [HOP.out] at r0
  have HX := Lib.hid R
  have HP := Lib.hid (fun (u : World) (hu : Below W1.heap.size W1 u) => pop_any (W := u) 3 (HH.out.up hu) (by omega))
  rw [HEQ.out.1, HEQ.out.2] at HP
  go_upto_region 8 with fail
  refine regN_start (N := 10) (S := (fun w' : World => w'.cell? ⟨W.heap.size, 0, none⟩ = some (.int .i64 51) ∧ w'.cell? ⟨W.heap.size, 3, none⟩ = some (.int .i64 i.t))) (by kernel_rfl) ?_
  change wpAnyN _ _ _ _ _ _ _ #[false, false, false, false, false, false, false, false, false, false, false] _ (World.drew _)
  have hS0 := (show (fun w' : World => w'.cell? ⟨W.heap.size, 0, none⟩ = some (.int .i64 51) ∧ w'.cell? ⟨W.heap.size, 3, none⟩ = some (.int .i64 i.t)) W1.drew from ⟨r0, r3⟩)
  refine regN_take (i := 0) (d := (some 37)) (v := ?v8x1) (l2 := #[true, false, false, false, false, false, false, false, false, false, false]) rfl rfl rfl (by kernel_rfl) (by kernel_rfl) (by kernel_rfl) (by kernel_rfl) (fun _ _ _ h => h) (by rfl) ?hv8x1 hS0 ?h8x1
  case hv8x1 => intro u hSu; clear hSu; go_simp; (try with_reducible rfl)
  (try simp only [Act.put, List.setIfInBounds_toArray, List.set_cons_zero, List.set_cons_succ])
  refine regN_take (i := 1) (d := (some 38)) (v := ?v8x2) (l2 := #[true, true, false, false, false, false, false, false, false, false, false]) rfl rfl rfl (by kernel_rfl) (by kernel_rfl) (by kernel_rfl) (by kernel_rfl) (fun _ _ _ h => h) (by rfl) ?hv8x2 hS0 ?h8x2
  case hv8x2 => intro u hSu; (try dsimp only at hSu); (try go_split_ands); go_simp; (try with_reducible rfl)
  (try simp only [Act.put, List.setIfInBounds_toArray, List.set_cons_zero, List.set_cons_succ])
  refine regN_take (i := 2) (d := (some 39)) (v := ?v8x3) (l2 := #[true, true, true, false, false, false, false, false, false, false, false]) rfl rfl rfl (by kernel_rfl) (by kernel_rfl) (by kernel_rfl) (by kernel_rfl) (fun _ _ _ h => h) (by rfl) ?hv8x3 hS0 ?h8x3
  case hv8x3 => intro u hSu; clear hSu; go_simp; (try with_reducible rfl)
  (try simp only [Act.put, List.setIfInBounds_toArray, List.set_cons_zero, List.set_cons_succ])
  refine regN_take (i := 5) (d := (some 42)) (v := ?v8x4) (l2 := #[true, true, true, false, false, true, false, false, false, false, false]) rfl rfl rfl (by kernel_rfl) (by kernel_rfl) (by kernel_rfl) (by kernel_rfl) (fun _ _ _ h => h) (by rfl) ?hv8x4 hS0 ?h8x4
  case hv8x4 => intro u hSu; clear hSu; go_simp; (try with_reducible rfl)
  (try simp only [Act.put, List.setIfInBounds_toArray, List.set_cons_zero, List.set_cons_succ])
  refine regN_take (i := 6) (d := (some 43)) (v := ?v8x5) (l2 := #[true, true, true, false, false, true, true, false, false, false, false]) rfl rfl rfl (by kernel_rfl) (by kernel_rfl) (by kernel_rfl) (by kernel_rfl) (fun _ _ _ h => h) (by rfl) ?hv8x5 hS0 ?h8x5
  case hv8x5 => intro u hSu; (try dsimp only at hSu); (try go_split_ands); go_simp; (try with_reducible rfl)
  (try simp only [Act.put, List.setIfInBounds_toArray, List.set_cons_zero, List.set_cons_succ])
  refine regN_take (i := 7) (d := (some 44)) (v := ?v8x6) (l2 := #[true, true, true, false, false, true, true, true, false, false, false]) rfl rfl rfl (by kernel_rfl) (by kernel_rfl) (by kernel_rfl) (by kernel_rfl) (fun _ _ _ h => h) (by rfl) ?hv8x6 hS0 ?h8x6
  case hv8x6 => intro u hSu; clear hSu; go_simp; (try with_reducible rfl)
  (try simp only [Act.put, List.setIfInBounds_toArray, List.set_cons_zero, List.set_cons_succ])
  refine regN_ready (rs := [3]) (by kernel_rfl) (by simp) ?_
  refine (AllN.cons (i := 3) (l2 := #[true, true, true, true, false, true, true, true, false, false, false]) rfl rfl (fun K hK => ?_) AllN.nil)
  go_simp
  go_at_call 28
  refine (HP.out _ (Below.refl _ _).drew).mono ?_
  rintro e w3 ⟨rfl, sv3, hr3, hk3, hl3⟩
  have hx3 := (hk3.block W.heap.size hz1 hxb hxs).trans HX.out
  obtain ⟨d0, d1, d2, d3, d4, d5, d6, d7, d8, d9⟩ := ten_cells hx3
  rw [HOP.out] at d0
  go_simp
  have hS1 : ((fun w' : World => w'.cell? ⟨W.heap.size, 0, none⟩ = some (.int .i64 51) ∧ w'.cell? ⟨W.heap.size, 3, none⟩ = some (.int .i64 i.t)) : World → Prop) _ := (show (fun w' : World => w'.cell? ⟨W.heap.size, 0, none⟩ = some (.int .i64 51) ∧ w'.cell? ⟨W.heap.size, 3, none⟩ = some (.int .i64 i.t)) w3 from ⟨d0, d3⟩)
  refine hK _ _ (fun _ => hS1) ?_
  clear hK K
  (try simp only [Act.put, List.setIfInBounds_toArray, List.set_cons_zero, List.set_cons_succ])
  refine regN_take (i := 4) (d := (some 41)) (v := ?v8x7) (l2 := #[true, true, true, true, true, true, true, true, false, false, false]) rfl rfl rfl (by kernel_rfl) (by kernel_rfl) (by kernel_rfl) (by kernel_rfl) (fun _ _ _ h => h) (by rfl) ?hv8x7 hS1 ?h8x7
  case hv8x7 => intro u hSu; clear hSu; go_simp; (try with_reducible rfl)
  (try simp only [Act.put, List.setIfInBounds_toArray, List.set_cons_zero, List.set_cons_succ])
  refine regN_take (i := 8) (d := (some 45)) (v := ?v8x8) (l2 := #[true, true, true, true, true, true, true, true, true, false, false]) rfl rfl rfl (by kernel_rfl) (by kernel_rfl) (by kernel_rfl) (by kernel_rfl) (fun _ _ _ h => h) (by rfl) ?hv8x8 hS1 ?h8x8
  case hv8x8 => intro u hSu; clear hSu; go_simp; (try with_reducible rfl)
  (try simp only [Act.put, List.setIfInBounds_toArray, List.set_cons_zero, List.set_cons_succ])
  refine regN_take (i := 9) (d := (some 4)) (v := ?v8x9) (l2 := #[true, true, true, true, true, true, true, true, true, true, false]) rfl rfl rfl (by kernel_rfl) (by kernel_rfl) (by kernel_rfl) (by kernel_rfl) (fun _ _ _ h => h) (by rfl) ?hv8x9 hS1 ?h8x9
  case hv8x9 => intro u hSu; clear hSu; go_simp; (try with_reducible rfl)
  (try simp only [Act.put, List.setIfInBounds_toArray, List.set_cons_zero, List.set_cons_succ])
  refine regN_ready (rs := [10]) (by kernel_rfl) (by simp) ?_
  refine (AllN.cons (i := 10) (l2 := #[true, true, true, true, true, true, true, true, true, true, true]) rfl rfl (fun K hK => ?_) AllN.nil)
  go_simp
  refine hK _ _ (fun h => absurd rfl h) ?_
  clear hK K
  (try simp only [Act.put, List.setIfInBounds_toArray, List.set_cons_zero, List.set_cons_succ])
  refine regN_done (by kernel_rfl) ?_ _
  go_wp2
  go_ret2
  have hk3 := Kept.below_ (Below.refl W1.heap.size W1).drew hk3
  have hl3 := Lies.below_ (Below.refl W1.heap.size W1).drew hl3
  exact ⟨rfl, sv3, hr3, hk3.below_ HB.out, hl3.below_ HB.out⟩
set_option maxRecDepth 100000 in
set_option maxHeartbeats 1000000 in
theorem br_52 {w0 W : World} {b : Nat} {h : Hd8} {r : Rs} {lA : Option Addr} {lc : Nat} {sv : Value} (i : In) (hop : i.op = 52) (H : RunSt w0 W b h r lA lc sv) (hl : r.ss.length ≤ 900000) (hi : i.ok w0 w0.heap.size) (h1 : i.kn ≤ 9223372036854775807) (h2 : i.tn ≤ 9223372036854775807) (hra : Rg i.a) (hv : VsIn r.ss) :
    Calls Try.prog 18 #[.pointer (some ⟨b, 0, none⟩), (Value.agg #[Value.int IntKind.i64 (In.op i), Value.int IntKind.i64 (In.a i), Value.int IntKind.i64 (In.b i), Value.int IntKind.i64 (In.t i), Value.slice (In.kA i) (In.kn i) (In.kc i), Value.slice (In.tA i) (In.tn i) (In.tc i), Value.string (In.r1 i), Value.string (In.r2 i), Value.string (In.r3 i), Value.string (In.s i)])] W (VlRet w0 W b h (brS i r) lA lc sv (.tuple #[.int .i64 (brT i r), .bool (brY i r)])) := by
  have hb1 := below_al (Below.refl W.heap.size W) (.cells #[.int .i64 i.op, .int .i64 i.a, .int .i64 i.b, .int .i64 i.t, .slice i.kA i.kn i.kc, .slice i.tA i.tn i.tc, .string i.r1, .string i.r2, .string i.r3, .string i.s] 29)
  have HB := Lib.hid hb1
  have HH := Lib.hid (H.up hb1)
  have R := World.alloc_heap_new W (.cells #[.int .i64 i.op, .int .i64 i.a, .int .i64 i.b, .int .i64 i.t, .slice i.kA i.kn i.kc, .slice i.tA i.tn i.tc, .string i.r1, .string i.r2, .string i.r3, .string i.s] 29)
  have hxb : W.heap.size ≠ b := fun e => by have := lt_heapV H.box; omega
  have hxs : sv.ownBlock ≠ some W.heap.size := fun e => by have := (H.own.lt _ e).2; omega
  have hz1 : W.heap.size < (W.alloc (.cells #[.int .i64 i.op, .int .i64 i.a, .int .i64 i.b, .int .i64 i.t, .slice i.kA i.kn i.kc, .slice i.tA i.tn i.tc, .string i.r1, .string i.r2, .string i.r3, .string i.s] 29)).heap.size := by simp
  have HOP := Lib.hid hop
  have HI := Lib.hid hi
  have HVr := Lib.hid (topV_rg hv)
  have HRA := Lib.hid hra
  have hT : brT i r = i.t := by unfold brT; rw [hop]; rfl
  have hY : brY i r = true := by unfold brY; rw [hop]; rfl
  have hS : brS i r = r := by unfold brS; rw [hop]; rfl
  rw [hT, hY, hS]
  clear H hop hi hra hv hT hY hS
  go_enter Try.func18, Try.ntmps18
  go_upto_region 1 with fail
  generalize W.alloc (.cells #[.int .i64 i.op, .int .i64 i.a, .int .i64 i.b, .int .i64 i.t, .slice i.kA i.kn i.kc, .slice i.tA i.tn i.tc, .string i.r1, .string i.r2, .string i.r3, .string i.s] 29) = W1 at hb1 HB HH R hz1 ⊢
  obtain ⟨r0, r1, r2, r3, r4, r5, r6, r7, r8, r9⟩ := ten_cells R
  rw [HOP.out] at r0
  have HX := Lib.hid R
  have HP := Lib.hid (fun (u : World) (hu : Below W1.heap.size W1 u) => pop_any (W := u) 1 (HH.out.up hu) (by omega))
  go_wp2
  go_ret2
  exact ⟨rfl, sv, HH.out, Kept.of_below HB.out, Lies.refl _ _⟩
set_option maxRecDepth 100000 in
set_option maxHeartbeats 1000000 in
theorem br_53 {w0 W : World} {b : Nat} {h : Hd8} {r : Rs} {lA : Option Addr} {lc : Nat} {sv : Value} (i : In) (hop : i.op = 53) (H : RunSt w0 W b h r lA lc sv) (hl : r.ss.length ≤ 900000) (hi : i.ok w0 w0.heap.size) (h1 : i.kn ≤ 9223372036854775807) (h2 : i.tn ≤ 9223372036854775807) (hra : Rg i.a) (hv : VsIn r.ss) :
    Calls Try.prog 18 #[.pointer (some ⟨b, 0, none⟩), (Value.agg #[Value.int IntKind.i64 (In.op i), Value.int IntKind.i64 (In.a i), Value.int IntKind.i64 (In.b i), Value.int IntKind.i64 (In.t i), Value.slice (In.kA i) (In.kn i) (In.kc i), Value.slice (In.tA i) (In.tn i) (In.tc i), Value.string (In.r1 i), Value.string (In.r2 i), Value.string (In.r3 i), Value.string (In.s i)])] W (VlRet w0 W b h (brS i r) lA lc sv (.tuple #[.int .i64 (brT i r), .bool (brY i r)])) := by
  have hb1 := below_al (Below.refl W.heap.size W) (.cells #[.int .i64 i.op, .int .i64 i.a, .int .i64 i.b, .int .i64 i.t, .slice i.kA i.kn i.kc, .slice i.tA i.tn i.tc, .string i.r1, .string i.r2, .string i.r3, .string i.s] 29)
  have HB := Lib.hid hb1
  have HH := Lib.hid (H.up hb1)
  have R := World.alloc_heap_new W (.cells #[.int .i64 i.op, .int .i64 i.a, .int .i64 i.b, .int .i64 i.t, .slice i.kA i.kn i.kc, .slice i.tA i.tn i.tc, .string i.r1, .string i.r2, .string i.r3, .string i.s] 29)
  have hxb : W.heap.size ≠ b := fun e => by have := lt_heapV H.box; omega
  have hxs : sv.ownBlock ≠ some W.heap.size := fun e => by have := (H.own.lt _ e).2; omega
  have hz1 : W.heap.size < (W.alloc (.cells #[.int .i64 i.op, .int .i64 i.a, .int .i64 i.b, .int .i64 i.t, .slice i.kA i.kn i.kc, .slice i.tA i.tn i.tc, .string i.r1, .string i.r2, .string i.r3, .string i.s] 29)).heap.size := by simp
  have HOP := Lib.hid hop
  have HI := Lib.hid hi
  have HVr := Lib.hid (topV_rg hv)
  have HRA := Lib.hid hra
  have hT : brT i r = tabV i (topV r.ss).2 := by unfold brT; rw [hop]; rfl
  have hY : brY i r = true := by unfold brY; rw [hop]; rfl
  have hS : brS i r = popS 1 r := by unfold brS; rw [hop]; rfl
  rw [hT, hY, hS]
  clear H hop hi hra hv hT hY hS
  obtain ⟨r1', hr1'⟩ : ∃ r1', popS 1 r = r1' := ⟨_, rfl⟩
  obtain ⟨x, hx⟩ : ∃ x, (topV r.ss).2 = x := ⟨_, rfl⟩
  rw [hr1', hx]
  rw [hx] at HVr
  have hs1 := popS_ss 1 r
  rw [hr1'] at hs1
  have HEQ := Lib.hid (And.intro hr1' hx)
  clear hr1' hx
  go_enter Try.func18, Try.ntmps18
  go_upto_region 1 with fail
  generalize W.alloc (.cells #[.int .i64 i.op, .int .i64 i.a, .int .i64 i.b, .int .i64 i.t, .slice i.kA i.kn i.kc, .slice i.tA i.tn i.tc, .string i.r1, .string i.r2, .string i.r3, .string i.s] 29) = W1 at hb1 HB HH R hz1 ⊢
  obtain ⟨r0, r1, r2, r3, r4, r5, r6, r7, r8, r9⟩ := ten_cells R
  rw [HOP.out] at r0
  have HX := Lib.hid R
  have HP := Lib.hid (fun (u : World) (hu : Below W1.heap.size W1 u) => pop_any (W := u) 1 (HH.out.up hu) (by omega))
  rw [HEQ.out.1, HEQ.out.2] at HP
  go_upto_region 4 with fail
  refine regN_start (N := 5) (S := (fun w' : World => w'.cell? ⟨W.heap.size, 0, none⟩ = some (.int .i64 i.op) ∧ w'.cell? ⟨W.heap.size, 1, none⟩ = some (.int .i64 i.a) ∧ w'.cell? ⟨W.heap.size, 2, none⟩ = some (.int .i64 i.b) ∧ w'.cell? ⟨W.heap.size, 3, none⟩ = some (.int .i64 i.t) ∧ w'.cell? ⟨W.heap.size, 4, none⟩ = some (.slice i.kA i.kn i.kc) ∧ w'.cell? ⟨W.heap.size, 5, none⟩ = some (.slice i.tA i.tn i.tc) ∧ w'.cell? ⟨W.heap.size, 6, none⟩ = some (.string i.r1) ∧ w'.cell? ⟨W.heap.size, 7, none⟩ = some (.string i.r2) ∧ w'.cell? ⟨W.heap.size, 8, none⟩ = some (.string i.r3) ∧ w'.cell? ⟨W.heap.size, 9, none⟩ = some (.string i.s))) (by kernel_rfl) ?_
  change wpAnyN _ _ _ _ _ _ _ #[false, false, false, false, false, false] _ (World.drew _)
  have hS0 := (show (fun w' : World => w'.cell? ⟨W.heap.size, 0, none⟩ = some (.int .i64 i.op) ∧ w'.cell? ⟨W.heap.size, 1, none⟩ = some (.int .i64 i.a) ∧ w'.cell? ⟨W.heap.size, 2, none⟩ = some (.int .i64 i.b) ∧ w'.cell? ⟨W.heap.size, 3, none⟩ = some (.int .i64 i.t) ∧ w'.cell? ⟨W.heap.size, 4, none⟩ = some (.slice i.kA i.kn i.kc) ∧ w'.cell? ⟨W.heap.size, 5, none⟩ = some (.slice i.tA i.tn i.tc) ∧ w'.cell? ⟨W.heap.size, 6, none⟩ = some (.string i.r1) ∧ w'.cell? ⟨W.heap.size, 7, none⟩ = some (.string i.r2) ∧ w'.cell? ⟨W.heap.size, 8, none⟩ = some (.string i.r3) ∧ w'.cell? ⟨W.heap.size, 9, none⟩ = some (.string i.s)) W1.drew from ten_cells (W := W1.drew) HX.out)
  refine regN_take (i := 0) (d := (some 21)) (v := ?v4x1) (l2 := #[true, false, false, false, false, false]) rfl rfl rfl (by kernel_rfl) (by kernel_rfl) (by kernel_rfl) (by kernel_rfl) (fun _ _ _ h => h) (by rfl) ?hv4x1 hS0 ?h4x1
  case hv4x1 => intro u hSu; (try dsimp only at hSu); (try go_split_ands); go_simp; (try with_reducible rfl)
  (try simp only [Act.put, List.setIfInBounds_toArray, List.set_cons_zero, List.set_cons_succ])
  refine regN_take (i := 1) (d := (some 22)) (v := ?v4x2) (l2 := #[true, true, false, false, false, false]) rfl rfl rfl (by kernel_rfl) (by kernel_rfl) (by kernel_rfl) (by kernel_rfl) (fun _ _ _ h => h) (by rfl) ?hv4x2 hS0 ?h4x2
  case hv4x2 => intro u hSu; clear hSu; go_simp; (try with_reducible rfl)
  (try simp only [Act.put, List.setIfInBounds_toArray, List.set_cons_zero, List.set_cons_succ])
  refine regN_ready (rs := [2]) (by kernel_rfl) (by simp) ?_
  refine (AllN.cons (i := 2) (l2 := #[true, true, true, false, false, false]) rfl rfl (fun K hK => ?_) AllN.nil)
  go_simp
  go_at_call 28
  refine (HP.out _ (Below.refl _ _).drew).mono ?_
  rintro e w3 ⟨rfl, sv3, hr3, hk3, hl3⟩
  have hx3 := (hk3.block W.heap.size hz1 hxb hxs).trans HX.out
  obtain ⟨d0, d1, d2, d3, d4, d5, d6, d7, d8, d9⟩ := ten_cells hx3
  rw [HOP.out] at d0
  have d0 := (ten_cells hx3).1
  have hz3 := lt_heapV hx3
  go_simp
  have hS1 : ((fun w' : World => w'.cell? ⟨W.heap.size, 0, none⟩ = some (.int .i64 i.op) ∧ w'.cell? ⟨W.heap.size, 1, none⟩ = some (.int .i64 i.a) ∧ w'.cell? ⟨W.heap.size, 2, none⟩ = some (.int .i64 i.b) ∧ w'.cell? ⟨W.heap.size, 3, none⟩ = some (.int .i64 i.t) ∧ w'.cell? ⟨W.heap.size, 4, none⟩ = some (.slice i.kA i.kn i.kc) ∧ w'.cell? ⟨W.heap.size, 5, none⟩ = some (.slice i.tA i.tn i.tc) ∧ w'.cell? ⟨W.heap.size, 6, none⟩ = some (.string i.r1) ∧ w'.cell? ⟨W.heap.size, 7, none⟩ = some (.string i.r2) ∧ w'.cell? ⟨W.heap.size, 8, none⟩ = some (.string i.r3) ∧ w'.cell? ⟨W.heap.size, 9, none⟩ = some (.string i.s)) : World → Prop) _ := (show (fun w' : World => w'.cell? ⟨W.heap.size, 0, none⟩ = some (.int .i64 i.op) ∧ w'.cell? ⟨W.heap.size, 1, none⟩ = some (.int .i64 i.a) ∧ w'.cell? ⟨W.heap.size, 2, none⟩ = some (.int .i64 i.b) ∧ w'.cell? ⟨W.heap.size, 3, none⟩ = some (.int .i64 i.t) ∧ w'.cell? ⟨W.heap.size, 4, none⟩ = some (.slice i.kA i.kn i.kc) ∧ w'.cell? ⟨W.heap.size, 5, none⟩ = some (.slice i.tA i.tn i.tc) ∧ w'.cell? ⟨W.heap.size, 6, none⟩ = some (.string i.r1) ∧ w'.cell? ⟨W.heap.size, 7, none⟩ = some (.string i.r2) ∧ w'.cell? ⟨W.heap.size, 8, none⟩ = some (.string i.r3) ∧ w'.cell? ⟨W.heap.size, 9, none⟩ = some (.string i.s)) w3 from ten_cells hx3)
  refine hK _ _ (fun _ => hS1) ?_
  clear hK K
  (try simp only [Act.put, List.setIfInBounds_toArray, List.set_cons_zero, List.set_cons_succ])
  refine regN_ready (rs := [3]) (by kernel_rfl) (by simp) ?_
  refine (AllN.cons (i := 3) (l2 := #[true, true, true, true, false, false]) rfl rfl (fun K hK => ?_) AllN.nil)
  go_simp
  go_at_call 27
  refine (tab_any i x ((HI.out.below hr3.bel).more hr3.bel.size) h2 HVr.out HRA.out).mono ?_
  rintro e w4 ⟨rfl, hb4⟩
  have hx4 := (hb4.block W.heap.size hz3).trans hx3
  have g0 := ten_cells hx4
  go_simp
  have hS2 : ((fun w' : World => w'.cell? ⟨W.heap.size, 0, none⟩ = some (.int .i64 i.op) ∧ w'.cell? ⟨W.heap.size, 1, none⟩ = some (.int .i64 i.a) ∧ w'.cell? ⟨W.heap.size, 2, none⟩ = some (.int .i64 i.b) ∧ w'.cell? ⟨W.heap.size, 3, none⟩ = some (.int .i64 i.t) ∧ w'.cell? ⟨W.heap.size, 4, none⟩ = some (.slice i.kA i.kn i.kc) ∧ w'.cell? ⟨W.heap.size, 5, none⟩ = some (.slice i.tA i.tn i.tc) ∧ w'.cell? ⟨W.heap.size, 6, none⟩ = some (.string i.r1) ∧ w'.cell? ⟨W.heap.size, 7, none⟩ = some (.string i.r2) ∧ w'.cell? ⟨W.heap.size, 8, none⟩ = some (.string i.r3) ∧ w'.cell? ⟨W.heap.size, 9, none⟩ = some (.string i.s)) : World → Prop) _ := (show (fun w' : World => w'.cell? ⟨W.heap.size, 0, none⟩ = some (.int .i64 i.op) ∧ w'.cell? ⟨W.heap.size, 1, none⟩ = some (.int .i64 i.a) ∧ w'.cell? ⟨W.heap.size, 2, none⟩ = some (.int .i64 i.b) ∧ w'.cell? ⟨W.heap.size, 3, none⟩ = some (.int .i64 i.t) ∧ w'.cell? ⟨W.heap.size, 4, none⟩ = some (.slice i.kA i.kn i.kc) ∧ w'.cell? ⟨W.heap.size, 5, none⟩ = some (.slice i.tA i.tn i.tc) ∧ w'.cell? ⟨W.heap.size, 6, none⟩ = some (.string i.r1) ∧ w'.cell? ⟨W.heap.size, 7, none⟩ = some (.string i.r2) ∧ w'.cell? ⟨W.heap.size, 8, none⟩ = some (.string i.r3) ∧ w'.cell? ⟨W.heap.size, 9, none⟩ = some (.string i.s)) w4 from ten_cells hx4)
  refine hK _ _ (fun _ => hS2) ?_
  clear hK K
  (try simp only [Act.put, List.setIfInBounds_toArray, List.set_cons_zero, List.set_cons_succ])
  refine regN_take (i := 4) (d := (some 4)) (v := ?v4x3) (l2 := #[true, true, true, true, true, false]) rfl rfl rfl (by kernel_rfl) (by kernel_rfl) (by kernel_rfl) (by kernel_rfl) (fun _ _ _ h => h) (by rfl) ?hv4x3 hS2 ?h4x3
  case hv4x3 => intro u hSu; clear hSu; go_simp; (try with_reducible rfl)
  (try simp only [Act.put, List.setIfInBounds_toArray, List.set_cons_zero, List.set_cons_succ])
  refine regN_ready (rs := [5]) (by kernel_rfl) (by simp) ?_
  refine (AllN.cons (i := 5) (l2 := #[true, true, true, true, true, true]) rfl rfl (fun K hK => ?_) AllN.nil)
  go_simp
  refine hK _ _ (fun h => absurd rfl h) ?_
  clear hK K
  (try simp only [Act.put, List.setIfInBounds_toArray, List.set_cons_zero, List.set_cons_succ])
  refine regN_done (by kernel_rfl) ?_ _
  go_wp2
  go_ret2
  have hk3 := Kept.below_ (Below.refl W1.heap.size W1).drew hk3
  have hl3 := Lies.below_ (Below.refl W1.heap.size W1).drew hl3
  exact ⟨rfl, sv3, hr3.up hb4, (hk3.below_ HB.out).trans (hl3.below_ HB.out) (Kept.of_below hb4), hl3.below_ HB.out⟩
set_option maxRecDepth 100000 in
set_option maxHeartbeats 1000000 in
theorem br_54 {w0 W : World} {b : Nat} {h : Hd8} {r : Rs} {lA : Option Addr} {lc : Nat} {sv : Value} (i : In) (hop : i.op = 54) (H : RunSt w0 W b h r lA lc sv) (hl : r.ss.length ≤ 900000) (hi : i.ok w0 w0.heap.size) (h1 : i.kn ≤ 9223372036854775807) (h2 : i.tn ≤ 9223372036854775807) (hra : Rg i.a) (hv : VsIn r.ss) :
    Calls Try.prog 18 #[.pointer (some ⟨b, 0, none⟩), (Value.agg #[Value.int IntKind.i64 (In.op i), Value.int IntKind.i64 (In.a i), Value.int IntKind.i64 (In.b i), Value.int IntKind.i64 (In.t i), Value.slice (In.kA i) (In.kn i) (In.kc i), Value.slice (In.tA i) (In.tn i) (In.tc i), Value.string (In.r1 i), Value.string (In.r2 i), Value.string (In.r3 i), Value.string (In.s i)])] W (VlRet w0 W b h (brS i r) lA lc sv (.tuple #[.int .i64 (brT i r), .bool (brY i r)])) := by
  have hb1 := below_al (Below.refl W.heap.size W) (.cells #[.int .i64 i.op, .int .i64 i.a, .int .i64 i.b, .int .i64 i.t, .slice i.kA i.kn i.kc, .slice i.tA i.tn i.tc, .string i.r1, .string i.r2, .string i.r3, .string i.s] 29)
  have HB := Lib.hid hb1
  have HH := Lib.hid (H.up hb1)
  have R := World.alloc_heap_new W (.cells #[.int .i64 i.op, .int .i64 i.a, .int .i64 i.b, .int .i64 i.t, .slice i.kA i.kn i.kc, .slice i.tA i.tn i.tc, .string i.r1, .string i.r2, .string i.r3, .string i.s] 29)
  have hxb : W.heap.size ≠ b := fun e => by have := lt_heapV H.box; omega
  have hxs : sv.ownBlock ≠ some W.heap.size := fun e => by have := (H.own.lt _ e).2; omega
  have hz1 : W.heap.size < (W.alloc (.cells #[.int .i64 i.op, .int .i64 i.a, .int .i64 i.b, .int .i64 i.t, .slice i.kA i.kn i.kc, .slice i.tA i.tn i.tc, .string i.r1, .string i.r2, .string i.r3, .string i.s] 29)).heap.size := by simp
  have HOP := Lib.hid hop
  have HI := Lib.hid hi
  have HVr := Lib.hid (topV_rg hv)
  have HRA := Lib.hid hra
  have hT : brT i r = lookV i (topV r.ss).2 := by unfold brT; rw [hop]; rfl
  have hY : brY i r = true := by unfold brY; rw [hop]; rfl
  have hS : brS i r = popS 1 r := by unfold brS; rw [hop]; rfl
  rw [hT, hY, hS]
  clear H hop hi hra hv hT hY hS
  obtain ⟨r1', hr1'⟩ : ∃ r1', popS 1 r = r1' := ⟨_, rfl⟩
  obtain ⟨x, hx⟩ : ∃ x, (topV r.ss).2 = x := ⟨_, rfl⟩
  rw [hr1', hx]
  rw [hx] at HVr
  have hs1 := popS_ss 1 r
  rw [hr1'] at hs1
  have HEQ := Lib.hid (And.intro hr1' hx)
  clear hr1' hx
  go_enter Try.func18, Try.ntmps18
  go_upto_region 1 with fail
  generalize W.alloc (.cells #[.int .i64 i.op, .int .i64 i.a, .int .i64 i.b, .int .i64 i.t, .slice i.kA i.kn i.kc, .slice i.tA i.tn i.tc, .string i.r1, .string i.r2, .string i.r3, .string i.s] 29) = W1 at hb1 HB HH R hz1 ⊢
  obtain ⟨r0, r1, r2, r3, r4, r5, r6, r7, r8, r9⟩ := ten_cells R
  rw [HOP.out] at r0
  have HX := Lib.hid R
  have HP := Lib.hid (fun (u : World) (hu : Below W1.heap.size W1 u) => pop_any (W := u) 1 (HH.out.up hu) (by omega))
  rw [HEQ.out.1, HEQ.out.2] at HP
  go_upto_region 6 with fail
  refine regN_start (N := 5) (S := (fun w' : World => w'.cell? ⟨W.heap.size, 0, none⟩ = some (.int .i64 i.op) ∧ w'.cell? ⟨W.heap.size, 1, none⟩ = some (.int .i64 i.a) ∧ w'.cell? ⟨W.heap.size, 2, none⟩ = some (.int .i64 i.b) ∧ w'.cell? ⟨W.heap.size, 3, none⟩ = some (.int .i64 i.t) ∧ w'.cell? ⟨W.heap.size, 4, none⟩ = some (.slice i.kA i.kn i.kc) ∧ w'.cell? ⟨W.heap.size, 5, none⟩ = some (.slice i.tA i.tn i.tc) ∧ w'.cell? ⟨W.heap.size, 6, none⟩ = some (.string i.r1) ∧ w'.cell? ⟨W.heap.size, 7, none⟩ = some (.string i.r2) ∧ w'.cell? ⟨W.heap.size, 8, none⟩ = some (.string i.r3) ∧ w'.cell? ⟨W.heap.size, 9, none⟩ = some (.string i.s))) (by kernel_rfl) ?_
  change wpAnyN _ _ _ _ _ _ _ #[false, false, false, false, false, false] _ (World.drew _)
  have hS0 := (show (fun w' : World => w'.cell? ⟨W.heap.size, 0, none⟩ = some (.int .i64 i.op) ∧ w'.cell? ⟨W.heap.size, 1, none⟩ = some (.int .i64 i.a) ∧ w'.cell? ⟨W.heap.size, 2, none⟩ = some (.int .i64 i.b) ∧ w'.cell? ⟨W.heap.size, 3, none⟩ = some (.int .i64 i.t) ∧ w'.cell? ⟨W.heap.size, 4, none⟩ = some (.slice i.kA i.kn i.kc) ∧ w'.cell? ⟨W.heap.size, 5, none⟩ = some (.slice i.tA i.tn i.tc) ∧ w'.cell? ⟨W.heap.size, 6, none⟩ = some (.string i.r1) ∧ w'.cell? ⟨W.heap.size, 7, none⟩ = some (.string i.r2) ∧ w'.cell? ⟨W.heap.size, 8, none⟩ = some (.string i.r3) ∧ w'.cell? ⟨W.heap.size, 9, none⟩ = some (.string i.s)) W1.drew from ten_cells (W := W1.drew) HX.out)
  refine regN_take (i := 0) (d := (some 29)) (v := ?v6x1) (l2 := #[true, false, false, false, false, false]) rfl rfl rfl (by kernel_rfl) (by kernel_rfl) (by kernel_rfl) (by kernel_rfl) (fun _ _ _ h => h) (by rfl) ?hv6x1 hS0 ?h6x1
  case hv6x1 => intro u hSu; (try dsimp only at hSu); (try go_split_ands); go_simp; (try with_reducible rfl)
  (try simp only [Act.put, List.setIfInBounds_toArray, List.set_cons_zero, List.set_cons_succ])
  refine regN_take (i := 1) (d := (some 30)) (v := ?v6x2) (l2 := #[true, true, false, false, false, false]) rfl rfl rfl (by kernel_rfl) (by kernel_rfl) (by kernel_rfl) (by kernel_rfl) (fun _ _ _ h => h) (by rfl) ?hv6x2 hS0 ?h6x2
  case hv6x2 => intro u hSu; clear hSu; go_simp; (try with_reducible rfl)
  (try simp only [Act.put, List.setIfInBounds_toArray, List.set_cons_zero, List.set_cons_succ])
  refine regN_ready (rs := [2]) (by kernel_rfl) (by simp) ?_
  refine (AllN.cons (i := 2) (l2 := #[true, true, true, false, false, false]) rfl rfl (fun K hK => ?_) AllN.nil)
  go_simp
  go_at_call 28
  refine (HP.out _ (Below.refl _ _).drew).mono ?_
  rintro e w3 ⟨rfl, sv3, hr3, hk3, hl3⟩
  have hx3 := (hk3.block W.heap.size hz1 hxb hxs).trans HX.out
  obtain ⟨d0, d1, d2, d3, d4, d5, d6, d7, d8, d9⟩ := ten_cells hx3
  rw [HOP.out] at d0
  have d0 := (ten_cells hx3).1
  have hz3 := lt_heapV hx3
  go_simp
  have hS1 : ((fun w' : World => w'.cell? ⟨W.heap.size, 0, none⟩ = some (.int .i64 i.op) ∧ w'.cell? ⟨W.heap.size, 1, none⟩ = some (.int .i64 i.a) ∧ w'.cell? ⟨W.heap.size, 2, none⟩ = some (.int .i64 i.b) ∧ w'.cell? ⟨W.heap.size, 3, none⟩ = some (.int .i64 i.t) ∧ w'.cell? ⟨W.heap.size, 4, none⟩ = some (.slice i.kA i.kn i.kc) ∧ w'.cell? ⟨W.heap.size, 5, none⟩ = some (.slice i.tA i.tn i.tc) ∧ w'.cell? ⟨W.heap.size, 6, none⟩ = some (.string i.r1) ∧ w'.cell? ⟨W.heap.size, 7, none⟩ = some (.string i.r2) ∧ w'.cell? ⟨W.heap.size, 8, none⟩ = some (.string i.r3) ∧ w'.cell? ⟨W.heap.size, 9, none⟩ = some (.string i.s)) : World → Prop) _ := (show (fun w' : World => w'.cell? ⟨W.heap.size, 0, none⟩ = some (.int .i64 i.op) ∧ w'.cell? ⟨W.heap.size, 1, none⟩ = some (.int .i64 i.a) ∧ w'.cell? ⟨W.heap.size, 2, none⟩ = some (.int .i64 i.b) ∧ w'.cell? ⟨W.heap.size, 3, none⟩ = some (.int .i64 i.t) ∧ w'.cell? ⟨W.heap.size, 4, none⟩ = some (.slice i.kA i.kn i.kc) ∧ w'.cell? ⟨W.heap.size, 5, none⟩ = some (.slice i.tA i.tn i.tc) ∧ w'.cell? ⟨W.heap.size, 6, none⟩ = some (.string i.r1) ∧ w'.cell? ⟨W.heap.size, 7, none⟩ = some (.string i.r2) ∧ w'.cell? ⟨W.heap.size, 8, none⟩ = some (.string i.r3) ∧ w'.cell? ⟨W.heap.size, 9, none⟩ = some (.string i.s)) w3 from ten_cells hx3)
  refine hK _ _ (fun _ => hS1) ?_
  clear hK K
  (try simp only [Act.put, List.setIfInBounds_toArray, List.set_cons_zero, List.set_cons_succ])
  refine regN_ready (rs := [3]) (by kernel_rfl) (by simp) ?_
  refine (AllN.cons (i := 3) (l2 := #[true, true, true, true, false, false]) rfl rfl (fun K hK => ?_) AllN.nil)
  go_simp
  go_at_call 29
  refine (look_any i x ((HI.out.below hr3.bel).more hr3.bel.size) h1 h2).mono ?_
  rintro e w4 ⟨rfl, hb4⟩
  have hx4 := (hb4.block W.heap.size hz3).trans hx3
  have g0 := ten_cells hx4
  go_simp
  have hS2 : ((fun w' : World => w'.cell? ⟨W.heap.size, 0, none⟩ = some (.int .i64 i.op) ∧ w'.cell? ⟨W.heap.size, 1, none⟩ = some (.int .i64 i.a) ∧ w'.cell? ⟨W.heap.size, 2, none⟩ = some (.int .i64 i.b) ∧ w'.cell? ⟨W.heap.size, 3, none⟩ = some (.int .i64 i.t) ∧ w'.cell? ⟨W.heap.size, 4, none⟩ = some (.slice i.kA i.kn i.kc) ∧ w'.cell? ⟨W.heap.size, 5, none⟩ = some (.slice i.tA i.tn i.tc) ∧ w'.cell? ⟨W.heap.size, 6, none⟩ = some (.string i.r1) ∧ w'.cell? ⟨W.heap.size, 7, none⟩ = some (.string i.r2) ∧ w'.cell? ⟨W.heap.size, 8, none⟩ = some (.string i.r3) ∧ w'.cell? ⟨W.heap.size, 9, none⟩ = some (.string i.s)) : World → Prop) _ := (show (fun w' : World => w'.cell? ⟨W.heap.size, 0, none⟩ = some (.int .i64 i.op) ∧ w'.cell? ⟨W.heap.size, 1, none⟩ = some (.int .i64 i.a) ∧ w'.cell? ⟨W.heap.size, 2, none⟩ = some (.int .i64 i.b) ∧ w'.cell? ⟨W.heap.size, 3, none⟩ = some (.int .i64 i.t) ∧ w'.cell? ⟨W.heap.size, 4, none⟩ = some (.slice i.kA i.kn i.kc) ∧ w'.cell? ⟨W.heap.size, 5, none⟩ = some (.slice i.tA i.tn i.tc) ∧ w'.cell? ⟨W.heap.size, 6, none⟩ = some (.string i.r1) ∧ w'.cell? ⟨W.heap.size, 7, none⟩ = some (.string i.r2) ∧ w'.cell? ⟨W.heap.size, 8, none⟩ = some (.string i.r3) ∧ w'.cell? ⟨W.heap.size, 9, none⟩ = some (.string i.s)) w4 from ten_cells hx4)
  refine hK _ _ (fun _ => hS2) ?_
  clear hK K
  (try simp only [Act.put, List.setIfInBounds_toArray, List.set_cons_zero, List.set_cons_succ])
  refine regN_take (i := 4) (d := (some 4)) (v := ?v6x3) (l2 := #[true, true, true, true, true, false]) rfl rfl rfl (by kernel_rfl) (by kernel_rfl) (by kernel_rfl) (by kernel_rfl) (fun _ _ _ h => h) (by rfl) ?hv6x3 hS2 ?h6x3
  case hv6x3 => intro u hSu; clear hSu; go_simp; (try with_reducible rfl)
  (try simp only [Act.put, List.setIfInBounds_toArray, List.set_cons_zero, List.set_cons_succ])
  refine regN_ready (rs := [5]) (by kernel_rfl) (by simp) ?_
  refine (AllN.cons (i := 5) (l2 := #[true, true, true, true, true, true]) rfl rfl (fun K hK => ?_) AllN.nil)
  go_simp
  refine hK _ _ (fun h => absurd rfl h) ?_
  clear hK K
  (try simp only [Act.put, List.setIfInBounds_toArray, List.set_cons_zero, List.set_cons_succ])
  refine regN_done (by kernel_rfl) ?_ _
  go_wp2
  go_ret2
  have hk3 := Kept.below_ (Below.refl W1.heap.size W1).drew hk3
  have hl3 := Lies.below_ (Below.refl W1.heap.size W1).drew hl3
  exact ⟨rfl, sv3, hr3.up hb4, (hk3.below_ HB.out).trans (hl3.below_ HB.out) (Kept.of_below hb4), hl3.below_ HB.out⟩
theorem branch_any {w0 W : World} {b : Nat} {h : Hd8} {r : Rs} {lA : Option Addr} {lc : Nat} {sv : Value} (i : In) (ho : 36 ≤ i.op ∧ i.op ≤ 54) (H : RunSt w0 W b h r lA lc sv) (hl : r.ss.length ≤ 900000) (hi : i.ok w0 w0.heap.size) (h1 : i.kn ≤ 9223372036854775807) (h2 : i.tn ≤ 9223372036854775807) (hra : Rg i.a) (hv : VsIn r.ss) :
    Calls Try.prog 18 #[.pointer (some ⟨b, 0, none⟩), (Value.agg #[Value.int IntKind.i64 (In.op i), Value.int IntKind.i64 (In.a i), Value.int IntKind.i64 (In.b i), Value.int IntKind.i64 (In.t i), Value.slice (In.kA i) (In.kn i) (In.kc i), Value.slice (In.tA i) (In.tn i) (In.tc i), Value.string (In.r1 i), Value.string (In.r2 i), Value.string (In.r3 i), Value.string (In.s i)])] W (VlRet w0 W b h (brS i r) lA lc sv (.tuple #[.int .i64 (brT i r), .bool (brY i r)])) := by
  have hc : i.op = 36 ∨ i.op = 37 ∨ i.op = 38 ∨ i.op = 39 ∨ i.op = 40 ∨ i.op = 41 ∨ i.op = 42 ∨ i.op = 43 ∨ i.op = 44 ∨ i.op = 45 ∨ i.op = 46 ∨ i.op = 47 ∨ i.op = 48 ∨ i.op = 49 ∨ i.op = 50 ∨ i.op = 51 ∨ i.op = 52 ∨ i.op = 53 ∨ i.op = 54 := by omega
  rcases hc with e | e | e | e | e | e | e | e | e | e | e | e | e | e | e | e | e | e | e
  · exact br_36 i e H hl hi h1 h2 hra hv
  · exact br_37 i e H hl hi h1 h2 hra hv
  · exact br_38 i e H hl hi h1 h2 hra hv
  · exact br_39 i e H hl hi h1 h2 hra hv
  · exact br_40 i e H hl hi h1 h2 hra hv
  · exact br_41 i e H hl hi h1 h2 hra hv
  · exact br_42 i e H hl hi h1 h2 hra hv
  · exact br_43 i e H hl hi h1 h2 hra hv
  · exact br_44 i e H hl hi h1 h2 hra hv
  · exact br_45 i e H hl hi h1 h2 hra hv
  · exact br_46 i e H hl hi h1 h2 hra hv
  · exact br_47 i e H hl hi h1 h2 hra hv
  · exact br_48 i e H hl hi h1 h2 hra hv
  · exact br_49 i e H hl hi h1 h2 hra hv
  · exact br_50 i e H hl hi h1 h2 hra hv
  · exact br_51 i e H hl hi h1 h2 hra hv
  · exact br_52 i e H hl hi h1 h2 hra hv
  · exact br_53 i e H hl hi h1 h2 hra hv
  · exact br_54 i e H hl hi h1 h2 hra hv

end Go.Proofs.Ytgiglbjkijlchaa
