/- Layer 42: access (written by gen/boacc.py). -/
import Derived.Test.YtgiglbjkijlchaaRc
import Derived.Test.YtgiglbjkijlchaaNumTwo
namespace Go.Proofs.Ytgiglbjkijlchaa
open Go.ChangeShapes Go.WideShapes Go.ChangeAt Go.RowKit Go.PlainAid
set_option linter.unusedSimpArgs false
set_option linter.unusedVariables false

def accessS (i : In) (r : Rs) : Rs :=
  if i.op = 4 ∨ i.op = 5 ∨ i.op = 6 then pushS (i.op - 3) (localV i.a (i.op - 3) r.ls) (localS i.a (i.op - 3) r)
  else if i.op = 7 ∨ i.op = 8 ∨ i.op = 9 then setS i.a (i.op - 6, (topV r.ss).2) (popS (i.op - 6) r)
  else setS i.a (1, compV 15 (localV i.a 1 r.ls) i.b) (localS i.a 1 r)
theorem StRet.sl {w0 W w' : World} {b : Nat} {h : Hd8} {r' : Rs} {lA : Option Addr} {lc : Nat} {sv : Value} {e : Ending} (H : StRet w0 W b h r' lA lc sv e w') : SlRet w0 W b h r' lA sv e w' := by
  obtain ⟨he, sv', h1, h2, h3⟩ := H
  exact ⟨he, lA, lc, sv', h1, h2, h3, Or.inl rfl⟩
/-- a second step behind a first -/
theorem SlRet.then_ {w0 W W1 w' : World} {b : Nat} {h : Hd8} {r' : Rs} {lA : Option Addr} {sv sv1 : Value} {e : Ending} (hk : Kept W W1 b sv) (hl : Lies W sv sv1) (H : SlRet w0 W1 b h r' lA sv1 e w') : SlRet w0 W b h r' lA sv e w' := by
  obtain ⟨he, lA', lc', sv', h1, h2, h3, h4⟩ := H
  refine ⟨he, lA', lc', sv', h1, hk.trans hl h2, hl.trans hk.size h3, ?_⟩
  rcases h4 with h4 | h4
  · exact Or.inl h4
  · exact Or.inr (fun g o s hA => Nat.le_trans hk.size (h4 g o s hA))
theorem Kept.below_ {W W1 W2 : World} {b : Nat} {sv : Value} (hb : Below W.heap.size W W1) (hk : Kept W1 W2 b sv) : Kept W W2 b sv := (Kept.of_below hb).trans (Lies.refl _ _) hk
theorem Lies.below_ {W W1 : World} {v v' : Value} (hb : Below W.heap.size W W1) (hl : Lies W1 v v') : Lies W v v' := by
  rcases hl with h | ⟨g, h, hg⟩
  · exact Or.inl h
  · exact Or.inr ⟨g, h, Nat.le_trans hb.size hg⟩
set_option maxRecDepth 100000 in
set_option maxHeartbeats 1000000 in
theorem acc_4 {w0 W : World} {b : Nat} {h : Hd8} {r : Rs} {lA : Option Addr} {lc : Nat} {sv : Value} (i : In) (hop : i.op = 4) (H : RunSt w0 W b h r lA lc sv) (hl : r.ss.length ≤ 900000) (hll : r.ls.length ≤ 1000000) :
    Calls Try.prog 21 #[.pointer (some ⟨b, 0, none⟩), (Value.agg #[Value.int IntKind.i64 (In.op i), Value.int IntKind.i64 (In.a i), Value.int IntKind.i64 (In.b i), Value.int IntKind.i64 (In.t i), Value.slice (In.kA i) (In.kn i) (In.kc i), Value.slice (In.tA i) (In.tn i) (In.tc i), Value.string (In.r1 i), Value.string (In.r2 i), Value.string (In.r3 i), Value.string (In.s i)])] W (SlRet w0 W b h (accessS i r) lA sv) := by
  have hb1 := below_al (Below.refl W.heap.size W) (.cells #[.int .i64 i.op, .int .i64 i.a, .int .i64 i.b, .int .i64 i.t, .slice i.kA i.kn i.kc, .slice i.tA i.tn i.tc, .string i.r1, .string i.r2, .string i.r3, .string i.s] 29)
  have HB := Lib.hid hb1
  have HH := Lib.hid (H.up hb1)
  have R := World.alloc_heap_new W (.cells #[.int .i64 i.op, .int .i64 i.a, .int .i64 i.b, .int .i64 i.t, .slice i.kA i.kn i.kc, .slice i.tA i.tn i.tc, .string i.r1, .string i.r2, .string i.r3, .string i.s] 29)
  have hxb : W.heap.size ≠ b := fun e => by have := lt_heapV H.box; omega
  have hxs : sv.ownBlock ≠ some W.heap.size := fun e => by have := (H.own.lt _ e).2; omega
  have hz1 : W.heap.size < (W.alloc (.cells #[.int .i64 i.op, .int .i64 i.a, .int .i64 i.b, .int .i64 i.t, .slice i.kA i.kn i.kc, .slice i.tA i.tn i.tc, .string i.r1, .string i.r2, .string i.r3, .string i.s] 29)).heap.size := by simp
  have HOP := Lib.hid hop
  clear H hop
  go_enter Try.func21, Try.ntmps21
  go_upto_region 1 with fail
  generalize W.alloc (.cells #[.int .i64 i.op, .int .i64 i.a, .int .i64 i.b, .int .i64 i.t, .slice i.kA i.kn i.kc, .slice i.tA i.tn i.tc, .string i.r1, .string i.r2, .string i.r3, .string i.s] 29) = W1 at hb1 HB HH R hz1 ⊢
  obtain ⟨r0, r1, r2, r3, r4, r5, r6, r7, r8, r9⟩ := ten_cells R
  rw [HOP.out] at r0
  have HS := Lib.hid (show accessS i r = pushS 1 (localV i.a 1 r.ls) (localS i.a 1 r) by unfold accessS; rw [HOP.out]; rfl)
  have HL := Lib.hid (local_any i.a 1 HH.out hll)
  go_wp2_with (first | (go_at_call 35; refine HL.out.mono ?_; rintro e w3 ⟨rfl, sv3, hr3, hk3, hl3⟩) | (go_at_call 33; refine (push_any hr3 1 (localV i.a 1 r.ls) (by rw [localS_ss]; omega)).mono ?_; rintro e w4 hr4; have HR := Lib.hid hr4; obtain ⟨rfl, _⟩ := hr4))
  go_end0
  rw [HS.out]
  exact SlRet.then_ (hk3.below_ HB.out) (hl3.below_ HB.out) HR.out.sl
set_option maxRecDepth 100000 in
set_option maxHeartbeats 1000000 in
theorem acc_5 {w0 W : World} {b : Nat} {h : Hd8} {r : Rs} {lA : Option Addr} {lc : Nat} {sv : Value} (i : In) (hop : i.op = 5) (H : RunSt w0 W b h r lA lc sv) (hl : r.ss.length ≤ 900000) (hll : r.ls.length ≤ 1000000) :
    Calls Try.prog 21 #[.pointer (some ⟨b, 0, none⟩), (Value.agg #[Value.int IntKind.i64 (In.op i), Value.int IntKind.i64 (In.a i), Value.int IntKind.i64 (In.b i), Value.int IntKind.i64 (In.t i), Value.slice (In.kA i) (In.kn i) (In.kc i), Value.slice (In.tA i) (In.tn i) (In.tc i), Value.string (In.r1 i), Value.string (In.r2 i), Value.string (In.r3 i), Value.string (In.s i)])] W (SlRet w0 W b h (accessS i r) lA sv) := by
  have hb1 := below_al (Below.refl W.heap.size W) (.cells #[.int .i64 i.op, .int .i64 i.a, .int .i64 i.b, .int .i64 i.t, .slice i.kA i.kn i.kc, .slice i.tA i.tn i.tc, .string i.r1, .string i.r2, .string i.r3, .string i.s] 29)
  have HB := Lib.hid hb1
  have HH := Lib.hid (H.up hb1)
  have R := World.alloc_heap_new W (.cells #[.int .i64 i.op, .int .i64 i.a, .int .i64 i.b, .int .i64 i.t, .slice i.kA i.kn i.kc, .slice i.tA i.tn i.tc, .string i.r1, .string i.r2, .string i.r3, .string i.s] 29)
  have hxb : W.heap.size ≠ b := fun e => by have := lt_heapV H.box; omega
  have hxs : sv.ownBlock ≠ some W.heap.size := fun e => by have := (H.own.lt _ e).2; omega
  have hz1 : W.heap.size < (W.alloc (.cells #[.int .i64 i.op, .int .i64 i.a, .int .i64 i.b, .int .i64 i.t, .slice i.kA i.kn i.kc, .slice i.tA i.tn i.tc, .string i.r1, .string i.r2, .string i.r3, .string i.s] 29)).heap.size := by simp
  have HOP := Lib.hid hop
  clear H hop
  go_enter Try.func21, Try.ntmps21
  go_upto_region 1 with fail
  generalize W.alloc (.cells #[.int .i64 i.op, .int .i64 i.a, .int .i64 i.b, .int .i64 i.t, .slice i.kA i.kn i.kc, .slice i.tA i.tn i.tc, .string i.r1, .string i.r2, .string i.r3, .string i.s] 29) = W1 at hb1 HB HH R hz1 ⊢
  obtain ⟨r0, r1, r2, r3, r4, r5, r6, r7, r8, r9⟩ := ten_cells R
  rw [HOP.out] at r0
  have HS := Lib.hid (show accessS i r = pushS 2 (localV i.a 2 r.ls) (localS i.a 2 r) by unfold accessS; rw [HOP.out]; rfl)
  have HL := Lib.hid (local_any i.a 2 HH.out hll)
  go_wp2_with (first | (go_at_call 35; refine HL.out.mono ?_; rintro e w3 ⟨rfl, sv3, hr3, hk3, hl3⟩) | (go_at_call 33; refine (push_any hr3 2 (localV i.a 2 r.ls) (by rw [localS_ss]; omega)).mono ?_; rintro e w4 hr4; have HR := Lib.hid hr4; obtain ⟨rfl, _⟩ := hr4))
  go_end0
  rw [HS.out]
  exact SlRet.then_ (hk3.below_ HB.out) (hl3.below_ HB.out) HR.out.sl
set_option maxRecDepth 100000 in
set_option maxHeartbeats 1000000 in
theorem acc_6 {w0 W : World} {b : Nat} {h : Hd8} {r : Rs} {lA : Option Addr} {lc : Nat} {sv : Value} (i : In) (hop : i.op = 6) (H : RunSt w0 W b h r lA lc sv) (hl : r.ss.length ≤ 900000) (hll : r.ls.length ≤ 1000000) :
    Calls Try.prog 21 #[.pointer (some ⟨b, 0, none⟩), (Value.agg #[Value.int IntKind.i64 (In.op i), Value.int IntKind.i64 (In.a i), Value.int IntKind.i64 (In.b i), Value.int IntKind.i64 (In.t i), Value.slice (In.kA i) (In.kn i) (In.kc i), Value.slice (In.tA i) (In.tn i) (In.tc i), Value.string (In.r1 i), Value.string (In.r2 i), Value.string (In.r3 i), Value.string (In.s i)])] W (SlRet w0 W b h (accessS i r) lA sv) := by
  have hb1 := below_al (Below.refl W.heap.size W) (.cells #[.int .i64 i.op, .int .i64 i.a, .int .i64 i.b, .int .i64 i.t, .slice i.kA i.kn i.kc, .slice i.tA i.tn i.tc, .string i.r1, .string i.r2, .string i.r3, .string i.s] 29)
  have HB := Lib.hid hb1
  have HH := Lib.hid (H.up hb1)
  have R := World.alloc_heap_new W (.cells #[.int .i64 i.op, .int .i64 i.a, .int .i64 i.b, .int .i64 i.t, .slice i.kA i.kn i.kc, .slice i.tA i.tn i.tc, .string i.r1, .string i.r2, .string i.r3, .string i.s] 29)
  have hxb : W.heap.size ≠ b := fun e => by have := lt_heapV H.box; omega
  have hxs : sv.ownBlock ≠ some W.heap.size := fun e => by have := (H.own.lt _ e).2; omega
  have hz1 : W.heap.size < (W.alloc (.cells #[.int .i64 i.op, .int .i64 i.a, .int .i64 i.b, .int .i64 i.t, .slice i.kA i.kn i.kc, .slice i.tA i.tn i.tc, .string i.r1, .string i.r2, .string i.r3, .string i.s] 29)).heap.size := by simp
  have HOP := Lib.hid hop
  clear H hop
  go_enter Try.func21, Try.ntmps21
  go_upto_region 1 with fail
  generalize W.alloc (.cells #[.int .i64 i.op, .int .i64 i.a, .int .i64 i.b, .int .i64 i.t, .slice i.kA i.kn i.kc, .slice i.tA i.tn i.tc, .string i.r1, .string i.r2, .string i.r3, .string i.s] 29) = W1 at hb1 HB HH R hz1 ⊢
  obtain ⟨r0, r1, r2, r3, r4, r5, r6, r7, r8, r9⟩ := ten_cells R
  rw [HOP.out] at r0
  have HS := Lib.hid (show accessS i r = pushS 3 (localV i.a 3 r.ls) (localS i.a 3 r) by unfold accessS; rw [HOP.out]; rfl)
  have HL := Lib.hid (local_any i.a 3 HH.out hll)
  go_wp2_with (first | (go_at_call 35; refine HL.out.mono ?_; rintro e w3 ⟨rfl, sv3, hr3, hk3, hl3⟩) | (go_at_call 33; refine (push_any hr3 3 (localV i.a 3 r.ls) (by rw [localS_ss]; omega)).mono ?_; rintro e w4 hr4; have HR := Lib.hid hr4; obtain ⟨rfl, _⟩ := hr4))
  go_end0
  rw [HS.out]
  exact SlRet.then_ (hk3.below_ HB.out) (hl3.below_ HB.out) HR.out.sl
set_option maxRecDepth 100000 in
set_option maxHeartbeats 1000000 in
theorem acc_7 {w0 W : World} {b : Nat} {h : Hd8} {r : Rs} {lA : Option Addr} {lc : Nat} {sv : Value} (i : In) (hop : i.op = 7) (H : RunSt w0 W b h r lA lc sv) (hl : r.ss.length ≤ 900000) (hll : r.ls.length ≤ 1000000) :
    Calls Try.prog 21 #[.pointer (some ⟨b, 0, none⟩), (Value.agg #[Value.int IntKind.i64 (In.op i), Value.int IntKind.i64 (In.a i), Value.int IntKind.i64 (In.b i), Value.int IntKind.i64 (In.t i), Value.slice (In.kA i) (In.kn i) (In.kc i), Value.slice (In.tA i) (In.tn i) (In.tc i), Value.string (In.r1 i), Value.string (In.r2 i), Value.string (In.r3 i), Value.string (In.s i)])] W (SlRet w0 W b h (accessS i r) lA sv) := by
  have hb1 := below_al (Below.refl W.heap.size W) (.cells #[.int .i64 i.op, .int .i64 i.a, .int .i64 i.b, .int .i64 i.t, .slice i.kA i.kn i.kc, .slice i.tA i.tn i.tc, .string i.r1, .string i.r2, .string i.r3, .string i.s] 29)
  have HB := Lib.hid hb1
  have HH := Lib.hid (H.up hb1)
  have R := World.alloc_heap_new W (.cells #[.int .i64 i.op, .int .i64 i.a, .int .i64 i.b, .int .i64 i.t, .slice i.kA i.kn i.kc, .slice i.tA i.tn i.tc, .string i.r1, .string i.r2, .string i.r3, .string i.s] 29)
  have hxb : W.heap.size ≠ b := fun e => by have := lt_heapV H.box; omega
  have hxs : sv.ownBlock ≠ some W.heap.size := fun e => by have := (H.own.lt _ e).2; omega
  have hz1 : W.heap.size < (W.alloc (.cells #[.int .i64 i.op, .int .i64 i.a, .int .i64 i.b, .int .i64 i.t, .slice i.kA i.kn i.kc, .slice i.tA i.tn i.tc, .string i.r1, .string i.r2, .string i.r3, .string i.s] 29)).heap.size := by simp
  have HOP := Lib.hid hop
  clear H hop
  go_enter Try.func21, Try.ntmps21
  go_upto_region 1 with fail
  generalize W.alloc (.cells #[.int .i64 i.op, .int .i64 i.a, .int .i64 i.b, .int .i64 i.t, .slice i.kA i.kn i.kc, .slice i.tA i.tn i.tc, .string i.r1, .string i.r2, .string i.r3, .string i.s] 29) = W1 at hb1 HB HH R hz1 ⊢
  obtain ⟨r0, r1, r2, r3, r4, r5, r6, r7, r8, r9⟩ := ten_cells R
  rw [HOP.out] at r0
  have HS := Lib.hid (show accessS i r = setS i.a (1, (topV r.ss).2) (popS 1 r) by unfold accessS; rw [HOP.out]; rfl)
  have HP := Lib.hid (fun (u : World) (hu : Below W1.heap.size W1 u) => pop_any (W := u) 1 (HH.out.up hu) (by omega))
  have KS := Lib.hid (show W1.drew.cell? ⟨W.heap.size, 1, none⟩ = some (.int .i64 i.a) from r1)
  have HX := Lib.hid R
  go_wp2
  refine regN_start (N := 8) (S := (fun w' => w'.cell? ⟨W.heap.size, 1, none⟩ = some (.int .i64 i.a))) (by kernel_rfl) ?_
  change wpAnyN _ _ _ _ _ _ _ #[false, false, false, false, false, false, false, false, false] _ (World.drew _)
  have hS0 := KS.out
  refine regN_take (i := 0) (d := (some 34)) (v := ?v11x1) (l2 := #[true, false, false, false, false, false, false, false, false]) rfl rfl rfl (by kernel_rfl) (by kernel_rfl) (by kernel_rfl) (by kernel_rfl) (fun _ _ _ h => h) (by rfl) ?hv11x1 hS0 ?h11x1
  case hv11x1 => intro u hSu; clear hSu; go_simp; (try with_reducible rfl)
  (try simp only [Act.put, List.setIfInBounds_toArray, List.set_cons_zero, List.set_cons_succ])
  refine regN_takeC [2] (i := 1) (d := (some 35)) (v := ?v11x2) (l2 := #[true, true, false, false, false, false, false, false, false]) rfl rfl rfl (by kernel_rfl) (by kernel_rfl) (by kernel_rfl) (by kernel_rfl) (fun _ _ _ h => h) (by rfl) ?hv11x2 hS0 ?h11x2
  case hv11x2 => intro u hSu; clear hSu; go_simp; (try with_reducible rfl)
  (try simp only [Act.put, List.setIfInBounds_toArray, List.set_cons_zero, List.set_cons_succ])
  refine regN_take (i := 2) (d := (some 36)) (v := ?v11x3) (l2 := #[true, true, true, false, false, false, false, false, false]) rfl rfl rfl (by kernel_rfl) (by kernel_rfl) (by kernel_rfl) (by kernel_rfl) (fun _ _ _ h => h) (by rfl) ?hv11x3 hS0 ?h11x3
  case hv11x3 => intro u hSu; (try dsimp only at hSu); (try go_split_ands); go_simp; (try with_reducible rfl)
  (try simp only [Act.put, List.setIfInBounds_toArray, List.set_cons_zero, List.set_cons_succ])
  refine regN_takeC [7] (i := 3) (d := (some 37)) (v := ?v11x4) (l2 := #[true, true, true, true, false, false, false, false, false]) rfl rfl rfl (by kernel_rfl) (by kernel_rfl) (by kernel_rfl) (by kernel_rfl) (fun _ _ _ h => h) (by rfl) ?hv11x4 hS0 ?h11x4
  case hv11x4 => intro u hSu; clear hSu; go_simp; (try with_reducible rfl)
  (try simp only [Act.put, List.setIfInBounds_toArray, List.set_cons_zero, List.set_cons_succ])
  refine regN_takeC [6] (i := 4) (d := (some 38)) (v := ?v11x5) (l2 := #[true, true, true, true, true, false, false, false, false]) rfl rfl rfl (by kernel_rfl) (by kernel_rfl) (by kernel_rfl) (by kernel_rfl) (fun _ _ _ h => h) (by rfl) ?hv11x5 hS0 ?h11x5
  case hv11x5 => intro u hSu; clear hSu; go_simp; (try with_reducible rfl)
  (try simp only [Act.put, List.setIfInBounds_toArray, List.set_cons_zero, List.set_cons_succ])
  refine regN_takeC [6] (i := 5) (d := (some 39)) (v := ?v11x6) (l2 := #[true, true, true, true, true, true, false, false, false]) rfl rfl rfl (by kernel_rfl) (by kernel_rfl) (by kernel_rfl) (by kernel_rfl) (fun _ _ _ h => h) (by rfl) ?hv11x6 hS0 ?h11x6
  case hv11x6 => intro u hSu; clear hSu; go_simp; (try with_reducible rfl)
  (try simp only [Act.put, List.setIfInBounds_toArray, List.set_cons_zero, List.set_cons_succ])
  refine regN_ready (rs := [6]) (by kernel_rfl) (by simp) ?_
  refine (AllN.cons (i := 6) (l2 := #[true, true, true, true, true, true, true, false, false]) rfl rfl (fun K hK => ?_) AllN.nil)
  go_simp
  go_at_call 28
  refine (HP.out _ (Below.refl _ _).drew).mono ?_
  rintro e w3 ⟨rfl, sv3, hr3, hk3, hl3⟩
  have hx3 := (hk3.block W.heap.size hz1 hxb hxs).trans HX.out
  have hc3 := (ten_cells hx3).2.1
  go_simp
  have hS1 : ((fun w' => w'.cell? ⟨W.heap.size, 1, none⟩ = some (.int .i64 i.a)) : World → Prop) _ := (by show w3.cell? _ = _; exact hc3)
  refine hK _ _ (fun _ => hS1) ?_
  clear hK K
  (try simp only [Act.put, List.setIfInBounds_toArray, List.set_cons_zero, List.set_cons_succ])
  refine regN_take (i := 7) (d := (some 41)) (v := ?v11x7) (l2 := #[true, true, true, true, true, true, true, true, false]) rfl rfl rfl (by kernel_rfl) (by kernel_rfl) (by kernel_rfl) (by kernel_rfl) (fun _ _ _ h => h) (by rfl) ?hv11x7 hS1 ?h11x7
  case hv11x7 => intro u hSu; clear hSu; go_simp; (try with_reducible rfl)
  (try simp only [Act.put, List.setIfInBounds_toArray, List.set_cons_zero, List.set_cons_succ])
  refine regN_ready (rs := [8]) (by kernel_rfl) (by simp) ?_
  refine (AllN.cons (i := 8) (l2 := #[true, true, true, true, true, true, true, true, true]) rfl rfl (fun K hK => ?_) AllN.nil)
  go_simp
  go_at_call 36
  refine (setLocal_any i.a 1 (topV r.ss).2 hr3 (by rw [popS_ls]; exact hll)).mono ?_
  rintro e w4 hr4
  have HR := Lib.hid hr4
  obtain ⟨rfl, _⟩ := hr4
  go_simp
  refine hK _ _ (fun h => absurd rfl h) ?_
  clear hK K
  (try simp only [Act.put, List.setIfInBounds_toArray, List.set_cons_zero, List.set_cons_succ])
  refine regN_done (by kernel_rfl) ?_ _
  go_wp2
  go_end0
  rw [HS.out]
  exact SlRet.then_ ((Kept.of_below (Below.refl _ _).drew).trans (Lies.refl _ _) hk3 |>.below_ HB.out) (Lies.below_ HB.out (Lies.below_ (Below.refl W1.heap.size W1).drew hl3)) HR.out
set_option maxRecDepth 100000 in
set_option maxHeartbeats 1000000 in
theorem acc_8 {w0 W : World} {b : Nat} {h : Hd8} {r : Rs} {lA : Option Addr} {lc : Nat} {sv : Value} (i : In) (hop : i.op = 8) (H : RunSt w0 W b h r lA lc sv) (hl : r.ss.length ≤ 900000) (hll : r.ls.length ≤ 1000000) :
    Calls Try.prog 21 #[.pointer (some ⟨b, 0, none⟩), (Value.agg #[Value.int IntKind.i64 (In.op i), Value.int IntKind.i64 (In.a i), Value.int IntKind.i64 (In.b i), Value.int IntKind.i64 (In.t i), Value.slice (In.kA i) (In.kn i) (In.kc i), Value.slice (In.tA i) (In.tn i) (In.tc i), Value.string (In.r1 i), Value.string (In.r2 i), Value.string (In.r3 i), Value.string (In.s i)])] W (SlRet w0 W b h (accessS i r) lA sv) := by
  have hb1 := below_al (Below.refl W.heap.size W) (.cells #[.int .i64 i.op, .int .i64 i.a, .int .i64 i.b, .int .i64 i.t, .slice i.kA i.kn i.kc, .slice i.tA i.tn i.tc, .string i.r1, .string i.r2, .string i.r3, .string i.s] 29)
  have HB := Lib.hid hb1
  have HH := Lib.hid (H.up hb1)
  have R := World.alloc_heap_new W (.cells #[.int .i64 i.op, .int .i64 i.a, .int .i64 i.b, .int .i64 i.t, .slice i.kA i.kn i.kc, .slice i.tA i.tn i.tc, .string i.r1, .string i.r2, .string i.r3, .string i.s] 29)
  have hxb : W.heap.size ≠ b := fun e => by have := lt_heapV H.box; omega
  have hxs : sv.ownBlock ≠ some W.heap.size := fun e => by have := (H.own.lt _ e).2; omega
  have hz1 : W.heap.size < (W.alloc (.cells #[.int .i64 i.op, .int .i64 i.a, .int .i64 i.b, .int .i64 i.t, .slice i.kA i.kn i.kc, .slice i.tA i.tn i.tc, .string i.r1, .string i.r2, .string i.r3, .string i.s] 29)).heap.size := by simp
  have HOP := Lib.hid hop
  clear H hop
  go_enter Try.func21, Try.ntmps21
  go_upto_region 1 with fail
  generalize W.alloc (.cells #[.int .i64 i.op, .int .i64 i.a, .int .i64 i.b, .int .i64 i.t, .slice i.kA i.kn i.kc, .slice i.tA i.tn i.tc, .string i.r1, .string i.r2, .string i.r3, .string i.s] 29) = W1 at hb1 HB HH R hz1 ⊢
  obtain ⟨r0, r1, r2, r3, r4, r5, r6, r7, r8, r9⟩ := ten_cells R
  rw [HOP.out] at r0
  have HS := Lib.hid (show accessS i r = setS i.a (2, (topV r.ss).2) (popS 2 r) by unfold accessS; rw [HOP.out]; rfl)
  have HP := Lib.hid (fun (u : World) (hu : Below W1.heap.size W1 u) => pop_any (W := u) 2 (HH.out.up hu) (by omega))
  have KS := Lib.hid (show W1.drew.cell? ⟨W.heap.size, 1, none⟩ = some (.int .i64 i.a) from r1)
  have HX := Lib.hid R
  go_wp2
  refine regN_start (N := 8) (S := (fun w' => w'.cell? ⟨W.heap.size, 1, none⟩ = some (.int .i64 i.a))) (by kernel_rfl) ?_
  change wpAnyN _ _ _ _ _ _ _ #[false, false, false, false, false, false, false, false, false] _ (World.drew _)
  have hS0 := KS.out
  refine regN_take (i := 0) (d := (some 34)) (v := ?v11x1) (l2 := #[true, false, false, false, false, false, false, false, false]) rfl rfl rfl (by kernel_rfl) (by kernel_rfl) (by kernel_rfl) (by kernel_rfl) (fun _ _ _ h => h) (by rfl) ?hv11x1 hS0 ?h11x1
  case hv11x1 => intro u hSu; clear hSu; go_simp; (try with_reducible rfl)
  (try simp only [Act.put, List.setIfInBounds_toArray, List.set_cons_zero, List.set_cons_succ])
  refine regN_takeC [2] (i := 1) (d := (some 35)) (v := ?v11x2) (l2 := #[true, true, false, false, false, false, false, false, false]) rfl rfl rfl (by kernel_rfl) (by kernel_rfl) (by kernel_rfl) (by kernel_rfl) (fun _ _ _ h => h) (by rfl) ?hv11x2 hS0 ?h11x2
  case hv11x2 => intro u hSu; clear hSu; go_simp; (try with_reducible rfl)
  (try simp only [Act.put, List.setIfInBounds_toArray, List.set_cons_zero, List.set_cons_succ])
  refine regN_take (i := 2) (d := (some 36)) (v := ?v11x3) (l2 := #[true, true, true, false, false, false, false, false, false]) rfl rfl rfl (by kernel_rfl) (by kernel_rfl) (by kernel_rfl) (by kernel_rfl) (fun _ _ _ h => h) (by rfl) ?hv11x3 hS0 ?h11x3
  case hv11x3 => intro u hSu; (try dsimp only at hSu); (try go_split_ands); go_simp; (try with_reducible rfl)
  (try simp only [Act.put, List.setIfInBounds_toArray, List.set_cons_zero, List.set_cons_succ])
  refine regN_takeC [7] (i := 3) (d := (some 37)) (v := ?v11x4) (l2 := #[true, true, true, true, false, false, false, false, false]) rfl rfl rfl (by kernel_rfl) (by kernel_rfl) (by kernel_rfl) (by kernel_rfl) (fun _ _ _ h => h) (by rfl) ?hv11x4 hS0 ?h11x4
  case hv11x4 => intro u hSu; clear hSu; go_simp; (try with_reducible rfl)
  (try simp only [Act.put, List.setIfInBounds_toArray, List.set_cons_zero, List.set_cons_succ])
  refine regN_takeC [6] (i := 4) (d := (some 38)) (v := ?v11x5) (l2 := #[true, true, true, true, true, false, false, false, false]) rfl rfl rfl (by kernel_rfl) (by kernel_rfl) (by kernel_rfl) (by kernel_rfl) (fun _ _ _ h => h) (by rfl) ?hv11x5 hS0 ?h11x5
  case hv11x5 => intro u hSu; clear hSu; go_simp; (try with_reducible rfl)
  (try simp only [Act.put, List.setIfInBounds_toArray, List.set_cons_zero, List.set_cons_succ])
  refine regN_takeC [6] (i := 5) (d := (some 39)) (v := ?v11x6) (l2 := #[true, true, true, true, true, true, false, false, false]) rfl rfl rfl (by kernel_rfl) (by kernel_rfl) (by kernel_rfl) (by kernel_rfl) (fun _ _ _ h => h) (by rfl) ?hv11x6 hS0 ?h11x6
  case hv11x6 => intro u hSu; clear hSu; go_simp; (try with_reducible rfl)
  (try simp only [Act.put, List.setIfInBounds_toArray, List.set_cons_zero, List.set_cons_succ])
  refine regN_ready (rs := [6]) (by kernel_rfl) (by simp) ?_
  refine (AllN.cons (i := 6) (l2 := #[true, true, true, true, true, true, true, false, false]) rfl rfl (fun K hK => ?_) AllN.nil)
  go_simp
  go_at_call 28
  refine (HP.out _ (Below.refl _ _).drew).mono ?_
  rintro e w3 ⟨rfl, sv3, hr3, hk3, hl3⟩
  have hx3 := (hk3.block W.heap.size hz1 hxb hxs).trans HX.out
  have hc3 := (ten_cells hx3).2.1
  go_simp
  have hS1 : ((fun w' => w'.cell? ⟨W.heap.size, 1, none⟩ = some (.int .i64 i.a)) : World → Prop) _ := (by show w3.cell? _ = _; exact hc3)
  refine hK _ _ (fun _ => hS1) ?_
  clear hK K
  (try simp only [Act.put, List.setIfInBounds_toArray, List.set_cons_zero, List.set_cons_succ])
  refine regN_take (i := 7) (d := (some 41)) (v := ?v11x7) (l2 := #[true, true, true, true, true, true, true, true, false]) rfl rfl rfl (by kernel_rfl) (by kernel_rfl) (by kernel_rfl) (by kernel_rfl) (fun _ _ _ h => h) (by rfl) ?hv11x7 hS1 ?h11x7
  case hv11x7 => intro u hSu; clear hSu; go_simp; (try with_reducible rfl)
  (try simp only [Act.put, List.setIfInBounds_toArray, List.set_cons_zero, List.set_cons_succ])
  refine regN_ready (rs := [8]) (by kernel_rfl) (by simp) ?_
  refine (AllN.cons (i := 8) (l2 := #[true, true, true, true, true, true, true, true, true]) rfl rfl (fun K hK => ?_) AllN.nil)
  go_simp
  go_at_call 36
  refine (setLocal_any i.a 2 (topV r.ss).2 hr3 (by rw [popS_ls]; exact hll)).mono ?_
  rintro e w4 hr4
  have HR := Lib.hid hr4
  obtain ⟨rfl, _⟩ := hr4
  go_simp
  refine hK _ _ (fun h => absurd rfl h) ?_
  clear hK K
  (try simp only [Act.put, List.setIfInBounds_toArray, List.set_cons_zero, List.set_cons_succ])
  refine regN_done (by kernel_rfl) ?_ _
  go_wp2
  go_end0
  rw [HS.out]
  exact SlRet.then_ ((Kept.of_below (Below.refl _ _).drew).trans (Lies.refl _ _) hk3 |>.below_ HB.out) (Lies.below_ HB.out (Lies.below_ (Below.refl W1.heap.size W1).drew hl3)) HR.out
set_option maxRecDepth 100000 in
set_option maxHeartbeats 1000000 in
theorem acc_9 {w0 W : World} {b : Nat} {h : Hd8} {r : Rs} {lA : Option Addr} {lc : Nat} {sv : Value} (i : In) (hop : i.op = 9) (H : RunSt w0 W b h r lA lc sv) (hl : r.ss.length ≤ 900000) (hll : r.ls.length ≤ 1000000) :
    Calls Try.prog 21 #[.pointer (some ⟨b, 0, none⟩), (Value.agg #[Value.int IntKind.i64 (In.op i), Value.int IntKind.i64 (In.a i), Value.int IntKind.i64 (In.b i), Value.int IntKind.i64 (In.t i), Value.slice (In.kA i) (In.kn i) (In.kc i), Value.slice (In.tA i) (In.tn i) (In.tc i), Value.string (In.r1 i), Value.string (In.r2 i), Value.string (In.r3 i), Value.string (In.s i)])] W (SlRet w0 W b h (accessS i r) lA sv) := by
  have hb1 := below_al (Below.refl W.heap.size W) (.cells #[.int .i64 i.op, .int .i64 i.a, .int .i64 i.b, .int .i64 i.t, .slice i.kA i.kn i.kc, .slice i.tA i.tn i.tc, .string i.r1, .string i.r2, .string i.r3, .string i.s] 29)
  have HB := Lib.hid hb1
  have HH := Lib.hid (H.up hb1)
  have R := World.alloc_heap_new W (.cells #[.int .i64 i.op, .int .i64 i.a, .int .i64 i.b, .int .i64 i.t, .slice i.kA i.kn i.kc, .slice i.tA i.tn i.tc, .string i.r1, .string i.r2, .string i.r3, .string i.s] 29)
  have hxb : W.heap.size ≠ b := fun e => by have := lt_heapV H.box; omega
  have hxs : sv.ownBlock ≠ some W.heap.size := fun e => by have := (H.own.lt _ e).2; omega
  have hz1 : W.heap.size < (W.alloc (.cells #[.int .i64 i.op, .int .i64 i.a, .int .i64 i.b, .int .i64 i.t, .slice i.kA i.kn i.kc, .slice i.tA i.tn i.tc, .string i.r1, .string i.r2, .string i.r3, .string i.s] 29)).heap.size := by simp
  have HOP := Lib.hid hop
  clear H hop
  go_enter Try.func21, Try.ntmps21
  go_upto_region 1 with fail
  generalize W.alloc (.cells #[.int .i64 i.op, .int .i64 i.a, .int .i64 i.b, .int .i64 i.t, .slice i.kA i.kn i.kc, .slice i.tA i.tn i.tc, .string i.r1, .string i.r2, .string i.r3, .string i.s] 29) = W1 at hb1 HB HH R hz1 ⊢
  obtain ⟨r0, r1, r2, r3, r4, r5, r6, r7, r8, r9⟩ := ten_cells R
  rw [HOP.out] at r0
  have HS := Lib.hid (show accessS i r = setS i.a (3, (topV r.ss).2) (popS 3 r) by unfold accessS; rw [HOP.out]; rfl)
  have HP := Lib.hid (fun (u : World) (hu : Below W1.heap.size W1 u) => pop_any (W := u) 3 (HH.out.up hu) (by omega))
  have KS := Lib.hid (show W1.drew.cell? ⟨W.heap.size, 1, none⟩ = some (.int .i64 i.a) from r1)
  have HX := Lib.hid R
  go_wp2
  refine regN_start (N := 8) (S := (fun w' => w'.cell? ⟨W.heap.size, 1, none⟩ = some (.int .i64 i.a))) (by kernel_rfl) ?_
  change wpAnyN _ _ _ _ _ _ _ #[false, false, false, false, false, false, false, false, false] _ (World.drew _)
  have hS0 := KS.out
  refine regN_take (i := 0) (d := (some 34)) (v := ?v11x1) (l2 := #[true, false, false, false, false, false, false, false, false]) rfl rfl rfl (by kernel_rfl) (by kernel_rfl) (by kernel_rfl) (by kernel_rfl) (fun _ _ _ h => h) (by rfl) ?hv11x1 hS0 ?h11x1
  case hv11x1 => intro u hSu; clear hSu; go_simp; (try with_reducible rfl)
  (try simp only [Act.put, List.setIfInBounds_toArray, List.set_cons_zero, List.set_cons_succ])
  refine regN_takeC [2] (i := 1) (d := (some 35)) (v := ?v11x2) (l2 := #[true, true, false, false, false, false, false, false, false]) rfl rfl rfl (by kernel_rfl) (by kernel_rfl) (by kernel_rfl) (by kernel_rfl) (fun _ _ _ h => h) (by rfl) ?hv11x2 hS0 ?h11x2
  case hv11x2 => intro u hSu; clear hSu; go_simp; (try with_reducible rfl)
  (try simp only [Act.put, List.setIfInBounds_toArray, List.set_cons_zero, List.set_cons_succ])
  refine regN_take (i := 2) (d := (some 36)) (v := ?v11x3) (l2 := #[true, true, true, false, false, false, false, false, false]) rfl rfl rfl (by kernel_rfl) (by kernel_rfl) (by kernel_rfl) (by kernel_rfl) (fun _ _ _ h => h) (by rfl) ?hv11x3 hS0 ?h11x3
  case hv11x3 => intro u hSu; (try dsimp only at hSu); (try go_split_ands); go_simp; (try with_reducible rfl)
  (try simp only [Act.put, List.setIfInBounds_toArray, List.set_cons_zero, List.set_cons_succ])
  refine regN_takeC [7] (i := 3) (d := (some 37)) (v := ?v11x4) (l2 := #[true, true, true, true, false, false, false, false, false]) rfl rfl rfl (by kernel_rfl) (by kernel_rfl) (by kernel_rfl) (by kernel_rfl) (fun _ _ _ h => h) (by rfl) ?hv11x4 hS0 ?h11x4
  case hv11x4 => intro u hSu; clear hSu; go_simp; (try with_reducible rfl)
  (try simp only [Act.put, List.setIfInBounds_toArray, List.set_cons_zero, List.set_cons_succ])
  refine regN_takeC [6] (i := 4) (d := (some 38)) (v := ?v11x5) (l2 := #[true, true, true, true, true, false, false, false, false]) rfl rfl rfl (by kernel_rfl) (by kernel_rfl) (by kernel_rfl) (by kernel_rfl) (fun _ _ _ h => h) (by rfl) ?hv11x5 hS0 ?h11x5
  case hv11x5 => intro u hSu; clear hSu; go_simp; (try with_reducible rfl)
  (try simp only [Act.put, List.setIfInBounds_toArray, List.set_cons_zero, List.set_cons_succ])
  refine regN_takeC [6] (i := 5) (d := (some 39)) (v := ?v11x6) (l2 := #[true, true, true, true, true, true, false, false, false]) rfl rfl rfl (by kernel_rfl) (by kernel_rfl) (by kernel_rfl) (by kernel_rfl) (fun _ _ _ h => h) (by rfl) ?hv11x6 hS0 ?h11x6
  case hv11x6 => intro u hSu; clear hSu; go_simp; (try with_reducible rfl)
  (try simp only [Act.put, List.setIfInBounds_toArray, List.set_cons_zero, List.set_cons_succ])
  refine regN_ready (rs := [6]) (by kernel_rfl) (by simp) ?_
  refine (AllN.cons (i := 6) (l2 := #[true, true, true, true, true, true, true, false, false]) rfl rfl (fun K hK => ?_) AllN.nil)
  go_simp
  go_at_call 28
  refine (HP.out _ (Below.refl _ _).drew).mono ?_
  rintro e w3 ⟨rfl, sv3, hr3, hk3, hl3⟩
  have hx3 := (hk3.block W.heap.size hz1 hxb hxs).trans HX.out
  have hc3 := (ten_cells hx3).2.1
  go_simp
  have hS1 : ((fun w' => w'.cell? ⟨W.heap.size, 1, none⟩ = some (.int .i64 i.a)) : World → Prop) _ := (by show w3.cell? _ = _; exact hc3)
  refine hK _ _ (fun _ => hS1) ?_
  clear hK K
  (try simp only [Act.put, List.setIfInBounds_toArray, List.set_cons_zero, List.set_cons_succ])
  refine regN_take (i := 7) (d := (some 41)) (v := ?v11x7) (l2 := #[true, true, true, true, true, true, true, true, false]) rfl rfl rfl (by kernel_rfl) (by kernel_rfl) (by kernel_rfl) (by kernel_rfl) (fun _ _ _ h => h) (by rfl) ?hv11x7 hS1 ?h11x7
  case hv11x7 => intro u hSu; clear hSu; go_simp; (try with_reducible rfl)
  (try simp only [Act.put, List.setIfInBounds_toArray, List.set_cons_zero, List.set_cons_succ])
  refine regN_ready (rs := [8]) (by kernel_rfl) (by simp) ?_
  refine (AllN.cons (i := 8) (l2 := #[true, true, true, true, true, true, true, true, true]) rfl rfl (fun K hK => ?_) AllN.nil)
  go_simp
  go_at_call 36
  refine (setLocal_any i.a 3 (topV r.ss).2 hr3 (by rw [popS_ls]; exact hll)).mono ?_
  rintro e w4 hr4
  have HR := Lib.hid hr4
  obtain ⟨rfl, _⟩ := hr4
  go_simp
  refine hK _ _ (fun h => absurd rfl h) ?_
  clear hK K
  (try simp only [Act.put, List.setIfInBounds_toArray, List.set_cons_zero, List.set_cons_succ])
  refine regN_done (by kernel_rfl) ?_ _
  go_wp2
  go_end0
  rw [HS.out]
  exact SlRet.then_ ((Kept.of_below (Below.refl _ _).drew).trans (Lies.refl _ _) hk3 |>.below_ HB.out) (Lies.below_ HB.out (Lies.below_ (Below.refl W1.heap.size W1).drew hl3)) HR.out
set_option maxRecDepth 100000 in
set_option maxHeartbeats 1000000 in
theorem acc_10 {w0 W : World} {b : Nat} {h : Hd8} {r : Rs} {lA : Option Addr} {lc : Nat} {sv : Value} (i : In) (hop : i.op = 10) (H : RunSt w0 W b h r lA lc sv) (hl : r.ss.length ≤ 900000) (hll : r.ls.length ≤ 1000000) :
    Calls Try.prog 21 #[.pointer (some ⟨b, 0, none⟩), (Value.agg #[Value.int IntKind.i64 (In.op i), Value.int IntKind.i64 (In.a i), Value.int IntKind.i64 (In.b i), Value.int IntKind.i64 (In.t i), Value.slice (In.kA i) (In.kn i) (In.kc i), Value.slice (In.tA i) (In.tn i) (In.tc i), Value.string (In.r1 i), Value.string (In.r2 i), Value.string (In.r3 i), Value.string (In.s i)])] W (SlRet w0 W b h (accessS i r) lA sv) := by
  have hb1 := below_al (Below.refl W.heap.size W) (.cells #[.int .i64 i.op, .int .i64 i.a, .int .i64 i.b, .int .i64 i.t, .slice i.kA i.kn i.kc, .slice i.tA i.tn i.tc, .string i.r1, .string i.r2, .string i.r3, .string i.s] 29)
  have HB := Lib.hid hb1
  have HH := Lib.hid (H.up hb1)
  have R := World.alloc_heap_new W (.cells #[.int .i64 i.op, .int .i64 i.a, .int .i64 i.b, .int .i64 i.t, .slice i.kA i.kn i.kc, .slice i.tA i.tn i.tc, .string i.r1, .string i.r2, .string i.r3, .string i.s] 29)
  have hxb : W.heap.size ≠ b := fun e => by have := lt_heapV H.box; omega
  have hxs : sv.ownBlock ≠ some W.heap.size := fun e => by have := (H.own.lt _ e).2; omega
  have hz1 : W.heap.size < (W.alloc (.cells #[.int .i64 i.op, .int .i64 i.a, .int .i64 i.b, .int .i64 i.t, .slice i.kA i.kn i.kc, .slice i.tA i.tn i.tc, .string i.r1, .string i.r2, .string i.r3, .string i.s] 29)).heap.size := by simp
  have HOP := Lib.hid hop
  clear H hop
  go_enter Try.func21, Try.ntmps21
  go_upto_region 1 with fail
  generalize W.alloc (.cells #[.int .i64 i.op, .int .i64 i.a, .int .i64 i.b, .int .i64 i.t, .slice i.kA i.kn i.kc, .slice i.tA i.tn i.tc, .string i.r1, .string i.r2, .string i.r3, .string i.s] 29) = W1 at hb1 HB HH R hz1 ⊢
  obtain ⟨r0, r1, r2, r3, r4, r5, r6, r7, r8, r9⟩ := ten_cells R
  rw [HOP.out] at r0
  have HS := Lib.hid (show accessS i r = setS i.a (1, compV 15 (localV i.a 1 r.ls) i.b) (localS i.a 1 r) by unfold accessS; rw [HOP.out]; rfl)
  have HL := Lib.hid (fun (u : World) (hu : Below W1.heap.size W1 u) => local_any (W := u) i.a 1 (HH.out.up hu) hll)
  have HC := Lib.hid (fun u => comp_any 15 (localV i.a 1 r.ls) i.b u)
  obtain ⟨lv, hlv⟩ : ∃ lv, localV i.a 1 r.ls = lv := ⟨_, rfl⟩
  rw [hlv] at HS HL HC
  obtain ⟨cv, hcv⟩ : ∃ cv, compV 15 lv i.b = cv := ⟨_, rfl⟩
  obtain ⟨ce, hce⟩ : ∃ ce, compE 15 i.b = ce := ⟨_, rfl⟩
  rw [hcv] at HS HC
  rw [hce] at HC
  clear hlv hcv hce
  have KS := Lib.hid (And.intro (show W1.drew.cell? ⟨W.heap.size, 1, none⟩ = some (.int .i64 i.a) from r1) (show W1.drew.cell? ⟨W.heap.size, 2, none⟩ = some (.int .i64 i.b) from r2))
  have HX := Lib.hid R
  go_wp2
  refine regN_start (N := 11) (S := (fun w' => w'.cell? ⟨W.heap.size, 1, none⟩ = some (.int .i64 i.a) ∧ w'.cell? ⟨W.heap.size, 2, none⟩ = some (.int .i64 i.b))) (by kernel_rfl) ?_
  change wpAnyN _ _ _ _ _ _ _ #[false, false, false, false, false, false, false, false, false, false, false, false] _ (World.drew _)
  have hS0 := KS.out
  refine regN_take (i := 0) (d := (some 46)) (v := ?v13x1) (l2 := #[true, false, false, false, false, false, false, false, false, false, false, false]) rfl rfl rfl (by kernel_rfl) (by kernel_rfl) (by kernel_rfl) (by kernel_rfl) (fun _ _ _ h => h) (by rfl) ?hv13x1 hS0 ?h13x1
  case hv13x1 => intro u hSu; clear hSu; go_simp; (try with_reducible rfl)
  (try simp only [Act.put, List.setIfInBounds_toArray, List.set_cons_zero, List.set_cons_succ])
  refine regN_take (i := 1) (d := (some 47)) (v := ?v13x2) (l2 := #[true, true, false, false, false, false, false, false, false, false, false, false]) rfl rfl rfl (by kernel_rfl) (by kernel_rfl) (by kernel_rfl) (by kernel_rfl) (fun _ _ _ h => h) (by rfl) ?hv13x2 hS0 ?h13x2
  case hv13x2 => intro u hSu; clear hSu; go_simp; (try with_reducible rfl)
  (try simp only [Act.put, List.setIfInBounds_toArray, List.set_cons_zero, List.set_cons_succ])
  refine regN_take (i := 2) (d := (some 48)) (v := ?v13x3) (l2 := #[true, true, true, false, false, false, false, false, false, false, false, false]) rfl rfl rfl (by kernel_rfl) (by kernel_rfl) (by kernel_rfl) (by kernel_rfl) (fun _ _ _ h => h) (by rfl) ?hv13x3 hS0 ?h13x3
  case hv13x3 => intro u hSu; (try dsimp only at hSu); (try go_split_ands); go_simp; (try with_reducible rfl)
  (try simp only [Act.put, List.setIfInBounds_toArray, List.set_cons_zero, List.set_cons_succ])
  refine regN_take (i := 4) (d := (some 50)) (v := ?v13x4) (l2 := #[true, true, true, false, true, false, false, false, false, false, false, false]) rfl rfl rfl (by kernel_rfl) (by kernel_rfl) (by kernel_rfl) (by kernel_rfl) (fun _ _ _ h => h) (by rfl) ?hv13x4 hS0 ?h13x4
  case hv13x4 => intro u hSu; clear hSu; go_simp; (try with_reducible rfl)
  (try simp only [Act.put, List.setIfInBounds_toArray, List.set_cons_zero, List.set_cons_succ])
  refine regN_take (i := 5) (d := (some 51)) (v := ?v13x5) (l2 := #[true, true, true, false, true, true, false, false, false, false, false, false]) rfl rfl rfl (by kernel_rfl) (by kernel_rfl) (by kernel_rfl) (by kernel_rfl) (fun _ _ _ h => h) (by rfl) ?hv13x5 hS0 ?h13x5
  case hv13x5 => intro u hSu; (try dsimp only at hSu); (try go_split_ands); go_simp; (try with_reducible rfl)
  (try simp only [Act.put, List.setIfInBounds_toArray, List.set_cons_zero, List.set_cons_succ])
  refine regN_ready (rs := [3]) (by kernel_rfl) (by simp) ?_
  refine (AllN.cons (i := 3) (l2 := #[true, true, true, true, true, true, false, false, false, false, false, false]) rfl rfl (fun K hK => ?_) AllN.nil)
  go_simp
  go_at_call 35
  refine (HL.out _ (Below.refl _ _).drew).mono ?_
  rintro e w3 ⟨rfl, sv3, hr3, hk3, hl3⟩
  have hx3 := (hk3.block W.heap.size hz1 hxb hxs).trans HX.out
  have hc3 := And.intro (ten_cells hx3).2.1 (ten_cells hx3).2.2.1
  go_simp
  have hS1 : ((fun w' => w'.cell? ⟨W.heap.size, 1, none⟩ = some (.int .i64 i.a) ∧ w'.cell? ⟨W.heap.size, 2, none⟩ = some (.int .i64 i.b)) : World → Prop) _ := (by show w3.cell? _ = _ ∧ w3.cell? _ = _; exact hc3)
  refine hK _ _ (fun _ => hS1) ?_
  clear hK K
  (try simp only [Act.put, List.setIfInBounds_toArray, List.set_cons_zero, List.set_cons_succ])
  refine regN_ready (rs := [6]) (by kernel_rfl) (by simp) ?_
  refine (AllN.cons (i := 6) (l2 := #[true, true, true, true, true, true, true, false, false, false, false, false]) rfl rfl (fun K hK => ?_) AllN.nil)
  go_simp
  go_at_call 31
  refine (HC.out _).mono ?_
  rintro e w' ⟨rfl, rfl⟩
  go_simp
  have hS2 : ((fun w' => w'.cell? ⟨W.heap.size, 1, none⟩ = some (.int .i64 i.a) ∧ w'.cell? ⟨W.heap.size, 2, none⟩ = some (.int .i64 i.b)) : World → Prop) _ := (by show w3.cell? _ = _ ∧ w3.cell? _ = _; exact hc3)
  refine hK _ _ (fun _ => hS2) ?_
  clear hK K
  (try simp only [Act.put, List.setIfInBounds_toArray, List.set_cons_zero, List.set_cons_succ])
  refine regN_take (i := 7) (d := (some 45)) (v := ?v13x6) (l2 := #[true, true, true, true, true, true, true, true, false, false, false, false]) rfl rfl rfl (by kernel_rfl) (by kernel_rfl) (by kernel_rfl) (by kernel_rfl) (fun _ _ _ h => h) (by rfl) ?hv13x6 hS2 ?h13x6
  case hv13x6 => intro u hSu; clear hSu; go_simp; (try with_reducible rfl)
  (try simp only [Act.put, List.setIfInBounds_toArray, List.set_cons_zero, List.set_cons_succ])
  refine regN_take (i := 8) (d := (some 53)) (v := ?v13x7) (l2 := #[true, true, true, true, true, true, true, true, true, false, false, false]) rfl rfl rfl (by kernel_rfl) (by kernel_rfl) (by kernel_rfl) (by kernel_rfl) (fun _ _ _ h => h) (by rfl) ?hv13x7 hS2 ?h13x7
  case hv13x7 => intro u hSu; clear hSu; go_simp; (try with_reducible rfl)
  (try simp only [Act.put, List.setIfInBounds_toArray, List.set_cons_zero, List.set_cons_succ])
  refine regN_take (i := 9) (d := (some 54)) (v := ?v13x8) (l2 := #[true, true, true, true, true, true, true, true, true, true, false, false]) rfl rfl rfl (by kernel_rfl) (by kernel_rfl) (by kernel_rfl) (by kernel_rfl) (fun _ _ _ h => h) (by rfl) ?hv13x8 hS2 ?h13x8
  case hv13x8 => intro u hSu; clear hSu; go_simp; (try with_reducible rfl)
  (try simp only [Act.put, List.setIfInBounds_toArray, List.set_cons_zero, List.set_cons_succ])
  refine regN_take (i := 10) (d := (some 6)) (v := ?v13x9) (l2 := #[true, true, true, true, true, true, true, true, true, true, true, false]) rfl rfl rfl (by kernel_rfl) (by kernel_rfl) (by kernel_rfl) (by kernel_rfl) (fun _ _ _ h => h) (by rfl) ?hv13x9 hS2 ?h13x9
  case hv13x9 => intro u hSu; clear hSu; go_simp; (try with_reducible rfl)
  (try simp only [Act.put, List.setIfInBounds_toArray, List.set_cons_zero, List.set_cons_succ])
  refine regN_ready (rs := [11]) (by kernel_rfl) (by simp) ?_
  refine (AllN.cons (i := 11) (l2 := #[true, true, true, true, true, true, true, true, true, true, true, true]) rfl rfl (fun K hK => ?_) AllN.nil)
  go_simp
  refine hK _ _ (fun h => absurd rfl h) ?_
  clear hK K
  (try simp only [Act.put, List.setIfInBounds_toArray, List.set_cons_zero, List.set_cons_succ])
  refine regN_done (by kernel_rfl) ?_ _
  have hx5 := ten_cells hx3
  have q1 := hx5.2.1
  clear hx5 hS0
  go_wp2_with (go_at_call 36; refine (setLocal_any i.a 1 cv hr3 (by rw [localS_ls]; exact hll)).mono ?_; rintro e w4 hr4; have HR := Lib.hid hr4; obtain ⟨rfl, _⟩ := hr4)
  go_end0
  rw [HS.out]
  exact SlRet.then_ ((Kept.of_below (Below.refl _ _).drew).trans (Lies.refl _ _) hk3 |>.below_ HB.out) (Lies.below_ HB.out (Lies.below_ (Below.refl W1.heap.size W1).drew hl3)) HR.out
theorem access_any {w0 W : World} {b : Nat} {h : Hd8} {r : Rs} {lA : Option Addr} {lc : Nat} {sv : Value} (i : In) (h4 : 4 ≤ i.op) (h10 : i.op ≤ 10) (H : RunSt w0 W b h r lA lc sv) (hl : r.ss.length ≤ 900000) (hll : r.ls.length ≤ 1000000) :
    Calls Try.prog 21 #[.pointer (some ⟨b, 0, none⟩), (Value.agg #[Value.int IntKind.i64 (In.op i), Value.int IntKind.i64 (In.a i), Value.int IntKind.i64 (In.b i), Value.int IntKind.i64 (In.t i), Value.slice (In.kA i) (In.kn i) (In.kc i), Value.slice (In.tA i) (In.tn i) (In.tc i), Value.string (In.r1 i), Value.string (In.r2 i), Value.string (In.r3 i), Value.string (In.s i)])] W (SlRet w0 W b h (accessS i r) lA sv) := by
  rcases (by omega : i.op = 4 ∨ i.op = 5 ∨ i.op = 6 ∨ i.op = 7 ∨ i.op = 8 ∨ i.op = 9 ∨ i.op = 10) with e | e | e | e | e | e | e
  · exact acc_4 i e H hl hll
  · exact acc_5 i e H hl hll
  · exact acc_6 i e H hl hll
  · exact acc_7 i e H hl hll
  · exact acc_8 i e H hl hll
  · exact acc_9 i e H hl hll
  · exact acc_10 i e H hl hll

end Go.Proofs.Ytgiglbjkijlchaa
