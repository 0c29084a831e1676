/- Layer 42: the reference's plain (written by gen/bopl.py). -/
import Derived.Test.YtgiglbjkijlchaaRy
namespace Go.Proofs.Ytgiglbjkijlchaa
open Go.ChangeShapes Go.WideShapes Go.ChangeAt Go.RowKit Go.PlainAid
set_option linter.unusedSimpArgs false
set_option linter.unusedVariables false

set_option maxRecDepth 100000 in
set_option maxHeartbeats 1000000 in
theorem plain_4 {w0 W : World} {b : Nat} {h : Hd8} {r : Rs} {lA : Option Addr} {lc : Nat} {sA : Option Addr} {sc : Nat} {ia ib it : Int} {kA : Option Addr} {kn kc : Nat} {ks : List Int} {tA : Option Addr} {tn tc : Nat} {ts : List Int} {r1 r2 r3 s : ByteArray} (H : HdSt w0 W b h r lA lc sA sc) (hl : r.ss.length ≤ 900000) (hll : r.ls.length ≤ 1000000) :
    Calls Try.prog 26 #[.pointer (some ⟨b, 0, none⟩), .agg #[.int .i64 4, .int .i64 ia, .int .i64 ib, .int .i64 it, .slice kA kn kc, .slice tA tn tc, .string r1, .string r2, .string r3, .string s]] W (HdEx w0 W b h r (plainR (⟨4, ia, ib, it, kA, kn, kc, ks, tA, tn, tc, ts, r1, r2, r3, s⟩ : In) r) lA sA (.tuple #[])) := by
  have hb1 := below_al (Below.refl W.heap.size W) (.cells #[.int .i64 4, .int .i64 ia, .int .i64 ib, .int .i64 it, .slice kA kn kc, .slice tA tn tc, .string r1, .string r2, .string r3, .string s] 29)
  have R := World.alloc_heap_new W (.cells #[.int .i64 4, .int .i64 ia, .int .i64 ib, .int .i64 it, .slice kA kn kc, .slice tA tn tc, .string r1, .string r2, .string r3, .string s] 29)
  have HQ := Lib.hid ((Hq.refl H).up hb1)
  have hz := lt_heapV H.box
  have hz1 : W.heap.size < (W.alloc (.cells #[.int .i64 4, .int .i64 ia, .int .i64 ib, .int .i64 it, .slice kA kn kc, .slice tA tn tc, .string r1, .string r2, .string r3, .string s] 29)).heap.size := by simp
  clear H
  go_enter Try.func26, Try.ntmps26
  go_upto_region 1 with fail
  generalize W.alloc (.cells #[.int .i64 4, .int .i64 ia, .int .i64 ib, .int .i64 it, .slice kA kn kc, .slice tA tn tc, .string r1, .string r2, .string r3, .string s] 29) = W1 at R HQ hz1 ⊢
  obtain ⟨q0, q1, q2, q3, q4, q5, q6, q7, q8, q9⟩ := ten_cells R
  have HR := Lib.hid R
  clear hb1
  have HS := Lib.hid (show plainR (⟨4, ia, ib, it, kA, kn, kc, ks, tA, tn, tc, ts, r1, r2, r3, s⟩ : In) r = putS (locRV ia r).1 (locRV ia r).2 (locRS ia 1 r) from rfl)
  obtain ⟨⟨vk, vn⟩, hv⟩ : ∃ x, locRV ia r = x := ⟨_, rfl⟩
  have HL := Lib.hid (fun (W2 : World) (H : Hq w0 W b h r lA sA W2 r) => hloc_q (⟨4, ia, ib, it, kA, kn, kc, ks, tA, tn, tc, ts, r1, r2, r3, s⟩ : In) 1 H hll)
  dsimp only at HL
  rw [hv] at HL HS
  clear hv
  dsimp only at HL HS
  have hl1 : (locRS ia 1 r).ss.length ≤ 900000 := by rw [locRS_ss]; exact hl
  have HKK := Lib.hid (fun (w : World) => kinds_any 0 w (by decide))
  have hxb : W.heap.size ≠ b := by omega
  have KS := Lib.hid (show (fun (w' : World) => w'.cell? ⟨W.heap.size, 0, none⟩ = some (.int .i64 4) ∧ w'.cell? ⟨W.heap.size, 1, none⟩ = some (.int .i64 ia) ∧ w'.cell? ⟨W.heap.size, 2, none⟩ = some (.int .i64 ib) ∧ w'.cell? ⟨W.heap.size, 3, none⟩ = some (.int .i64 it) ∧ w'.cell? ⟨W.heap.size, 4, none⟩ = some (.slice kA kn kc) ∧ w'.cell? ⟨W.heap.size, 5, none⟩ = some (.slice tA tn tc) ∧ w'.cell? ⟨W.heap.size, 6, none⟩ = some (.string r1) ∧ w'.cell? ⟨W.heap.size, 7, none⟩ = some (.string r2) ∧ w'.cell? ⟨W.heap.size, 8, none⟩ = some (.string r3) ∧ w'.cell? ⟨W.heap.size, 9, none⟩ = some (.string s)) W1.drew from ⟨q0, q1, q2, q3, q4, q5, q6, q7, q8, q9⟩)
  go_upto_region 10 with fail
  refine regN_start (N := 8) (S := (fun (w' : World) => w'.cell? ⟨W.heap.size, 0, none⟩ = some (.int .i64 4) ∧ w'.cell? ⟨W.heap.size, 1, none⟩ = some (.int .i64 ia) ∧ w'.cell? ⟨W.heap.size, 2, none⟩ = some (.int .i64 ib) ∧ w'.cell? ⟨W.heap.size, 3, none⟩ = some (.int .i64 it) ∧ w'.cell? ⟨W.heap.size, 4, none⟩ = some (.slice kA kn kc) ∧ w'.cell? ⟨W.heap.size, 5, none⟩ = some (.slice tA tn tc) ∧ w'.cell? ⟨W.heap.size, 6, none⟩ = some (.string r1) ∧ w'.cell? ⟨W.heap.size, 7, none⟩ = some (.string r2) ∧ w'.cell? ⟨W.heap.size, 8, none⟩ = some (.string r3) ∧ w'.cell? ⟨W.heap.size, 9, none⟩ = some (.string s))) (by kernel_rfl) ?_
  change wpAnyN _ _ _ _ _ _ _ #[false, false, false, false, false, false, false, false, false] _ (World.drew _)
  have hS0 := KS.out
  refine regN_take (i := 0) (d := (some 56)) (v := ?v10x1) (l2 := #[true, false, false, false, false, false, false, false, false]) rfl rfl rfl (by kernel_rfl) (by kernel_rfl) (by kernel_rfl) (by kernel_rfl) (fun _ _ _ h => h) (by rfl) ?hv10x1 hS0 ?h10x1
  case hv10x1 => intro u hSu; clear hSu; go_simp; (try with_reducible rfl)
  (try simp only [Act.put, List.setIfInBounds_toArray, List.set_cons_zero, List.set_cons_succ])
  refine regN_takeC [7] (i := 1) (d := (some 57)) (v := ?v10x2) (l2 := #[true, true, false, false, false, false, false, false, false]) rfl rfl rfl (by kernel_rfl) (by kernel_rfl) (by kernel_rfl) (by kernel_rfl) (fun _ _ _ h => h) (by rfl) ?hv10x2 hS0 ?h10x2
  case hv10x2 => intro u hSu; clear hSu; go_simp; (try with_reducible rfl)
  (try simp only [Act.put, List.setIfInBounds_toArray, List.set_cons_zero, List.set_cons_succ])
  refine regN_takeC [7] (i := 2) (d := (some 58)) (v := ?v10x3) (l2 := #[true, true, true, false, false, false, false, false, false]) rfl rfl rfl (by kernel_rfl) (by kernel_rfl) (by kernel_rfl) (by kernel_rfl) (fun _ _ _ h => h) (by rfl) ?hv10x3 hS0 ?h10x3
  case hv10x3 => intro u hSu; (try dsimp only at hSu); (try go_split_ands); go_simp; (try with_reducible rfl)
  (try simp only [Act.put, List.setIfInBounds_toArray, List.set_cons_zero, List.set_cons_succ])
  refine regN_takeC [7, 6, 5, 4] (i := 3) (d := (some 59)) (v := ?v10x4) (l2 := #[true, true, true, true, false, false, false, false, false]) rfl rfl rfl (by kernel_rfl) (by kernel_rfl) (by kernel_rfl) (by kernel_rfl) (fun _ _ _ h => h) (by rfl) ?hv10x4 hS0 ?h10x4
  case hv10x4 => intro u hSu; clear hSu; go_simp; (try with_reducible rfl)
  (try simp only [Act.put, List.setIfInBounds_toArray, List.set_cons_zero, List.set_cons_succ])
  refine regN_takeC [7, 6, 5] (i := 4) (d := (some 60)) (v := ?v10x5) (l2 := #[true, true, true, true, true, false, false, false, false]) rfl rfl rfl (by kernel_rfl) (by kernel_rfl) (by kernel_rfl) (by kernel_rfl) (fun _ _ _ h => h) (by rfl) ?hv10x5 hS0 ?h10x5
  case hv10x5 => intro u hSu; (try dsimp only at hSu); (try go_split_ands); go_simp; (try with_reducible rfl)
  (try simp only [Act.put, List.setIfInBounds_toArray, List.set_cons_zero, List.set_cons_succ])
  refine regN_takeC [7, 6] (i := 5) (d := (some 61)) (v := ?v10x6) (l2 := #[true, true, true, true, true, true, false, false, false]) rfl rfl rfl (by kernel_rfl) (by kernel_rfl) (by kernel_rfl) (by kernel_rfl) (fun _ _ _ h => h) (by rfl) ?hv10x6 hS0 ?h10x6
  case hv10x6 => intro u hSu; clear hSu; go_simp; (try with_reducible rfl)
  (try simp only [Act.put, List.setIfInBounds_toArray, List.set_cons_zero, List.set_cons_succ])
  refine regN_ready (rs := [6]) (by kernel_rfl) (by simp) ?_
  refine (AllN.cons (i := 6) (l2 := #[true, true, true, true, true, true, true, false, false]) rfl rfl (fun K hK => ?_) AllN.nil)
  go_simp
  go_at_call 44
  refine (HKK.out _).mono ?_
  rintro e w2 ⟨rfl, hb2⟩
  have hx2 := (hb2.block W.heap.size hz1).trans HR.out
  have hz2 : W.heap.size < w2.heap.size := Nat.lt_of_lt_of_le hz1 hb2.size
  have HQ2 := Lib.hid (HQ.out.up ((Below.refl W1.heap.size W1).drew.trans hb2))
  have HX2 := Lib.hid hx2
  have ky2 := ten_cells hx2
  clear hb2 hx2
  go_simp
  have hS1 : ((fun (w' : World) => w'.cell? ⟨W.heap.size, 0, none⟩ = some (.int .i64 4) ∧ w'.cell? ⟨W.heap.size, 1, none⟩ = some (.int .i64 ia) ∧ w'.cell? ⟨W.heap.size, 2, none⟩ = some (.int .i64 ib) ∧ w'.cell? ⟨W.heap.size, 3, none⟩ = some (.int .i64 it) ∧ w'.cell? ⟨W.heap.size, 4, none⟩ = some (.slice kA kn kc) ∧ w'.cell? ⟨W.heap.size, 5, none⟩ = some (.slice tA tn tc) ∧ w'.cell? ⟨W.heap.size, 6, none⟩ = some (.string r1) ∧ w'.cell? ⟨W.heap.size, 7, none⟩ = some (.string r2) ∧ w'.cell? ⟨W.heap.size, 8, none⟩ = some (.string r3) ∧ w'.cell? ⟨W.heap.size, 9, none⟩ = some (.string s)) : World → Prop) _ := (by show (fun (w' : World) => w'.cell? ⟨W.heap.size, 0, none⟩ = some (.int .i64 4) ∧ w'.cell? ⟨W.heap.size, 1, none⟩ = some (.int .i64 ia) ∧ w'.cell? ⟨W.heap.size, 2, none⟩ = some (.int .i64 ib) ∧ w'.cell? ⟨W.heap.size, 3, none⟩ = some (.int .i64 it) ∧ w'.cell? ⟨W.heap.size, 4, none⟩ = some (.slice kA kn kc) ∧ w'.cell? ⟨W.heap.size, 5, none⟩ = some (.slice tA tn tc) ∧ w'.cell? ⟨W.heap.size, 6, none⟩ = some (.string r1) ∧ w'.cell? ⟨W.heap.size, 7, none⟩ = some (.string r2) ∧ w'.cell? ⟨W.heap.size, 8, none⟩ = some (.string r3) ∧ w'.cell? ⟨W.heap.size, 9, none⟩ = some (.string s)) _; exact ky2)
  refine hK _ _ (fun _ => hS1) ?_
  clear hK K
  (try simp only [Act.put, List.setIfInBounds_toArray, List.set_cons_zero, List.set_cons_succ])
  refine regN_ready (rs := [7]) (by kernel_rfl) (by simp) ?_
  refine (AllN.cons (i := 7) (l2 := #[true, true, true, true, true, true, true, true, false]) rfl rfl (fun K hK => ?_) AllN.nil)
  go_simp
  go_at_call 43
  refine (HL.out _ HQ2.out).mono ?_
  rintro e w3 ⟨rfl, hq3, hk3⟩
  have hx3 := (hk3.block W.heap.size hz2 hxb).trans HX2.out
  have ky3 := ten_cells hx3
  go_simp
  have hS2 : ((fun (w' : World) => w'.cell? ⟨W.heap.size, 0, none⟩ = some (.int .i64 4) ∧ w'.cell? ⟨W.heap.size, 1, none⟩ = some (.int .i64 ia) ∧ w'.cell? ⟨W.heap.size, 2, none⟩ = some (.int .i64 ib) ∧ w'.cell? ⟨W.heap.size, 3, none⟩ = some (.int .i64 it) ∧ w'.cell? ⟨W.heap.size, 4, none⟩ = some (.slice kA kn kc) ∧ w'.cell? ⟨W.heap.size, 5, none⟩ = some (.slice tA tn tc) ∧ w'.cell? ⟨W.heap.size, 6, none⟩ = some (.string r1) ∧ w'.cell? ⟨W.heap.size, 7, none⟩ = some (.string r2) ∧ w'.cell? ⟨W.heap.size, 8, none⟩ = some (.string r3) ∧ w'.cell? ⟨W.heap.size, 9, none⟩ = some (.string s)) : World → Prop) _ := (by show (fun (w' : World) => w'.cell? ⟨W.heap.size, 0, none⟩ = some (.int .i64 4) ∧ w'.cell? ⟨W.heap.size, 1, none⟩ = some (.int .i64 ia) ∧ w'.cell? ⟨W.heap.size, 2, none⟩ = some (.int .i64 ib) ∧ w'.cell? ⟨W.heap.size, 3, none⟩ = some (.int .i64 it) ∧ w'.cell? ⟨W.heap.size, 4, none⟩ = some (.slice kA kn kc) ∧ w'.cell? ⟨W.heap.size, 5, none⟩ = some (.slice tA tn tc) ∧ w'.cell? ⟨W.heap.size, 6, none⟩ = some (.string r1) ∧ w'.cell? ⟨W.heap.size, 7, none⟩ = some (.string r2) ∧ w'.cell? ⟨W.heap.size, 8, none⟩ = some (.string r3) ∧ w'.cell? ⟨W.heap.size, 9, none⟩ = some (.string s)) _; exact ky3)
  refine hK _ _ (fun _ => hS2) ?_
  clear hK K
  (try simp only [Act.put, List.setIfInBounds_toArray, List.set_cons_zero, List.set_cons_succ])
  refine regN_ready (rs := [8]) (by kernel_rfl) (by simp) ?_
  refine (AllN.cons (i := 8) (l2 := #[true, true, true, true, true, true, true, true, true]) rfl rfl (fun K hK => ?_) AllN.nil)
  go_simp
  go_at_call 42
  refine (back_q hq3 vk vn (by omega)).mono ?_
  rintro e w4 ⟨rfl, hq4, hk4⟩
  go_simp
  refine hK _ _ (fun h => absurd rfl h) ?_
  clear hK K
  (try simp only [Act.put, List.setIfInBounds_toArray, List.set_cons_zero, List.set_cons_succ])
  refine regN_done (by kernel_rfl) ?_ _
  go_wp2
  go_end0
  rw [HS.out]
  exact hq4.ex
set_option maxRecDepth 100000 in
set_option maxHeartbeats 1000000 in
theorem plain_5 {w0 W : World} {b : Nat} {h : Hd8} {r : Rs} {lA : Option Addr} {lc : Nat} {sA : Option Addr} {sc : Nat} {ia ib it : Int} {kA : Option Addr} {kn kc : Nat} {ks : List Int} {tA : Option Addr} {tn tc : Nat} {ts : List Int} {r1 r2 r3 s : ByteArray} (H : HdSt w0 W b h r lA lc sA sc) (hl : r.ss.length ≤ 900000) (hll : r.ls.length ≤ 1000000) :
    Calls Try.prog 26 #[.pointer (some ⟨b, 0, none⟩), .agg #[.int .i64 5, .int .i64 ia, .int .i64 ib, .int .i64 it, .slice kA kn kc, .slice tA tn tc, .string r1, .string r2, .string r3, .string s]] W (HdEx w0 W b h r (plainR (⟨5, ia, ib, it, kA, kn, kc, ks, tA, tn, tc, ts, r1, r2, r3, s⟩ : In) r) lA sA (.tuple #[])) := by
  have hb1 := below_al (Below.refl W.heap.size W) (.cells #[.int .i64 5, .int .i64 ia, .int .i64 ib, .int .i64 it, .slice kA kn kc, .slice tA tn tc, .string r1, .string r2, .string r3, .string s] 29)
  have R := World.alloc_heap_new W (.cells #[.int .i64 5, .int .i64 ia, .int .i64 ib, .int .i64 it, .slice kA kn kc, .slice tA tn tc, .string r1, .string r2, .string r3, .string s] 29)
  have HQ := Lib.hid ((Hq.refl H).up hb1)
  have hz := lt_heapV H.box
  have hz1 : W.heap.size < (W.alloc (.cells #[.int .i64 5, .int .i64 ia, .int .i64 ib, .int .i64 it, .slice kA kn kc, .slice tA tn tc, .string r1, .string r2, .string r3, .string s] 29)).heap.size := by simp
  clear H
  go_enter Try.func26, Try.ntmps26
  go_upto_region 1 with fail
  generalize W.alloc (.cells #[.int .i64 5, .int .i64 ia, .int .i64 ib, .int .i64 it, .slice kA kn kc, .slice tA tn tc, .string r1, .string r2, .string r3, .string s] 29) = W1 at R HQ hz1 ⊢
  obtain ⟨q0, q1, q2, q3, q4, q5, q6, q7, q8, q9⟩ := ten_cells R
  have HR := Lib.hid R
  clear hb1
  have HS := Lib.hid (show plainR (⟨5, ia, ib, it, kA, kn, kc, ks, tA, tn, tc, ts, r1, r2, r3, s⟩ : In) r = putS (locRV ia r).1 (locRV ia r).2 (locRS ia 2 r) from rfl)
  obtain ⟨⟨vk, vn⟩, hv⟩ : ∃ x, locRV ia r = x := ⟨_, rfl⟩
  have HL := Lib.hid (fun (W2 : World) (H : Hq w0 W b h r lA sA W2 r) => hloc_q (⟨5, ia, ib, it, kA, kn, kc, ks, tA, tn, tc, ts, r1, r2, r3, s⟩ : In) 2 H hll)
  dsimp only at HL
  rw [hv] at HL HS
  clear hv
  dsimp only at HL HS
  have hl1 : (locRS ia 2 r).ss.length ≤ 900000 := by rw [locRS_ss]; exact hl
  have HKK := Lib.hid (fun (w : World) => kinds_any 1 w (by decide))
  have hxb : W.heap.size ≠ b := by omega
  have KS := Lib.hid (show (fun (w' : World) => w'.cell? ⟨W.heap.size, 0, none⟩ = some (.int .i64 5) ∧ w'.cell? ⟨W.heap.size, 1, none⟩ = some (.int .i64 ia) ∧ w'.cell? ⟨W.heap.size, 2, none⟩ = some (.int .i64 ib) ∧ w'.cell? ⟨W.heap.size, 3, none⟩ = some (.int .i64 it) ∧ w'.cell? ⟨W.heap.size, 4, none⟩ = some (.slice kA kn kc) ∧ w'.cell? ⟨W.heap.size, 5, none⟩ = some (.slice tA tn tc) ∧ w'.cell? ⟨W.heap.size, 6, none⟩ = some (.string r1) ∧ w'.cell? ⟨W.heap.size, 7, none⟩ = some (.string r2) ∧ w'.cell? ⟨W.heap.size, 8, none⟩ = some (.string r3) ∧ w'.cell? ⟨W.heap.size, 9, none⟩ = some (.string s)) W1.drew from ⟨q0, q1, q2, q3, q4, q5, q6, q7, q8, q9⟩)
  go_upto_region 10 with fail
  refine regN_start (N := 8) (S := (fun (w' : World) => w'.cell? ⟨W.heap.size, 0, none⟩ = some (.int .i64 5) ∧ w'.cell? ⟨W.heap.size, 1, none⟩ = some (.int .i64 ia) ∧ w'.cell? ⟨W.heap.size, 2, none⟩ = some (.int .i64 ib) ∧ w'.cell? ⟨W.heap.size, 3, none⟩ = some (.int .i64 it) ∧ w'.cell? ⟨W.heap.size, 4, none⟩ = some (.slice kA kn kc) ∧ w'.cell? ⟨W.heap.size, 5, none⟩ = some (.slice tA tn tc) ∧ w'.cell? ⟨W.heap.size, 6, none⟩ = some (.string r1) ∧ w'.cell? ⟨W.heap.size, 7, none⟩ = some (.string r2) ∧ w'.cell? ⟨W.heap.size, 8, none⟩ = some (.string r3) ∧ w'.cell? ⟨W.heap.size, 9, none⟩ = some (.string s))) (by kernel_rfl) ?_
  change wpAnyN _ _ _ _ _ _ _ #[false, false, false, false, false, false, false, false, false] _ (World.drew _)
  have hS0 := KS.out
  refine regN_take (i := 0) (d := (some 56)) (v := ?v10x1) (l2 := #[true, false, false, false, false, false, false, false, false]) rfl rfl rfl (by kernel_rfl) (by kernel_rfl) (by kernel_rfl) (by kernel_rfl) (fun _ _ _ h => h) (by rfl) ?hv10x1 hS0 ?h10x1
  case hv10x1 => intro u hSu; clear hSu; go_simp; (try with_reducible rfl)
  (try simp only [Act.put, List.setIfInBounds_toArray, List.set_cons_zero, List.set_cons_succ])
  refine regN_takeC [7] (i := 1) (d := (some 57)) (v := ?v10x2) (l2 := #[true, true, false, false, false, false, false, false, false]) rfl rfl rfl (by kernel_rfl) (by kernel_rfl) (by kernel_rfl) (by kernel_rfl) (fun _ _ _ h => h) (by rfl) ?hv10x2 hS0 ?h10x2
  case hv10x2 => intro u hSu; clear hSu; go_simp; (try with_reducible rfl)
  (try simp only [Act.put, List.setIfInBounds_toArray, List.set_cons_zero, List.set_cons_succ])
  refine regN_takeC [7] (i := 2) (d := (some 58)) (v := ?v10x3) (l2 := #[true, true, true, false, false, false, false, false, false]) rfl rfl rfl (by kernel_rfl) (by kernel_rfl) (by kernel_rfl) (by kernel_rfl) (fun _ _ _ h => h) (by rfl) ?hv10x3 hS0 ?h10x3
  case hv10x3 => intro u hSu; (try dsimp only at hSu); (try go_split_ands); go_simp; (try with_reducible rfl)
  (try simp only [Act.put, List.setIfInBounds_toArray, List.set_cons_zero, List.set_cons_succ])
  refine regN_takeC [7, 6, 5, 4] (i := 3) (d := (some 59)) (v := ?v10x4) (l2 := #[true, true, true, true, false, false, false, false, false]) rfl rfl rfl (by kernel_rfl) (by kernel_rfl) (by kernel_rfl) (by kernel_rfl) (fun _ _ _ h => h) (by rfl) ?hv10x4 hS0 ?h10x4
  case hv10x4 => intro u hSu; clear hSu; go_simp; (try with_reducible rfl)
  (try simp only [Act.put, List.setIfInBounds_toArray, List.set_cons_zero, List.set_cons_succ])
  refine regN_takeC [7, 6, 5] (i := 4) (d := (some 60)) (v := ?v10x5) (l2 := #[true, true, true, true, true, false, false, false, false]) rfl rfl rfl (by kernel_rfl) (by kernel_rfl) (by kernel_rfl) (by kernel_rfl) (fun _ _ _ h => h) (by rfl) ?hv10x5 hS0 ?h10x5
  case hv10x5 => intro u hSu; (try dsimp only at hSu); (try go_split_ands); go_simp; (try with_reducible rfl)
  (try simp only [Act.put, List.setIfInBounds_toArray, List.set_cons_zero, List.set_cons_succ])
  refine regN_takeC [7, 6] (i := 5) (d := (some 61)) (v := ?v10x6) (l2 := #[true, true, true, true, true, true, false, false, false]) rfl rfl rfl (by kernel_rfl) (by kernel_rfl) (by kernel_rfl) (by kernel_rfl) (fun _ _ _ h => h) (by rfl) ?hv10x6 hS0 ?h10x6
  case hv10x6 => intro u hSu; clear hSu; go_simp; (try with_reducible rfl)
  (try simp only [Act.put, List.setIfInBounds_toArray, List.set_cons_zero, List.set_cons_succ])
  refine regN_ready (rs := [6]) (by kernel_rfl) (by simp) ?_
  refine (AllN.cons (i := 6) (l2 := #[true, true, true, true, true, true, true, false, false]) rfl rfl (fun K hK => ?_) AllN.nil)
  go_simp
  go_at_call 44
  refine (HKK.out _).mono ?_
  rintro e w2 ⟨rfl, hb2⟩
  have hx2 := (hb2.block W.heap.size hz1).trans HR.out
  have hz2 : W.heap.size < w2.heap.size := Nat.lt_of_lt_of_le hz1 hb2.size
  have HQ2 := Lib.hid (HQ.out.up ((Below.refl W1.heap.size W1).drew.trans hb2))
  have HX2 := Lib.hid hx2
  have ky2 := ten_cells hx2
  clear hb2 hx2
  go_simp
  have hS1 : ((fun (w' : World) => w'.cell? ⟨W.heap.size, 0, none⟩ = some (.int .i64 5) ∧ w'.cell? ⟨W.heap.size, 1, none⟩ = some (.int .i64 ia) ∧ w'.cell? ⟨W.heap.size, 2, none⟩ = some (.int .i64 ib) ∧ w'.cell? ⟨W.heap.size, 3, none⟩ = some (.int .i64 it) ∧ w'.cell? ⟨W.heap.size, 4, none⟩ = some (.slice kA kn kc) ∧ w'.cell? ⟨W.heap.size, 5, none⟩ = some (.slice tA tn tc) ∧ w'.cell? ⟨W.heap.size, 6, none⟩ = some (.string r1) ∧ w'.cell? ⟨W.heap.size, 7, none⟩ = some (.string r2) ∧ w'.cell? ⟨W.heap.size, 8, none⟩ = some (.string r3) ∧ w'.cell? ⟨W.heap.size, 9, none⟩ = some (.string s)) : World → Prop) _ := (by show (fun (w' : World) => w'.cell? ⟨W.heap.size, 0, none⟩ = some (.int .i64 5) ∧ w'.cell? ⟨W.heap.size, 1, none⟩ = some (.int .i64 ia) ∧ w'.cell? ⟨W.heap.size, 2, none⟩ = some (.int .i64 ib) ∧ w'.cell? ⟨W.heap.size, 3, none⟩ = some (.int .i64 it) ∧ w'.cell? ⟨W.heap.size, 4, none⟩ = some (.slice kA kn kc) ∧ w'.cell? ⟨W.heap.size, 5, none⟩ = some (.slice tA tn tc) ∧ w'.cell? ⟨W.heap.size, 6, none⟩ = some (.string r1) ∧ w'.cell? ⟨W.heap.size, 7, none⟩ = some (.string r2) ∧ w'.cell? ⟨W.heap.size, 8, none⟩ = some (.string r3) ∧ w'.cell? ⟨W.heap.size, 9, none⟩ = some (.string s)) _; exact ky2)
  refine hK _ _ (fun _ => hS1) ?_
  clear hK K
  (try simp only [Act.put, List.setIfInBounds_toArray, List.set_cons_zero, List.set_cons_succ])
  refine regN_ready (rs := [7]) (by kernel_rfl) (by simp) ?_
  refine (AllN.cons (i := 7) (l2 := #[true, true, true, true, true, true, true, true, false]) rfl rfl (fun K hK => ?_) AllN.nil)
  go_simp
  go_at_call 43
  refine (HL.out _ HQ2.out).mono ?_
  rintro e w3 ⟨rfl, hq3, hk3⟩
  have hx3 := (hk3.block W.heap.size hz2 hxb).trans HX2.out
  have ky3 := ten_cells hx3
  go_simp
  have hS2 : ((fun (w' : World) => w'.cell? ⟨W.heap.size, 0, none⟩ = some (.int .i64 5) ∧ w'.cell? ⟨W.heap.size, 1, none⟩ = some (.int .i64 ia) ∧ w'.cell? ⟨W.heap.size, 2, none⟩ = some (.int .i64 ib) ∧ w'.cell? ⟨W.heap.size, 3, none⟩ = some (.int .i64 it) ∧ w'.cell? ⟨W.heap.size, 4, none⟩ = some (.slice kA kn kc) ∧ w'.cell? ⟨W.heap.size, 5, none⟩ = some (.slice tA tn tc) ∧ w'.cell? ⟨W.heap.size, 6, none⟩ = some (.string r1) ∧ w'.cell? ⟨W.heap.size, 7, none⟩ = some (.string r2) ∧ w'.cell? ⟨W.heap.size, 8, none⟩ = some (.string r3) ∧ w'.cell? ⟨W.heap.size, 9, none⟩ = some (.string s)) : World → Prop) _ := (by show (fun (w' : World) => w'.cell? ⟨W.heap.size, 0, none⟩ = some (.int .i64 5) ∧ w'.cell? ⟨W.heap.size, 1, none⟩ = some (.int .i64 ia) ∧ w'.cell? ⟨W.heap.size, 2, none⟩ = some (.int .i64 ib) ∧ w'.cell? ⟨W.heap.size, 3, none⟩ = some (.int .i64 it) ∧ w'.cell? ⟨W.heap.size, 4, none⟩ = some (.slice kA kn kc) ∧ w'.cell? ⟨W.heap.size, 5, none⟩ = some (.slice tA tn tc) ∧ w'.cell? ⟨W.heap.size, 6, none⟩ = some (.string r1) ∧ w'.cell? ⟨W.heap.size, 7, none⟩ = some (.string r2) ∧ w'.cell? ⟨W.heap.size, 8, none⟩ = some (.string r3) ∧ w'.cell? ⟨W.heap.size, 9, none⟩ = some (.string s)) _; exact ky3)
  refine hK _ _ (fun _ => hS2) ?_
  clear hK K
  (try simp only [Act.put, List.setIfInBounds_toArray, List.set_cons_zero, List.set_cons_succ])
  refine regN_ready (rs := [8]) (by kernel_rfl) (by simp) ?_
  refine (AllN.cons (i := 8) (l2 := #[true, true, true, true, true, true, true, true, true]) rfl rfl (fun K hK => ?_) AllN.nil)
  go_simp
  go_at_call 42
  refine (back_q hq3 vk vn (by omega)).mono ?_
  rintro e w4 ⟨rfl, hq4, hk4⟩
  go_simp
  refine hK _ _ (fun h => absurd rfl h) ?_
  clear hK K
  (try simp only [Act.put, List.setIfInBounds_toArray, List.set_cons_zero, List.set_cons_succ])
  refine regN_done (by kernel_rfl) ?_ _
  go_wp2
  go_end0
  rw [HS.out]
  exact hq4.ex
set_option maxRecDepth 100000 in
set_option maxHeartbeats 1000000 in
theorem plain_6 {w0 W : World} {b : Nat} {h : Hd8} {r : Rs} {lA : Option Addr} {lc : Nat} {sA : Option Addr} {sc : Nat} {ia ib it : Int} {kA : Option Addr} {kn kc : Nat} {ks : List Int} {tA : Option Addr} {tn tc : Nat} {ts : List Int} {r1 r2 r3 s : ByteArray} (H : HdSt w0 W b h r lA lc sA sc) (hl : r.ss.length ≤ 900000) (hll : r.ls.length ≤ 1000000) :
    Calls Try.prog 26 #[.pointer (some ⟨b, 0, none⟩), .agg #[.int .i64 6, .int .i64 ia, .int .i64 ib, .int .i64 it, .slice kA kn kc, .slice tA tn tc, .string r1, .string r2, .string r3, .string s]] W (HdEx w0 W b h r (plainR (⟨6, ia, ib, it, kA, kn, kc, ks, tA, tn, tc, ts, r1, r2, r3, s⟩ : In) r) lA sA (.tuple #[])) := by
  have hb1 := below_al (Below.refl W.heap.size W) (.cells #[.int .i64 6, .int .i64 ia, .int .i64 ib, .int .i64 it, .slice kA kn kc, .slice tA tn tc, .string r1, .string r2, .string r3, .string s] 29)
  have R := World.alloc_heap_new W (.cells #[.int .i64 6, .int .i64 ia, .int .i64 ib, .int .i64 it, .slice kA kn kc, .slice tA tn tc, .string r1, .string r2, .string r3, .string s] 29)
  have HQ := Lib.hid ((Hq.refl H).up hb1)
  have hz := lt_heapV H.box
  have hz1 : W.heap.size < (W.alloc (.cells #[.int .i64 6, .int .i64 ia, .int .i64 ib, .int .i64 it, .slice kA kn kc, .slice tA tn tc, .string r1, .string r2, .string r3, .string s] 29)).heap.size := by simp
  clear H
  go_enter Try.func26, Try.ntmps26
  go_upto_region 1 with fail
  generalize W.alloc (.cells #[.int .i64 6, .int .i64 ia, .int .i64 ib, .int .i64 it, .slice kA kn kc, .slice tA tn tc, .string r1, .string r2, .string r3, .string s] 29) = W1 at R HQ hz1 ⊢
  obtain ⟨q0, q1, q2, q3, q4, q5, q6, q7, q8, q9⟩ := ten_cells R
  have HR := Lib.hid R
  clear hb1
  have HS := Lib.hid (show plainR (⟨6, ia, ib, it, kA, kn, kc, ks, tA, tn, tc, ts, r1, r2, r3, s⟩ : In) r = putS (locRV ia r).1 (locRV ia r).2 (locRS ia 3 r) from rfl)
  obtain ⟨⟨vk, vn⟩, hv⟩ : ∃ x, locRV ia r = x := ⟨_, rfl⟩
  have HL := Lib.hid (fun (W2 : World) (H : Hq w0 W b h r lA sA W2 r) => hloc_q (⟨6, ia, ib, it, kA, kn, kc, ks, tA, tn, tc, ts, r1, r2, r3, s⟩ : In) 3 H hll)
  dsimp only at HL
  rw [hv] at HL HS
  clear hv
  dsimp only at HL HS
  have hl1 : (locRS ia 3 r).ss.length ≤ 900000 := by rw [locRS_ss]; exact hl
  have HKK := Lib.hid (fun (w : World) => kinds_any 2 w (by decide))
  have hxb : W.heap.size ≠ b := by omega
  have KS := Lib.hid (show (fun (w' : World) => w'.cell? ⟨W.heap.size, 0, none⟩ = some (.int .i64 6) ∧ w'.cell? ⟨W.heap.size, 1, none⟩ = some (.int .i64 ia) ∧ w'.cell? ⟨W.heap.size, 2, none⟩ = some (.int .i64 ib) ∧ w'.cell? ⟨W.heap.size, 3, none⟩ = some (.int .i64 it) ∧ w'.cell? ⟨W.heap.size, 4, none⟩ = some (.slice kA kn kc) ∧ w'.cell? ⟨W.heap.size, 5, none⟩ = some (.slice tA tn tc) ∧ w'.cell? ⟨W.heap.size, 6, none⟩ = some (.string r1) ∧ w'.cell? ⟨W.heap.size, 7, none⟩ = some (.string r2) ∧ w'.cell? ⟨W.heap.size, 8, none⟩ = some (.string r3) ∧ w'.cell? ⟨W.heap.size, 9, none⟩ = some (.string s)) W1.drew from ⟨q0, q1, q2, q3, q4, q5, q6, q7, q8, q9⟩)
  go_upto_region 10 with fail
  refine regN_start (N := 8) (S := (fun (w' : World) => w'.cell? ⟨W.heap.size, 0, none⟩ = some (.int .i64 6) ∧ w'.cell? ⟨W.heap.size, 1, none⟩ = some (.int .i64 ia) ∧ w'.cell? ⟨W.heap.size, 2, none⟩ = some (.int .i64 ib) ∧ w'.cell? ⟨W.heap.size, 3, none⟩ = some (.int .i64 it) ∧ w'.cell? ⟨W.heap.size, 4, none⟩ = some (.slice kA kn kc) ∧ w'.cell? ⟨W.heap.size, 5, none⟩ = some (.slice tA tn tc) ∧ w'.cell? ⟨W.heap.size, 6, none⟩ = some (.string r1) ∧ w'.cell? ⟨W.heap.size, 7, none⟩ = some (.string r2) ∧ w'.cell? ⟨W.heap.size, 8, none⟩ = some (.string r3) ∧ w'.cell? ⟨W.heap.size, 9, none⟩ = some (.string s))) (by kernel_rfl) ?_
  change wpAnyN _ _ _ _ _ _ _ #[false, false, false, false, false, false, false, false, false] _ (World.drew _)
  have hS0 := KS.out
  refine regN_take (i := 0) (d := (some 56)) (v := ?v10x1) (l2 := #[true, false, false, false, false, false, false, false, false]) rfl rfl rfl (by kernel_rfl) (by kernel_rfl) (by kernel_rfl) (by kernel_rfl) (fun _ _ _ h => h) (by rfl) ?hv10x1 hS0 ?h10x1
  case hv10x1 => intro u hSu; clear hSu; go_simp; (try with_reducible rfl)
  (try simp only [Act.put, List.setIfInBounds_toArray, List.set_cons_zero, List.set_cons_succ])
  refine regN_takeC [7] (i := 1) (d := (some 57)) (v := ?v10x2) (l2 := #[true, true, false, false, false, false, false, false, false]) rfl rfl rfl (by kernel_rfl) (by kernel_rfl) (by kernel_rfl) (by kernel_rfl) (fun _ _ _ h => h) (by rfl) ?hv10x2 hS0 ?h10x2
  case hv10x2 => intro u hSu; clear hSu; go_simp; (try with_reducible rfl)
  (try simp only [Act.put, List.setIfInBounds_toArray, List.set_cons_zero, List.set_cons_succ])
  refine regN_takeC [7] (i := 2) (d := (some 58)) (v := ?v10x3) (l2 := #[true, true, true, false, false, false, false, false, false]) rfl rfl rfl (by kernel_rfl) (by kernel_rfl) (by kernel_rfl) (by kernel_rfl) (fun _ _ _ h => h) (by rfl) ?hv10x3 hS0 ?h10x3
  case hv10x3 => intro u hSu; (try dsimp only at hSu); (try go_split_ands); go_simp; (try with_reducible rfl)
  (try simp only [Act.put, List.setIfInBounds_toArray, List.set_cons_zero, List.set_cons_succ])
  refine regN_takeC [7, 6, 5, 4] (i := 3) (d := (some 59)) (v := ?v10x4) (l2 := #[true, true, true, true, false, false, false, false, false]) rfl rfl rfl (by kernel_rfl) (by kernel_rfl) (by kernel_rfl) (by kernel_rfl) (fun _ _ _ h => h) (by rfl) ?hv10x4 hS0 ?h10x4
  case hv10x4 => intro u hSu; clear hSu; go_simp; (try with_reducible rfl)
  (try simp only [Act.put, List.setIfInBounds_toArray, List.set_cons_zero, List.set_cons_succ])
  refine regN_takeC [7, 6, 5] (i := 4) (d := (some 60)) (v := ?v10x5) (l2 := #[true, true, true, true, true, false, false, false, false]) rfl rfl rfl (by kernel_rfl) (by kernel_rfl) (by kernel_rfl) (by kernel_rfl) (fun _ _ _ h => h) (by rfl) ?hv10x5 hS0 ?h10x5
  case hv10x5 => intro u hSu; (try dsimp only at hSu); (try go_split_ands); go_simp; (try with_reducible rfl)
  (try simp only [Act.put, List.setIfInBounds_toArray, List.set_cons_zero, List.set_cons_succ])
  refine regN_takeC [7, 6] (i := 5) (d := (some 61)) (v := ?v10x6) (l2 := #[true, true, true, true, true, true, false, false, false]) rfl rfl rfl (by kernel_rfl) (by kernel_rfl) (by kernel_rfl) (by kernel_rfl) (fun _ _ _ h => h) (by rfl) ?hv10x6 hS0 ?h10x6
  case hv10x6 => intro u hSu; clear hSu; go_simp; (try with_reducible rfl)
  (try simp only [Act.put, List.setIfInBounds_toArray, List.set_cons_zero, List.set_cons_succ])
  refine regN_ready (rs := [6]) (by kernel_rfl) (by simp) ?_
  refine (AllN.cons (i := 6) (l2 := #[true, true, true, true, true, true, true, false, false]) rfl rfl (fun K hK => ?_) AllN.nil)
  go_simp
  go_at_call 44
  refine (HKK.out _).mono ?_
  rintro e w2 ⟨rfl, hb2⟩
  have hx2 := (hb2.block W.heap.size hz1).trans HR.out
  have hz2 : W.heap.size < w2.heap.size := Nat.lt_of_lt_of_le hz1 hb2.size
  have HQ2 := Lib.hid (HQ.out.up ((Below.refl W1.heap.size W1).drew.trans hb2))
  have HX2 := Lib.hid hx2
  have ky2 := ten_cells hx2
  clear hb2 hx2
  go_simp
  have hS1 : ((fun (w' : World) => w'.cell? ⟨W.heap.size, 0, none⟩ = some (.int .i64 6) ∧ w'.cell? ⟨W.heap.size, 1, none⟩ = some (.int .i64 ia) ∧ w'.cell? ⟨W.heap.size, 2, none⟩ = some (.int .i64 ib) ∧ w'.cell? ⟨W.heap.size, 3, none⟩ = some (.int .i64 it) ∧ w'.cell? ⟨W.heap.size, 4, none⟩ = some (.slice kA kn kc) ∧ w'.cell? ⟨W.heap.size, 5, none⟩ = some (.slice tA tn tc) ∧ w'.cell? ⟨W.heap.size, 6, none⟩ = some (.string r1) ∧ w'.cell? ⟨W.heap.size, 7, none⟩ = some (.string r2) ∧ w'.cell? ⟨W.heap.size, 8, none⟩ = some (.string r3) ∧ w'.cell? ⟨W.heap.size, 9, none⟩ = some (.string s)) : World → Prop) _ := (by show (fun (w' : World) => w'.cell? ⟨W.heap.size, 0, none⟩ = some (.int .i64 6) ∧ w'.cell? ⟨W.heap.size, 1, none⟩ = some (.int .i64 ia) ∧ w'.cell? ⟨W.heap.size, 2, none⟩ = some (.int .i64 ib) ∧ w'.cell? ⟨W.heap.size, 3, none⟩ = some (.int .i64 it) ∧ w'.cell? ⟨W.heap.size, 4, none⟩ = some (.slice kA kn kc) ∧ w'.cell? ⟨W.heap.size, 5, none⟩ = some (.slice tA tn tc) ∧ w'.cell? ⟨W.heap.size, 6, none⟩ = some (.string r1) ∧ w'.cell? ⟨W.heap.size, 7, none⟩ = some (.string r2) ∧ w'.cell? ⟨W.heap.size, 8, none⟩ = some (.string r3) ∧ w'.cell? ⟨W.heap.size, 9, none⟩ = some (.string s)) _; exact ky2)
  refine hK _ _ (fun _ => hS1) ?_
  clear hK K
  (try simp only [Act.put, List.setIfInBounds_toArray, List.set_cons_zero, List.set_cons_succ])
  refine regN_ready (rs := [7]) (by kernel_rfl) (by simp) ?_
  refine (AllN.cons (i := 7) (l2 := #[true, true, true, true, true, true, true, true, false]) rfl rfl (fun K hK => ?_) AllN.nil)
  go_simp
  go_at_call 43
  refine (HL.out _ HQ2.out).mono ?_
  rintro e w3 ⟨rfl, hq3, hk3⟩
  have hx3 := (hk3.block W.heap.size hz2 hxb).trans HX2.out
  have ky3 := ten_cells hx3
  go_simp
  have hS2 : ((fun (w' : World) => w'.cell? ⟨W.heap.size, 0, none⟩ = some (.int .i64 6) ∧ w'.cell? ⟨W.heap.size, 1, none⟩ = some (.int .i64 ia) ∧ w'.cell? ⟨W.heap.size, 2, none⟩ = some (.int .i64 ib) ∧ w'.cell? ⟨W.heap.size, 3, none⟩ = some (.int .i64 it) ∧ w'.cell? ⟨W.heap.size, 4, none⟩ = some (.slice kA kn kc) ∧ w'.cell? ⟨W.heap.size, 5, none⟩ = some (.slice tA tn tc) ∧ w'.cell? ⟨W.heap.size, 6, none⟩ = some (.string r1) ∧ w'.cell? ⟨W.heap.size, 7, none⟩ = some (.string r2) ∧ w'.cell? ⟨W.heap.size, 8, none⟩ = some (.string r3) ∧ w'.cell? ⟨W.heap.size, 9, none⟩ = some (.string s)) : World → Prop) _ := (by show (fun (w' : World) => w'.cell? ⟨W.heap.size, 0, none⟩ = some (.int .i64 6) ∧ w'.cell? ⟨W.heap.size, 1, none⟩ = some (.int .i64 ia) ∧ w'.cell? ⟨W.heap.size, 2, none⟩ = some (.int .i64 ib) ∧ w'.cell? ⟨W.heap.size, 3, none⟩ = some (.int .i64 it) ∧ w'.cell? ⟨W.heap.size, 4, none⟩ = some (.slice kA kn kc) ∧ w'.cell? ⟨W.heap.size, 5, none⟩ = some (.slice tA tn tc) ∧ w'.cell? ⟨W.heap.size, 6, none⟩ = some (.string r1) ∧ w'.cell? ⟨W.heap.size, 7, none⟩ = some (.string r2) ∧ w'.cell? ⟨W.heap.size, 8, none⟩ = some (.string r3) ∧ w'.cell? ⟨W.heap.size, 9, none⟩ = some (.string s)) _; exact ky3)
  refine hK _ _ (fun _ => hS2) ?_
  clear hK K
  (try simp only [Act.put, List.setIfInBounds_toArray, List.set_cons_zero, List.set_cons_succ])
  refine regN_ready (rs := [8]) (by kernel_rfl) (by simp) ?_
  refine (AllN.cons (i := 8) (l2 := #[true, true, true, true, true, true, true, true, true]) rfl rfl (fun K hK => ?_) AllN.nil)
  go_simp
  go_at_call 42
  refine (back_q hq3 vk vn (by omega)).mono ?_
  rintro e w4 ⟨rfl, hq4, hk4⟩
  go_simp
  refine hK _ _ (fun h => absurd rfl h) ?_
  clear hK K
  (try simp only [Act.put, List.setIfInBounds_toArray, List.set_cons_zero, List.set_cons_succ])
  refine regN_done (by kernel_rfl) ?_ _
  go_wp2
  go_end0
  rw [HS.out]
  exact hq4.ex
set_option maxRecDepth 100000 in
set_option maxHeartbeats 1000000 in
theorem plain_7 {w0 W : World} {b : Nat} {h : Hd8} {r : Rs} {lA : Option Addr} {lc : Nat} {sA : Option Addr} {sc : Nat} {ia ib it : Int} {kA : Option Addr} {kn kc : Nat} {ks : List Int} {tA : Option Addr} {tn tc : Nat} {ts : List Int} {r1 r2 r3 s : ByteArray} (H : HdSt w0 W b h r lA lc sA sc) (hl : r.ss.length ≤ 900000) (hll : r.ls.length ≤ 1000000) :
    Calls Try.prog 26 #[.pointer (some ⟨b, 0, none⟩), .agg #[.int .i64 7, .int .i64 ia, .int .i64 ib, .int .i64 it, .slice kA kn kc, .slice tA tn tc, .string r1, .string r2, .string r3, .string s]] W (HdEx w0 W b h r (plainR (⟨7, ia, ib, it, kA, kn, kc, ks, tA, tn, tc, ts, r1, r2, r3, s⟩ : In) r) lA sA (.tuple #[])) := by
  have hb1 := below_al (Below.refl W.heap.size W) (.cells #[.int .i64 7, .int .i64 ia, .int .i64 ib, .int .i64 it, .slice kA kn kc, .slice tA tn tc, .string r1, .string r2, .string r3, .string s] 29)
  have R := World.alloc_heap_new W (.cells #[.int .i64 7, .int .i64 ia, .int .i64 ib, .int .i64 it, .slice kA kn kc, .slice tA tn tc, .string r1, .string r2, .string r3, .string s] 29)
  have HQ := Lib.hid ((Hq.refl H).up hb1)
  have hz := lt_heapV H.box
  have hz1 : W.heap.size < (W.alloc (.cells #[.int .i64 7, .int .i64 ia, .int .i64 ib, .int .i64 it, .slice kA kn kc, .slice tA tn tc, .string r1, .string r2, .string r3, .string s] 29)).heap.size := by simp
  clear H
  go_enter Try.func26, Try.ntmps26
  go_upto_region 1 with fail
  generalize W.alloc (.cells #[.int .i64 7, .int .i64 ia, .int .i64 ib, .int .i64 it, .slice kA kn kc, .slice tA tn tc, .string r1, .string r2, .string r3, .string s] 29) = W1 at R HQ hz1 ⊢
  obtain ⟨q0, q1, q2, q3, q4, q5, q6, q7, q8, q9⟩ := ten_cells R
  have HR := Lib.hid R
  clear hb1
  have HS := Lib.hid (show plainR (⟨7, ia, ib, it, kA, kn, kc, ks, tA, tn, tc, ts, r1, r2, r3, s⟩ : In) r = setRS ia (takeV r) (takeS 1 r) from rfl)
  obtain ⟨⟨vk, vn⟩, hv⟩ : ∃ x, takeV r = x := ⟨_, rfl⟩
  have HL := Lib.hid (fun (W2 : World) (H : Hq w0 W b h r lA sA W2 r) => take_q H 1 (by omega))
  rw [hv] at HL HS
  clear hv
  dsimp only at HL HS
  have hl1 : (takeS 1 r).ls.length ≤ 1000000 := by rw [takeS_ls]; exact hll
  have HST := Lib.hid (fun (W2 : World) (H : Hq w0 W b h r lA sA W2 (takeS 1 r)) => hset_q (⟨7, ia, ib, it, kA, kn, kc, ks, tA, tn, tc, ts, r1, r2, r3, s⟩ : In) vk vn H hl1)
  dsimp only at HST
  have HKK := Lib.hid (fun (w : World) => kinds_any 0 w (by decide))
  have hxb : W.heap.size ≠ b := by omega
  have KS := Lib.hid (show (fun (w' : World) => w'.cell? ⟨W.heap.size, 0, none⟩ = some (.int .i64 7) ∧ w'.cell? ⟨W.heap.size, 1, none⟩ = some (.int .i64 ia) ∧ w'.cell? ⟨W.heap.size, 2, none⟩ = some (.int .i64 ib) ∧ w'.cell? ⟨W.heap.size, 3, none⟩ = some (.int .i64 it) ∧ w'.cell? ⟨W.heap.size, 4, none⟩ = some (.slice kA kn kc) ∧ w'.cell? ⟨W.heap.size, 5, none⟩ = some (.slice tA tn tc) ∧ w'.cell? ⟨W.heap.size, 6, none⟩ = some (.string r1) ∧ w'.cell? ⟨W.heap.size, 7, none⟩ = some (.string r2) ∧ w'.cell? ⟨W.heap.size, 8, none⟩ = some (.string r3) ∧ w'.cell? ⟨W.heap.size, 9, none⟩ = some (.string s)) W1.drew from ⟨q0, q1, q2, q3, q4, q5, q6, q7, q8, q9⟩)
  go_upto_region 12 with fail
  refine regN_start (N := 8) (S := (fun (w' : World) => w'.cell? ⟨W.heap.size, 0, none⟩ = some (.int .i64 7) ∧ w'.cell? ⟨W.heap.size, 1, none⟩ = some (.int .i64 ia) ∧ w'.cell? ⟨W.heap.size, 2, none⟩ = some (.int .i64 ib) ∧ w'.cell? ⟨W.heap.size, 3, none⟩ = some (.int .i64 it) ∧ w'.cell? ⟨W.heap.size, 4, none⟩ = some (.slice kA kn kc) ∧ w'.cell? ⟨W.heap.size, 5, none⟩ = some (.slice tA tn tc) ∧ w'.cell? ⟨W.heap.size, 6, none⟩ = some (.string r1) ∧ w'.cell? ⟨W.heap.size, 7, none⟩ = some (.string r2) ∧ w'.cell? ⟨W.heap.size, 8, none⟩ = some (.string r3) ∧ w'.cell? ⟨W.heap.size, 9, none⟩ = some (.string s))) (by kernel_rfl) ?_
  change wpAnyN _ _ _ _ _ _ _ #[false, false, false, false, false, false, false, false, false] _ (World.drew _)
  have hS0 := KS.out
  refine regN_take (i := 0) (d := (some 74)) (v := ?v12x1) (l2 := #[true, false, false, false, false, false, false, false, false]) rfl rfl rfl (by kernel_rfl) (by kernel_rfl) (by kernel_rfl) (by kernel_rfl) (fun _ _ _ h => h) (by rfl) ?hv12x1 hS0 ?h12x1
  case hv12x1 => intro u hSu; clear hSu; go_simp; (try with_reducible rfl)
  (try simp only [Act.put, List.setIfInBounds_toArray, List.set_cons_zero, List.set_cons_succ])
  refine regN_take (i := 1) (d := (some 75)) (v := ?v12x2) (l2 := #[true, true, false, false, false, false, false, false, false]) rfl rfl rfl (by kernel_rfl) (by kernel_rfl) (by kernel_rfl) (by kernel_rfl) (fun _ _ _ h => h) (by rfl) ?hv12x2 hS0 ?h12x2
  case hv12x2 => intro u hSu; (try dsimp only at hSu); (try go_split_ands); go_simp; (try with_reducible rfl)
  (try simp only [Act.put, List.setIfInBounds_toArray, List.set_cons_zero, List.set_cons_succ])
  refine regN_takeC [7] (i := 2) (d := (some 76)) (v := ?v12x3) (l2 := #[true, true, true, false, false, false, false, false, false]) rfl rfl rfl (by kernel_rfl) (by kernel_rfl) (by kernel_rfl) (by kernel_rfl) (fun _ _ _ h => h) (by rfl) ?hv12x3 hS0 ?h12x3
  case hv12x3 => intro u hSu; clear hSu; go_simp; (try with_reducible rfl)
  (try simp only [Act.put, List.setIfInBounds_toArray, List.set_cons_zero, List.set_cons_succ])
  refine regN_takeC [7, 6, 5, 4] (i := 3) (d := (some 77)) (v := ?v12x4) (l2 := #[true, true, true, true, false, false, false, false, false]) rfl rfl rfl (by kernel_rfl) (by kernel_rfl) (by kernel_rfl) (by kernel_rfl) (fun _ _ _ h => h) (by rfl) ?hv12x4 hS0 ?h12x4
  case hv12x4 => intro u hSu; clear hSu; go_simp; (try with_reducible rfl)
  (try simp only [Act.put, List.setIfInBounds_toArray, List.set_cons_zero, List.set_cons_succ])
  refine regN_takeC [7, 6, 5] (i := 4) (d := (some 78)) (v := ?v12x5) (l2 := #[true, true, true, true, true, false, false, false, false]) rfl rfl rfl (by kernel_rfl) (by kernel_rfl) (by kernel_rfl) (by kernel_rfl) (fun _ _ _ h => h) (by rfl) ?hv12x5 hS0 ?h12x5
  case hv12x5 => intro u hSu; (try dsimp only at hSu); (try go_split_ands); go_simp; (try with_reducible rfl)
  (try simp only [Act.put, List.setIfInBounds_toArray, List.set_cons_zero, List.set_cons_succ])
  refine regN_takeC [7, 6] (i := 5) (d := (some 79)) (v := ?v12x6) (l2 := #[true, true, true, true, true, true, false, false, false]) rfl rfl rfl (by kernel_rfl) (by kernel_rfl) (by kernel_rfl) (by kernel_rfl) (fun _ _ _ h => h) (by rfl) ?hv12x6 hS0 ?h12x6
  case hv12x6 => intro u hSu; clear hSu; go_simp; (try with_reducible rfl)
  (try simp only [Act.put, List.setIfInBounds_toArray, List.set_cons_zero, List.set_cons_succ])
  refine regN_ready (rs := [6]) (by kernel_rfl) (by simp) ?_
  refine (AllN.cons (i := 6) (l2 := #[true, true, true, true, true, true, true, false, false]) rfl rfl (fun K hK => ?_) AllN.nil)
  go_simp
  go_at_call 44
  refine (HKK.out _).mono ?_
  rintro e w2 ⟨rfl, hb2⟩
  have hx2 := (hb2.block W.heap.size hz1).trans HR.out
  have hz2 : W.heap.size < w2.heap.size := Nat.lt_of_lt_of_le hz1 hb2.size
  have HQ2 := Lib.hid (HQ.out.up ((Below.refl W1.heap.size W1).drew.trans hb2))
  have HX2 := Lib.hid hx2
  have ky2 := ten_cells hx2
  clear hb2 hx2
  go_simp
  have hS1 : ((fun (w' : World) => w'.cell? ⟨W.heap.size, 0, none⟩ = some (.int .i64 7) ∧ w'.cell? ⟨W.heap.size, 1, none⟩ = some (.int .i64 ia) ∧ w'.cell? ⟨W.heap.size, 2, none⟩ = some (.int .i64 ib) ∧ w'.cell? ⟨W.heap.size, 3, none⟩ = some (.int .i64 it) ∧ w'.cell? ⟨W.heap.size, 4, none⟩ = some (.slice kA kn kc) ∧ w'.cell? ⟨W.heap.size, 5, none⟩ = some (.slice tA tn tc) ∧ w'.cell? ⟨W.heap.size, 6, none⟩ = some (.string r1) ∧ w'.cell? ⟨W.heap.size, 7, none⟩ = some (.string r2) ∧ w'.cell? ⟨W.heap.size, 8, none⟩ = some (.string r3) ∧ w'.cell? ⟨W.heap.size, 9, none⟩ = some (.string s)) : World → Prop) _ := (by show (fun (w' : World) => w'.cell? ⟨W.heap.size, 0, none⟩ = some (.int .i64 7) ∧ w'.cell? ⟨W.heap.size, 1, none⟩ = some (.int .i64 ia) ∧ w'.cell? ⟨W.heap.size, 2, none⟩ = some (.int .i64 ib) ∧ w'.cell? ⟨W.heap.size, 3, none⟩ = some (.int .i64 it) ∧ w'.cell? ⟨W.heap.size, 4, none⟩ = some (.slice kA kn kc) ∧ w'.cell? ⟨W.heap.size, 5, none⟩ = some (.slice tA tn tc) ∧ w'.cell? ⟨W.heap.size, 6, none⟩ = some (.string r1) ∧ w'.cell? ⟨W.heap.size, 7, none⟩ = some (.string r2) ∧ w'.cell? ⟨W.heap.size, 8, none⟩ = some (.string r3) ∧ w'.cell? ⟨W.heap.size, 9, none⟩ = some (.string s)) _; exact ky2)
  refine hK _ _ (fun _ => hS1) ?_
  clear hK K
  (try simp only [Act.put, List.setIfInBounds_toArray, List.set_cons_zero, List.set_cons_succ])
  refine regN_ready (rs := [7]) (by kernel_rfl) (by simp) ?_
  refine (AllN.cons (i := 7) (l2 := #[true, true, true, true, true, true, true, true, false]) rfl rfl (fun K hK => ?_) AllN.nil)
  go_simp
  go_at_call 37
  refine (HL.out _ HQ2.out).mono ?_
  rintro e w3 ⟨rfl, hq3, hk3⟩
  have hx3 := (hk3.block W.heap.size hz2 hxb).trans HX2.out
  have ky3 := ten_cells hx3
  go_simp
  have hS2 : ((fun (w' : World) => w'.cell? ⟨W.heap.size, 0, none⟩ = some (.int .i64 7) ∧ w'.cell? ⟨W.heap.size, 1, none⟩ = some (.int .i64 ia) ∧ w'.cell? ⟨W.heap.size, 2, none⟩ = some (.int .i64 ib) ∧ w'.cell? ⟨W.heap.size, 3, none⟩ = some (.int .i64 it) ∧ w'.cell? ⟨W.heap.size, 4, none⟩ = some (.slice kA kn kc) ∧ w'.cell? ⟨W.heap.size, 5, none⟩ = some (.slice tA tn tc) ∧ w'.cell? ⟨W.heap.size, 6, none⟩ = some (.string r1) ∧ w'.cell? ⟨W.heap.size, 7, none⟩ = some (.string r2) ∧ w'.cell? ⟨W.heap.size, 8, none⟩ = some (.string r3) ∧ w'.cell? ⟨W.heap.size, 9, none⟩ = some (.string s)) : World → Prop) _ := (by show (fun (w' : World) => w'.cell? ⟨W.heap.size, 0, none⟩ = some (.int .i64 7) ∧ w'.cell? ⟨W.heap.size, 1, none⟩ = some (.int .i64 ia) ∧ w'.cell? ⟨W.heap.size, 2, none⟩ = some (.int .i64 ib) ∧ w'.cell? ⟨W.heap.size, 3, none⟩ = some (.int .i64 it) ∧ w'.cell? ⟨W.heap.size, 4, none⟩ = some (.slice kA kn kc) ∧ w'.cell? ⟨W.heap.size, 5, none⟩ = some (.slice tA tn tc) ∧ w'.cell? ⟨W.heap.size, 6, none⟩ = some (.string r1) ∧ w'.cell? ⟨W.heap.size, 7, none⟩ = some (.string r2) ∧ w'.cell? ⟨W.heap.size, 8, none⟩ = some (.string r3) ∧ w'.cell? ⟨W.heap.size, 9, none⟩ = some (.string s)) _; exact ky3)
  refine hK _ _ (fun _ => hS2) ?_
  clear hK K
  (try simp only [Act.put, List.setIfInBounds_toArray, List.set_cons_zero, List.set_cons_succ])
  refine regN_ready (rs := [8]) (by kernel_rfl) (by simp) ?_
  refine (AllN.cons (i := 8) (l2 := #[true, true, true, true, true, true, true, true, true]) rfl rfl (fun K hK => ?_) AllN.nil)
  go_simp
  go_at_call 45
  refine (HST.out _ hq3).mono ?_
  rintro e w4 ⟨rfl, hq4, hk4⟩
  go_simp
  refine hK _ _ (fun h => absurd rfl h) ?_
  clear hK K
  (try simp only [Act.put, List.setIfInBounds_toArray, List.set_cons_zero, List.set_cons_succ])
  refine regN_done (by kernel_rfl) ?_ _
  go_wp2
  go_end0
  rw [HS.out]
  exact hq4.ex
set_option maxRecDepth 100000 in
set_option maxHeartbeats 1000000 in
theorem plain_8 {w0 W : World} {b : Nat} {h : Hd8} {r : Rs} {lA : Option Addr} {lc : Nat} {sA : Option Addr} {sc : Nat} {ia ib it : Int} {kA : Option Addr} {kn kc : Nat} {ks : List Int} {tA : Option Addr} {tn tc : Nat} {ts : List Int} {r1 r2 r3 s : ByteArray} (H : HdSt w0 W b h r lA lc sA sc) (hl : r.ss.length ≤ 900000) (hll : r.ls.length ≤ 1000000) :
    Calls Try.prog 26 #[.pointer (some ⟨b, 0, none⟩), .agg #[.int .i64 8, .int .i64 ia, .int .i64 ib, .int .i64 it, .slice kA kn kc, .slice tA tn tc, .string r1, .string r2, .string r3, .string s]] W (HdEx w0 W b h r (plainR (⟨8, ia, ib, it, kA, kn, kc, ks, tA, tn, tc, ts, r1, r2, r3, s⟩ : In) r) lA sA (.tuple #[])) := by
  have hb1 := below_al (Below.refl W.heap.size W) (.cells #[.int .i64 8, .int .i64 ia, .int .i64 ib, .int .i64 it, .slice kA kn kc, .slice tA tn tc, .string r1, .string r2, .string r3, .string s] 29)
  have R := World.alloc_heap_new W (.cells #[.int .i64 8, .int .i64 ia, .int .i64 ib, .int .i64 it, .slice kA kn kc, .slice tA tn tc, .string r1, .string r2, .string r3, .string s] 29)
  have HQ := Lib.hid ((Hq.refl H).up hb1)
  have hz := lt_heapV H.box
  have hz1 : W.heap.size < (W.alloc (.cells #[.int .i64 8, .int .i64 ia, .int .i64 ib, .int .i64 it, .slice kA kn kc, .slice tA tn tc, .string r1, .string r2, .string r3, .string s] 29)).heap.size := by simp
  clear H
  go_enter Try.func26, Try.ntmps26
  go_upto_region 1 with fail
  generalize W.alloc (.cells #[.int .i64 8, .int .i64 ia, .int .i64 ib, .int .i64 it, .slice kA kn kc, .slice tA tn tc, .string r1, .string r2, .string r3, .string s] 29) = W1 at R HQ hz1 ⊢
  obtain ⟨q0, q1, q2, q3, q4, q5, q6, q7, q8, q9⟩ := ten_cells R
  have HR := Lib.hid R
  clear hb1
  have HS := Lib.hid (show plainR (⟨8, ia, ib, it, kA, kn, kc, ks, tA, tn, tc, ts, r1, r2, r3, s⟩ : In) r = setRS ia (takeV r) (takeS 2 r) from rfl)
  obtain ⟨⟨vk, vn⟩, hv⟩ : ∃ x, takeV r = x := ⟨_, rfl⟩
  have HL := Lib.hid (fun (W2 : World) (H : Hq w0 W b h r lA sA W2 r) => take_q H 2 (by omega))
  rw [hv] at HL HS
  clear hv
  dsimp only at HL HS
  have hl1 : (takeS 2 r).ls.length ≤ 1000000 := by rw [takeS_ls]; exact hll
  have HST := Lib.hid (fun (W2 : World) (H : Hq w0 W b h r lA sA W2 (takeS 2 r)) => hset_q (⟨8, ia, ib, it, kA, kn, kc, ks, tA, tn, tc, ts, r1, r2, r3, s⟩ : In) vk vn H hl1)
  dsimp only at HST
  have HKK := Lib.hid (fun (w : World) => kinds_any 1 w (by decide))
  have hxb : W.heap.size ≠ b := by omega
  have KS := Lib.hid (show (fun (w' : World) => w'.cell? ⟨W.heap.size, 0, none⟩ = some (.int .i64 8) ∧ w'.cell? ⟨W.heap.size, 1, none⟩ = some (.int .i64 ia) ∧ w'.cell? ⟨W.heap.size, 2, none⟩ = some (.int .i64 ib) ∧ w'.cell? ⟨W.heap.size, 3, none⟩ = some (.int .i64 it) ∧ w'.cell? ⟨W.heap.size, 4, none⟩ = some (.slice kA kn kc) ∧ w'.cell? ⟨W.heap.size, 5, none⟩ = some (.slice tA tn tc) ∧ w'.cell? ⟨W.heap.size, 6, none⟩ = some (.string r1) ∧ w'.cell? ⟨W.heap.size, 7, none⟩ = some (.string r2) ∧ w'.cell? ⟨W.heap.size, 8, none⟩ = some (.string r3) ∧ w'.cell? ⟨W.heap.size, 9, none⟩ = some (.string s)) W1.drew from ⟨q0, q1, q2, q3, q4, q5, q6, q7, q8, q9⟩)
  go_upto_region 12 with fail
  refine regN_start (N := 8) (S := (fun (w' : World) => w'.cell? ⟨W.heap.size, 0, none⟩ = some (.int .i64 8) ∧ w'.cell? ⟨W.heap.size, 1, none⟩ = some (.int .i64 ia) ∧ w'.cell? ⟨W.heap.size, 2, none⟩ = some (.int .i64 ib) ∧ w'.cell? ⟨W.heap.size, 3, none⟩ = some (.int .i64 it) ∧ w'.cell? ⟨W.heap.size, 4, none⟩ = some (.slice kA kn kc) ∧ w'.cell? ⟨W.heap.size, 5, none⟩ = some (.slice tA tn tc) ∧ w'.cell? ⟨W.heap.size, 6, none⟩ = some (.string r1) ∧ w'.cell? ⟨W.heap.size, 7, none⟩ = some (.string r2) ∧ w'.cell? ⟨W.heap.size, 8, none⟩ = some (.string r3) ∧ w'.cell? ⟨W.heap.size, 9, none⟩ = some (.string s))) (by kernel_rfl) ?_
  change wpAnyN _ _ _ _ _ _ _ #[false, false, false, false, false, false, false, false, false] _ (World.drew _)
  have hS0 := KS.out
  refine regN_take (i := 0) (d := (some 74)) (v := ?v12x1) (l2 := #[true, false, false, false, false, false, false, false, false]) rfl rfl rfl (by kernel_rfl) (by kernel_rfl) (by kernel_rfl) (by kernel_rfl) (fun _ _ _ h => h) (by rfl) ?hv12x1 hS0 ?h12x1
  case hv12x1 => intro u hSu; clear hSu; go_simp; (try with_reducible rfl)
  (try simp only [Act.put, List.setIfInBounds_toArray, List.set_cons_zero, List.set_cons_succ])
  refine regN_take (i := 1) (d := (some 75)) (v := ?v12x2) (l2 := #[true, true, false, false, false, false, false, false, false]) rfl rfl rfl (by kernel_rfl) (by kernel_rfl) (by kernel_rfl) (by kernel_rfl) (fun _ _ _ h => h) (by rfl) ?hv12x2 hS0 ?h12x2
  case hv12x2 => intro u hSu; (try dsimp only at hSu); (try go_split_ands); go_simp; (try with_reducible rfl)
  (try simp only [Act.put, List.setIfInBounds_toArray, List.set_cons_zero, List.set_cons_succ])
  refine regN_takeC [7] (i := 2) (d := (some 76)) (v := ?v12x3) (l2 := #[true, true, true, false, false, false, false, false, false]) rfl rfl rfl (by kernel_rfl) (by kernel_rfl) (by kernel_rfl) (by kernel_rfl) (fun _ _ _ h => h) (by rfl) ?hv12x3 hS0 ?h12x3
  case hv12x3 => intro u hSu; clear hSu; go_simp; (try with_reducible rfl)
  (try simp only [Act.put, List.setIfInBounds_toArray, List.set_cons_zero, List.set_cons_succ])
  refine regN_takeC [7, 6, 5, 4] (i := 3) (d := (some 77)) (v := ?v12x4) (l2 := #[true, true, true, true, false, false, false, false, false]) rfl rfl rfl (by kernel_rfl) (by kernel_rfl) (by kernel_rfl) (by kernel_rfl) (fun _ _ _ h => h) (by rfl) ?hv12x4 hS0 ?h12x4
  case hv12x4 => intro u hSu; clear hSu; go_simp; (try with_reducible rfl)
  (try simp only [Act.put, List.setIfInBounds_toArray, List.set_cons_zero, List.set_cons_succ])
  refine regN_takeC [7, 6, 5] (i := 4) (d := (some 78)) (v := ?v12x5) (l2 := #[true, true, true, true, true, false, false, false, false]) rfl rfl rfl (by kernel_rfl) (by kernel_rfl) (by kernel_rfl) (by kernel_rfl) (fun _ _ _ h => h) (by rfl) ?hv12x5 hS0 ?h12x5
  case hv12x5 => intro u hSu; (try dsimp only at hSu); (try go_split_ands); go_simp; (try with_reducible rfl)
  (try simp only [Act.put, List.setIfInBounds_toArray, List.set_cons_zero, List.set_cons_succ])
  refine regN_takeC [7, 6] (i := 5) (d := (some 79)) (v := ?v12x6) (l2 := #[true, true, true, true, true, true, false, false, false]) rfl rfl rfl (by kernel_rfl) (by kernel_rfl) (by kernel_rfl) (by kernel_rfl) (fun _ _ _ h => h) (by rfl) ?hv12x6 hS0 ?h12x6
  case hv12x6 => intro u hSu; clear hSu; go_simp; (try with_reducible rfl)
  (try simp only [Act.put, List.setIfInBounds_toArray, List.set_cons_zero, List.set_cons_succ])
  refine regN_ready (rs := [6]) (by kernel_rfl) (by simp) ?_
  refine (AllN.cons (i := 6) (l2 := #[true, true, true, true, true, true, true, false, false]) rfl rfl (fun K hK => ?_) AllN.nil)
  go_simp
  go_at_call 44
  refine (HKK.out _).mono ?_
  rintro e w2 ⟨rfl, hb2⟩
  have hx2 := (hb2.block W.heap.size hz1).trans HR.out
  have hz2 : W.heap.size < w2.heap.size := Nat.lt_of_lt_of_le hz1 hb2.size
  have HQ2 := Lib.hid (HQ.out.up ((Below.refl W1.heap.size W1).drew.trans hb2))
  have HX2 := Lib.hid hx2
  have ky2 := ten_cells hx2
  clear hb2 hx2
  go_simp
  have hS1 : ((fun (w' : World) => w'.cell? ⟨W.heap.size, 0, none⟩ = some (.int .i64 8) ∧ w'.cell? ⟨W.heap.size, 1, none⟩ = some (.int .i64 ia) ∧ w'.cell? ⟨W.heap.size, 2, none⟩ = some (.int .i64 ib) ∧ w'.cell? ⟨W.heap.size, 3, none⟩ = some (.int .i64 it) ∧ w'.cell? ⟨W.heap.size, 4, none⟩ = some (.slice kA kn kc) ∧ w'.cell? ⟨W.heap.size, 5, none⟩ = some (.slice tA tn tc) ∧ w'.cell? ⟨W.heap.size, 6, none⟩ = some (.string r1) ∧ w'.cell? ⟨W.heap.size, 7, none⟩ = some (.string r2) ∧ w'.cell? ⟨W.heap.size, 8, none⟩ = some (.string r3) ∧ w'.cell? ⟨W.heap.size, 9, none⟩ = some (.string s)) : World → Prop) _ := (by show (fun (w' : World) => w'.cell? ⟨W.heap.size, 0, none⟩ = some (.int .i64 8) ∧ w'.cell? ⟨W.heap.size, 1, none⟩ = some (.int .i64 ia) ∧ w'.cell? ⟨W.heap.size, 2, none⟩ = some (.int .i64 ib) ∧ w'.cell? ⟨W.heap.size, 3, none⟩ = some (.int .i64 it) ∧ w'.cell? ⟨W.heap.size, 4, none⟩ = some (.slice kA kn kc) ∧ w'.cell? ⟨W.heap.size, 5, none⟩ = some (.slice tA tn tc) ∧ w'.cell? ⟨W.heap.size, 6, none⟩ = some (.string r1) ∧ w'.cell? ⟨W.heap.size, 7, none⟩ = some (.string r2) ∧ w'.cell? ⟨W.heap.size, 8, none⟩ = some (.string r3) ∧ w'.cell? ⟨W.heap.size, 9, none⟩ = some (.string s)) _; exact ky2)
  refine hK _ _ (fun _ => hS1) ?_
  clear hK K
  (try simp only [Act.put, List.setIfInBounds_toArray, List.set_cons_zero, List.set_cons_succ])
  refine regN_ready (rs := [7]) (by kernel_rfl) (by simp) ?_
  refine (AllN.cons (i := 7) (l2 := #[true, true, true, true, true, true, true, true, false]) rfl rfl (fun K hK => ?_) AllN.nil)
  go_simp
  go_at_call 37
  refine (HL.out _ HQ2.out).mono ?_
  rintro e w3 ⟨rfl, hq3, hk3⟩
  have hx3 := (hk3.block W.heap.size hz2 hxb).trans HX2.out
  have ky3 := ten_cells hx3
  go_simp
  have hS2 : ((fun (w' : World) => w'.cell? ⟨W.heap.size, 0, none⟩ = some (.int .i64 8) ∧ w'.cell? ⟨W.heap.size, 1, none⟩ = some (.int .i64 ia) ∧ w'.cell? ⟨W.heap.size, 2, none⟩ = some (.int .i64 ib) ∧ w'.cell? ⟨W.heap.size, 3, none⟩ = some (.int .i64 it) ∧ w'.cell? ⟨W.heap.size, 4, none⟩ = some (.slice kA kn kc) ∧ w'.cell? ⟨W.heap.size, 5, none⟩ = some (.slice tA tn tc) ∧ w'.cell? ⟨W.heap.size, 6, none⟩ = some (.string r1) ∧ w'.cell? ⟨W.heap.size, 7, none⟩ = some (.string r2) ∧ w'.cell? ⟨W.heap.size, 8, none⟩ = some (.string r3) ∧ w'.cell? ⟨W.heap.size, 9, none⟩ = some (.string s)) : World → Prop) _ := (by show (fun (w' : World) => w'.cell? ⟨W.heap.size, 0, none⟩ = some (.int .i64 8) ∧ w'.cell? ⟨W.heap.size, 1, none⟩ = some (.int .i64 ia) ∧ w'.cell? ⟨W.heap.size, 2, none⟩ = some (.int .i64 ib) ∧ w'.cell? ⟨W.heap.size, 3, none⟩ = some (.int .i64 it) ∧ w'.cell? ⟨W.heap.size, 4, none⟩ = some (.slice kA kn kc) ∧ w'.cell? ⟨W.heap.size, 5, none⟩ = some (.slice tA tn tc) ∧ w'.cell? ⟨W.heap.size, 6, none⟩ = some (.string r1) ∧ w'.cell? ⟨W.heap.size, 7, none⟩ = some (.string r2) ∧ w'.cell? ⟨W.heap.size, 8, none⟩ = some (.string r3) ∧ w'.cell? ⟨W.heap.size, 9, none⟩ = some (.string s)) _; exact ky3)
  refine hK _ _ (fun _ => hS2) ?_
  clear hK K
  (try simp only [Act.put, List.setIfInBounds_toArray, List.set_cons_zero, List.set_cons_succ])
  refine regN_ready (rs := [8]) (by kernel_rfl) (by simp) ?_
  refine (AllN.cons (i := 8) (l2 := #[true, true, true, true, true, true, true, true, true]) rfl rfl (fun K hK => ?_) AllN.nil)
  go_simp
  go_at_call 45
  refine (HST.out _ hq3).mono ?_
  rintro e w4 ⟨rfl, hq4, hk4⟩
  go_simp
  refine hK _ _ (fun h => absurd rfl h) ?_
  clear hK K
  (try simp only [Act.put, List.setIfInBounds_toArray, List.set_cons_zero, List.set_cons_succ])
  refine regN_done (by kernel_rfl) ?_ _
  go_wp2
  go_end0
  rw [HS.out]
  exact hq4.ex
set_option maxRecDepth 100000 in
set_option maxHeartbeats 1000000 in
theorem plain_9 {w0 W : World} {b : Nat} {h : Hd8} {r : Rs} {lA : Option Addr} {lc : Nat} {sA : Option Addr} {sc : Nat} {ia ib it : Int} {kA : Option Addr} {kn kc : Nat} {ks : List Int} {tA : Option Addr} {tn tc : Nat} {ts : List Int} {r1 r2 r3 s : ByteArray} (H : HdSt w0 W b h r lA lc sA sc) (hl : r.ss.length ≤ 900000) (hll : r.ls.length ≤ 1000000) :
    Calls Try.prog 26 #[.pointer (some ⟨b, 0, none⟩), .agg #[.int .i64 9, .int .i64 ia, .int .i64 ib, .int .i64 it, .slice kA kn kc, .slice tA tn tc, .string r1, .string r2, .string r3, .string s]] W (HdEx w0 W b h r (plainR (⟨9, ia, ib, it, kA, kn, kc, ks, tA, tn, tc, ts, r1, r2, r3, s⟩ : In) r) lA sA (.tuple #[])) := by
  have hb1 := below_al (Below.refl W.heap.size W) (.cells #[.int .i64 9, .int .i64 ia, .int .i64 ib, .int .i64 it, .slice kA kn kc, .slice tA tn tc, .string r1, .string r2, .string r3, .string s] 29)
  have R := World.alloc_heap_new W (.cells #[.int .i64 9, .int .i64 ia, .int .i64 ib, .int .i64 it, .slice kA kn kc, .slice tA tn tc, .string r1, .string r2, .string r3, .string s] 29)
  have HQ := Lib.hid ((Hq.refl H).up hb1)
  have hz := lt_heapV H.box
  have hz1 : W.heap.size < (W.alloc (.cells #[.int .i64 9, .int .i64 ia, .int .i64 ib, .int .i64 it, .slice kA kn kc, .slice tA tn tc, .string r1, .string r2, .string r3, .string s] 29)).heap.size := by simp
  clear H
  go_enter Try.func26, Try.ntmps26
  go_upto_region 1 with fail
  generalize W.alloc (.cells #[.int .i64 9, .int .i64 ia, .int .i64 ib, .int .i64 it, .slice kA kn kc, .slice tA tn tc, .string r1, .string r2, .string r3, .string s] 29) = W1 at R HQ hz1 ⊢
  obtain ⟨q0, q1, q2, q3, q4, q5, q6, q7, q8, q9⟩ := ten_cells R
  have HR := Lib.hid R
  clear hb1
  have HS := Lib.hid (show plainR (⟨9, ia, ib, it, kA, kn, kc, ks, tA, tn, tc, ts, r1, r2, r3, s⟩ : In) r = setRS ia (takeV r) (takeS 3 r) from rfl)
  obtain ⟨⟨vk, vn⟩, hv⟩ : ∃ x, takeV r = x := ⟨_, rfl⟩
  have HL := Lib.hid (fun (W2 : World) (H : Hq w0 W b h r lA sA W2 r) => take_q H 3 (by omega))
  rw [hv] at HL HS
  clear hv
  dsimp only at HL HS
  have hl1 : (takeS 3 r).ls.length ≤ 1000000 := by rw [takeS_ls]; exact hll
  have HST := Lib.hid (fun (W2 : World) (H : Hq w0 W b h r lA sA W2 (takeS 3 r)) => hset_q (⟨9, ia, ib, it, kA, kn, kc, ks, tA, tn, tc, ts, r1, r2, r3, s⟩ : In) vk vn H hl1)
  dsimp only at HST
  have HKK := Lib.hid (fun (w : World) => kinds_any 2 w (by decide))
  have hxb : W.heap.size ≠ b := by omega
  have KS := Lib.hid (show (fun (w' : World) => w'.cell? ⟨W.heap.size, 0, none⟩ = some (.int .i64 9) ∧ w'.cell? ⟨W.heap.size, 1, none⟩ = some (.int .i64 ia) ∧ w'.cell? ⟨W.heap.size, 2, none⟩ = some (.int .i64 ib) ∧ w'.cell? ⟨W.heap.size, 3, none⟩ = some (.int .i64 it) ∧ w'.cell? ⟨W.heap.size, 4, none⟩ = some (.slice kA kn kc) ∧ w'.cell? ⟨W.heap.size, 5, none⟩ = some (.slice tA tn tc) ∧ w'.cell? ⟨W.heap.size, 6, none⟩ = some (.string r1) ∧ w'.cell? ⟨W.heap.size, 7, none⟩ = some (.string r2) ∧ w'.cell? ⟨W.heap.size, 8, none⟩ = some (.string r3) ∧ w'.cell? ⟨W.heap.size, 9, none⟩ = some (.string s)) W1.drew from ⟨q0, q1, q2, q3, q4, q5, q6, q7, q8, q9⟩)
  go_upto_region 12 with fail
  refine regN_start (N := 8) (S := (fun (w' : World) => w'.cell? ⟨W.heap.size, 0, none⟩ = some (.int .i64 9) ∧ w'.cell? ⟨W.heap.size, 1, none⟩ = some (.int .i64 ia) ∧ w'.cell? ⟨W.heap.size, 2, none⟩ = some (.int .i64 ib) ∧ w'.cell? ⟨W.heap.size, 3, none⟩ = some (.int .i64 it) ∧ w'.cell? ⟨W.heap.size, 4, none⟩ = some (.slice kA kn kc) ∧ w'.cell? ⟨W.heap.size, 5, none⟩ = some (.slice tA tn tc) ∧ w'.cell? ⟨W.heap.size, 6, none⟩ = some (.string r1) ∧ w'.cell? ⟨W.heap.size, 7, none⟩ = some (.string r2) ∧ w'.cell? ⟨W.heap.size, 8, none⟩ = some (.string r3) ∧ w'.cell? ⟨W.heap.size, 9, none⟩ = some (.string s))) (by kernel_rfl) ?_
  change wpAnyN _ _ _ _ _ _ _ #[false, false, false, false, false, false, false, false, false] _ (World.drew _)
  have hS0 := KS.out
  refine regN_take (i := 0) (d := (some 74)) (v := ?v12x1) (l2 := #[true, false, false, false, false, false, false, false, false]) rfl rfl rfl (by kernel_rfl) (by kernel_rfl) (by kernel_rfl) (by kernel_rfl) (fun _ _ _ h => h) (by rfl) ?hv12x1 hS0 ?h12x1
  case hv12x1 => intro u hSu; clear hSu; go_simp; (try with_reducible rfl)
  (try simp only [Act.put, List.setIfInBounds_toArray, List.set_cons_zero, List.set_cons_succ])
  refine regN_take (i := 1) (d := (some 75)) (v := ?v12x2) (l2 := #[true, true, false, false, false, false, false, false, false]) rfl rfl rfl (by kernel_rfl) (by kernel_rfl) (by kernel_rfl) (by kernel_rfl) (fun _ _ _ h => h) (by rfl) ?hv12x2 hS0 ?h12x2
  case hv12x2 => intro u hSu; (try dsimp only at hSu); (try go_split_ands); go_simp; (try with_reducible rfl)
  (try simp only [Act.put, List.setIfInBounds_toArray, List.set_cons_zero, List.set_cons_succ])
  refine regN_takeC [7] (i := 2) (d := (some 76)) (v := ?v12x3) (l2 := #[true, true, true, false, false, false, false, false, false]) rfl rfl rfl (by kernel_rfl) (by kernel_rfl) (by kernel_rfl) (by kernel_rfl) (fun _ _ _ h => h) (by rfl) ?hv12x3 hS0 ?h12x3
  case hv12x3 => intro u hSu; clear hSu; go_simp; (try with_reducible rfl)
  (try simp only [Act.put, List.setIfInBounds_toArray, List.set_cons_zero, List.set_cons_succ])
  refine regN_takeC [7, 6, 5, 4] (i := 3) (d := (some 77)) (v := ?v12x4) (l2 := #[true, true, true, true, false, false, false, false, false]) rfl rfl rfl (by kernel_rfl) (by kernel_rfl) (by kernel_rfl) (by kernel_rfl) (fun _ _ _ h => h) (by rfl) ?hv12x4 hS0 ?h12x4
  case hv12x4 => intro u hSu; clear hSu; go_simp; (try with_reducible rfl)
  (try simp only [Act.put, List.setIfInBounds_toArray, List.set_cons_zero, List.set_cons_succ])
  refine regN_takeC [7, 6, 5] (i := 4) (d := (some 78)) (v := ?v12x5) (l2 := #[true, true, true, true, true, false, false, false, false]) rfl rfl rfl (by kernel_rfl) (by kernel_rfl) (by kernel_rfl) (by kernel_rfl) (fun _ _ _ h => h) (by rfl) ?hv12x5 hS0 ?h12x5
  case hv12x5 => intro u hSu; (try dsimp only at hSu); (try go_split_ands); go_simp; (try with_reducible rfl)
  (try simp only [Act.put, List.setIfInBounds_toArray, List.set_cons_zero, List.set_cons_succ])
  refine regN_takeC [7, 6] (i := 5) (d := (some 79)) (v := ?v12x6) (l2 := #[true, true, true, true, true, true, false, false, false]) rfl rfl rfl (by kernel_rfl) (by kernel_rfl) (by kernel_rfl) (by kernel_rfl) (fun _ _ _ h => h) (by rfl) ?hv12x6 hS0 ?h12x6
  case hv12x6 => intro u hSu; clear hSu; go_simp; (try with_reducible rfl)
  (try simp only [Act.put, List.setIfInBounds_toArray, List.set_cons_zero, List.set_cons_succ])
  refine regN_ready (rs := [6]) (by kernel_rfl) (by simp) ?_
  refine (AllN.cons (i := 6) (l2 := #[true, true, true, true, true, true, true, false, false]) rfl rfl (fun K hK => ?_) AllN.nil)
  go_simp
  go_at_call 44
  refine (HKK.out _).mono ?_
  rintro e w2 ⟨rfl, hb2⟩
  have hx2 := (hb2.block W.heap.size hz1).trans HR.out
  have hz2 : W.heap.size < w2.heap.size := Nat.lt_of_lt_of_le hz1 hb2.size
  have HQ2 := Lib.hid (HQ.out.up ((Below.refl W1.heap.size W1).drew.trans hb2))
  have HX2 := Lib.hid hx2
  have ky2 := ten_cells hx2
  clear hb2 hx2
  go_simp
  have hS1 : ((fun (w' : World) => w'.cell? ⟨W.heap.size, 0, none⟩ = some (.int .i64 9) ∧ w'.cell? ⟨W.heap.size, 1, none⟩ = some (.int .i64 ia) ∧ w'.cell? ⟨W.heap.size, 2, none⟩ = some (.int .i64 ib) ∧ w'.cell? ⟨W.heap.size, 3, none⟩ = some (.int .i64 it) ∧ w'.cell? ⟨W.heap.size, 4, none⟩ = some (.slice kA kn kc) ∧ w'.cell? ⟨W.heap.size, 5, none⟩ = some (.slice tA tn tc) ∧ w'.cell? ⟨W.heap.size, 6, none⟩ = some (.string r1) ∧ w'.cell? ⟨W.heap.size, 7, none⟩ = some (.string r2) ∧ w'.cell? ⟨W.heap.size, 8, none⟩ = some (.string r3) ∧ w'.cell? ⟨W.heap.size, 9, none⟩ = some (.string s)) : World → Prop) _ := (by show (fun (w' : World) => w'.cell? ⟨W.heap.size, 0, none⟩ = some (.int .i64 9) ∧ w'.cell? ⟨W.heap.size, 1, none⟩ = some (.int .i64 ia) ∧ w'.cell? ⟨W.heap.size, 2, none⟩ = some (.int .i64 ib) ∧ w'.cell? ⟨W.heap.size, 3, none⟩ = some (.int .i64 it) ∧ w'.cell? ⟨W.heap.size, 4, none⟩ = some (.slice kA kn kc) ∧ w'.cell? ⟨W.heap.size, 5, none⟩ = some (.slice tA tn tc) ∧ w'.cell? ⟨W.heap.size, 6, none⟩ = some (.string r1) ∧ w'.cell? ⟨W.heap.size, 7, none⟩ = some (.string r2) ∧ w'.cell? ⟨W.heap.size, 8, none⟩ = some (.string r3) ∧ w'.cell? ⟨W.heap.size, 9, none⟩ = some (.string s)) _; exact ky2)
  refine hK _ _ (fun _ => hS1) ?_
  clear hK K
  (try simp only [Act.put, List.setIfInBounds_toArray, List.set_cons_zero, List.set_cons_succ])
  refine regN_ready (rs := [7]) (by kernel_rfl) (by simp) ?_
  refine (AllN.cons (i := 7) (l2 := #[true, true, true, true, true, true, true, true, false]) rfl rfl (fun K hK => ?_) AllN.nil)
  go_simp
  go_at_call 37
  refine (HL.out _ HQ2.out).mono ?_
  rintro e w3 ⟨rfl, hq3, hk3⟩
  have hx3 := (hk3.block W.heap.size hz2 hxb).trans HX2.out
  have ky3 := ten_cells hx3
  go_simp
  have hS2 : ((fun (w' : World) => w'.cell? ⟨W.heap.size, 0, none⟩ = some (.int .i64 9) ∧ w'.cell? ⟨W.heap.size, 1, none⟩ = some (.int .i64 ia) ∧ w'.cell? ⟨W.heap.size, 2, none⟩ = some (.int .i64 ib) ∧ w'.cell? ⟨W.heap.size, 3, none⟩ = some (.int .i64 it) ∧ w'.cell? ⟨W.heap.size, 4, none⟩ = some (.slice kA kn kc) ∧ w'.cell? ⟨W.heap.size, 5, none⟩ = some (.slice tA tn tc) ∧ w'.cell? ⟨W.heap.size, 6, none⟩ = some (.string r1) ∧ w'.cell? ⟨W.heap.size, 7, none⟩ = some (.string r2) ∧ w'.cell? ⟨W.heap.size, 8, none⟩ = some (.string r3) ∧ w'.cell? ⟨W.heap.size, 9, none⟩ = some (.string s)) : World → Prop) _ := (by show (fun (w' : World) => w'.cell? ⟨W.heap.size, 0, none⟩ = some (.int .i64 9) ∧ w'.cell? ⟨W.heap.size, 1, none⟩ = some (.int .i64 ia) ∧ w'.cell? ⟨W.heap.size, 2, none⟩ = some (.int .i64 ib) ∧ w'.cell? ⟨W.heap.size, 3, none⟩ = some (.int .i64 it) ∧ w'.cell? ⟨W.heap.size, 4, none⟩ = some (.slice kA kn kc) ∧ w'.cell? ⟨W.heap.size, 5, none⟩ = some (.slice tA tn tc) ∧ w'.cell? ⟨W.heap.size, 6, none⟩ = some (.string r1) ∧ w'.cell? ⟨W.heap.size, 7, none⟩ = some (.string r2) ∧ w'.cell? ⟨W.heap.size, 8, none⟩ = some (.string r3) ∧ w'.cell? ⟨W.heap.size, 9, none⟩ = some (.string s)) _; exact ky3)
  refine hK _ _ (fun _ => hS2) ?_
  clear hK K
  (try simp only [Act.put, List.setIfInBounds_toArray, List.set_cons_zero, List.set_cons_succ])
  refine regN_ready (rs := [8]) (by kernel_rfl) (by simp) ?_
  refine (AllN.cons (i := 8) (l2 := #[true, true, true, true, true, true, true, true, true]) rfl rfl (fun K hK => ?_) AllN.nil)
  go_simp
  go_at_call 45
  refine (HST.out _ hq3).mono ?_
  rintro e w4 ⟨rfl, hq4, hk4⟩
  go_simp
  refine hK _ _ (fun h => absurd rfl h) ?_
  clear hK K
  (try simp only [Act.put, List.setIfInBounds_toArray, List.set_cons_zero, List.set_cons_succ])
  refine regN_done (by kernel_rfl) ?_ _
  go_wp2
  go_end0
  rw [HS.out]
  exact hq4.ex
theorem locRV_rg {n : Int} {r : Rs} (h : VsIn r.ls) : Rg (locRV n r).2 := by
  unfold locRV atV
  split
  · exact rg_0
  · cases hq : r.ls[n.toNat]? with
    | none => exact rg_0
    | some p => exact h p (List.mem_of_getElem? hq)
set_option maxRecDepth 100000 in
set_option maxHeartbeats 1000000 in
theorem plain_10 {w0 W : World} {b : Nat} {h : Hd8} {r : Rs} {lA : Option Addr} {lc : Nat} {sA : Option Addr} {sc : Nat} {ia ib it : Int} {kA : Option Addr} {kn kc : Nat} {ks : List Int} {tA : Option Addr} {tn tc : Nat} {ts : List Int} {r1 r2 r3 s : ByteArray} (hvl : VsIn r.ls) (H : HdSt w0 W b h r lA lc sA sc) (hl : r.ss.length ≤ 900000) (hll : r.ls.length ≤ 1000000) :
    Calls Try.prog 26 #[.pointer (some ⟨b, 0, none⟩), .agg #[.int .i64 10, .int .i64 ia, .int .i64 ib, .int .i64 it, .slice kA kn kc, .slice tA tn tc, .string r1, .string r2, .string r3, .string s]] W (HdEx w0 W b h r (plainR (⟨10, ia, ib, it, kA, kn, kc, ks, tA, tn, tc, ts, r1, r2, r3, s⟩ : In) r) lA sA (.tuple #[])) := by
  have hb1 := below_al (Below.refl W.heap.size W) (.cells #[.int .i64 10, .int .i64 ia, .int .i64 ib, .int .i64 it, .slice kA kn kc, .slice tA tn tc, .string r1, .string r2, .string r3, .string s] 29)
  have R := World.alloc_heap_new W (.cells #[.int .i64 10, .int .i64 ia, .int .i64 ib, .int .i64 it, .slice kA kn kc, .slice tA tn tc, .string r1, .string r2, .string r3, .string s] 29)
  have HQ := Lib.hid ((Hq.refl H).up hb1)
  have hz := lt_heapV H.box
  have hz1 : W.heap.size < (W.alloc (.cells #[.int .i64 10, .int .i64 ia, .int .i64 ib, .int .i64 it, .slice kA kn kc, .slice tA tn tc, .string r1, .string r2, .string r3, .string s] 29)).heap.size := by simp
  clear H
  go_enter Try.func26, Try.ntmps26
  go_upto_region 1 with fail
  generalize W.alloc (.cells #[.int .i64 10, .int .i64 ia, .int .i64 ib, .int .i64 it, .slice kA kn kc, .slice tA tn tc, .string r1, .string r2, .string r3, .string s] 29) = W1 at R HQ hz1 ⊢
  obtain ⟨q0, q1, q2, q3, q4, q5, q6, q7, q8, q9⟩ := ten_cells R
  have HR := Lib.hid R
  clear hb1
  have HS := Lib.hid (show plainR (⟨10, ia, ib, it, kA, kn, kc, ks, tA, tn, tc, ts, r1, r2, r3, s⟩ : In) r = setRS ia (1, compV 15 (locRV ia r).2 ib) (locRS ia 1 r) from rfl)
  have HV := Lib.hid (locRV_rg (n := ia) hvl)
  have HL := Lib.hid (hloc_q (⟨10, ia, ib, it, kA, kn, kc, ks, tA, tn, tc, ts, r1, r2, r3, s⟩ : In) 1 HQ.out hll)
  dsimp only at HL
  obtain ⟨⟨vk, vn⟩, hv⟩ : ∃ x, locRV ia r = x := ⟨_, rfl⟩
  rw [hv] at HL HS HV
  clear hv
  dsimp only at HL HS HV
  have HC := Lib.hid (fun w => rcomp_any 15 vn ib HV.out.1 HV.out.2 w)
  obtain ⟨cv, hcv⟩ : ∃ cv, compV 15 vn ib = cv := ⟨_, rfl⟩
  obtain ⟨ce, hce⟩ : ∃ ce, compE 15 ib = ce := ⟨_, rfl⟩
  rw [hcv, hce] at HC
  rw [hcv] at HS
  clear hcv hce
  have hl1 : (locRS ia 1 r).ls.length ≤ 1000000 := by rw [locRS_ls]; exact hll
  have HST := Lib.hid (fun (W2 : World) (H : Hq w0 W b h r lA sA W2 (locRS ia 1 r)) => hset_q (⟨10, ia, ib, it, kA, kn, kc, ks, tA, tn, tc, ts, r1, r2, r3, s⟩ : In) 1 cv H hl1)
  dsimp only at HST
  go_upto_region 15 with (go_at_call 43; refine HL.out.mono ?_; rintro e w2 ⟨rfl, hq2, hk2⟩)
  have x2 := (hk2.block W.heap.size hz1 (by omega)).trans HR.out
  have y2 := lt_heapV x2
  have hb2 := below_al (Below.refl w2.heap.size w2) (.cells #[.int .i64 vk, .int .i64 vn] 42)
  have v2 := World.alloc_heap_new w2 (.cells #[.int .i64 vk, .int .i64 vn] 42)
  have hq3 := hq2.up hb2
  have x3 := (hb2.block _ y2).trans x2
  generalize w2.alloc (.cells #[.int .i64 vk, .int .i64 vn] 42) = w3 at v2 hq3 x3 hb2 ⊢
  clear q0 q1 q2 q3 q4 q5 q6 q7 q8 q9
  obtain ⟨q0, q1, q2, q3, q4, q5, q6, q7, q8, q9⟩ := ten_cells x3
  obtain ⟨v0, v1⟩ := two_cellsV v2
  clear hb2
  go_wp2_with (first | (go_at_call 38; refine (HC.out _).mono ?_; rintro e w6 ⟨rfl, rfl⟩) | (go_at_call 45; refine (HST.out _ hq3).mono ?_; rintro e w4 ⟨rfl, hq4, hk4⟩))
  go_end0
  rw [HS.out]
  exact hq4.ex
theorem plain_any {w0 W : World} {b : Nat} {h : Hd8} {r : Rs} {lA : Option Addr} {lc : Nat} {sA : Option Addr} {sc : Nat} (i : In) (ho : 0 ≤ i.op ∧ i.op ≤ 14) (hv : VsIn r.ls) (H : HdSt w0 W b h r lA lc sA sc) (hl : r.ss.length ≤ 900000) (hll : r.ls.length ≤ 1000000) :
    Calls Try.prog 26 #[.pointer (some ⟨b, 0, none⟩), (Value.agg #[Value.int IntKind.i64 (In.op i), Value.int IntKind.i64 (In.a i), Value.int IntKind.i64 (In.b i), Value.int IntKind.i64 (In.t i), Value.slice (In.kA i) (In.kn i) (In.kc i), Value.slice (In.tA i) (In.tn i) (In.tc i), Value.string (In.r1 i), Value.string (In.r2 i), Value.string (In.r3 i), Value.string (In.s i)])] W (HdEx w0 W b h r (plainR i r) lA sA (.tuple #[])) := by
  obtain ⟨op, ia, ib, it, kA, kn, kc, ks, tA, tn, tc, ts, r1, r2, r3, s⟩ := i
  dsimp only at ho ⊢
  have hc : op = 0 ∨ op = 1 ∨ op = 2 ∨ op = 3 ∨ op = 4 ∨ op = 5 ∨ op = 6 ∨ op = 7 ∨ op = 8 ∨ op = 9 ∨ op = 10 ∨ op = 11 ∨ op = 12 ∨ op = 13 ∨ op = 14 := by omega
  rcases hc with e | e | e | e | e | e | e | e | e | e | e | e | e | e | e <;> subst e
  · exact plain_0 H hl hll
  · exact plain_1 H hl hll
  · exact plain_2 H hl hll
  · by_cases hb : ib = 3
    · exact plain_3_3 hb H hl hll
    · exact plain_3_n (by simpa using hb) H hl hll
  · exact plain_4 H hl hll
  · exact plain_5 H hl hll
  · exact plain_6 H hl hll
  · exact plain_7 H hl hll
  · exact plain_8 H hl hll
  · exact plain_9 H hl hll
  · exact plain_10 hv H hl hll
  · exact plain_11 H hl hll
  · exact plain_12 H hl hll
  · exact plain_13 H hl hll
  · exact plain_14 H hl hll
end Go.Proofs.Ytgiglbjkijlchaa
