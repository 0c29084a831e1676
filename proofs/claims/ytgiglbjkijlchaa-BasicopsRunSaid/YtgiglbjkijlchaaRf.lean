/- Layer 42: shuffle (written by gen/boshuf.py). -/
import Derived.Test.YtgiglbjkijlchaaRd
namespace Go.Proofs.Ytgiglbjkijlchaa
open Go.ChangeShapes Go.WideShapes Go.ChangeAt Go.RowKit Go.PlainAid
set_option linter.unusedSimpArgs false
set_option linter.unusedVariables false

def shufS (op : Int) (r : Rs) : Rs :=
  if op = 12 then { popAnyS r with ss := (popAnyS r).ss ++ [topV r.ss, topV r.ss] }
  else if op = 13 then { popAnyS (popAnyS r) with ss := (popAnyS (popAnyS r)).ss ++ [topV r.ss, topV (popAnyS r).ss, topV r.ss] }
  else if op = 14 then { popAnyS (popAnyS r) with ss := (popAnyS (popAnyS r)).ss ++ [topV r.ss, topV (popAnyS r).ss] }
  else popAnyS r
theorem grown_dwV {w w' : World} {r : Option Nat} (h : w.drew.grownBy w' r) : w.grownBy w' r := ⟨h.os, h.tape, h.output, h.size, h.block⟩
theorem shuf_end {w0 W w3 w9 : World} {b : Nat} {h : Hd8} {r1 : Rs} {lA : Option Addr} {lc : Nat} {sv sv1 sv' : Value} {ss : List Va} (H3 : RunSt w0 w3 b h r1 lA lc sv1) (hk : Kept W w3 b sv) (hl : Lies W sv sv1)
    (ho : w9.ownsRow w0.heap.size 42 2 sv' ss.length (prow ss)) (hg : w3.grownBy w9 sv1.ownBlock) (hl9 : Lies w3 sv1 sv') : StRet w0 W b h { r1 with ss := ss } lA lc sv (.returned (.tuple #[])) (w9.setCell ⟨b, 4, none⟩ sv') := by
  have hbx := (hg.block b (lt_heapV H3.box) (fun e => H3.nb e.symm)).trans H3.box
  have hset := heap_setCell_same w9 b 4 _ _ sv' hbx
  obtain ⟨h1, h2⟩ := H3.restack (ss := ss) (W' := w9.setCell ⟨b, 4, none⟩ sv') ho hg hl9 grown_setV hset
  exact ⟨rfl, sv', h1, hk.trans hl h2, Lies.trans hl hk.size hl9⟩
set_option maxRecDepth 100000 in
theorem shuf_11 {w0 W : World} {b : Nat} {h : Hd8} {r : Rs} {lA : Option Addr} {lc : Nat} {sv : Value} (H : RunSt w0 W b h r lA lc sv) (hl : r.ss.length ≤ 900000) :
    Calls Try.prog 20 #[.pointer (some ⟨b, 0, none⟩), .int .i64 11] W (StRet w0 W b h (shufS 11 r) lA lc sv) := by
  have HP := Lib.hid (popAny_any H (by omega))
  have HS := Lib.hid (show shufS 11 r = popAnyS r from rfl)
  clear H
  go_enter Try.func20, Try.ntmps20
  go_wp2_with (go_at_call 34; refine HP.out.mono ?_; rintro e w2 ⟨rfl, sv2, hr2, hk2, hl2⟩)
  go_end0
  rw [HS.out]
  exact ⟨rfl, sv2, hr2.up (below_al (Below.refl _ _) _), hk2.trans hl2 (Kept.of_below (below_al (Below.refl _ _) _)), hl2⟩
set_option maxRecDepth 100000 in
set_option maxHeartbeats 1000000 in
theorem shuf_12 {w0 W : World} {b : Nat} {h : Hd8} {r : Rs} {lA : Option Addr} {lc : Nat} {sv : Value} (H : RunSt w0 W b h r lA lc sv) (hl : r.ss.length ≤ 900000) :
    Calls Try.prog 20 #[.pointer (some ⟨b, 0, none⟩), .int .i64 12] W (StRet w0 W b h (shufS 12 r) lA lc sv) := by
  have HP := Lib.hid (popAny_any H (by omega))
  have HS := Lib.hid (show shufS 12 r = { popAnyS r with ss := (popAnyS r).ss ++ [topV r.ss, topV r.ss] } from rfl)
  have hs1 := popAnyS_ss r
  obtain ⟨r1, hr1⟩ : ∃ r1, popAnyS r = r1 := ⟨_, rfl⟩
  have hp1 : topV r.ss = ((topV r.ss).1, (topV r.ss).2) := rfl
  obtain ⟨x, hx⟩ : ∃ x, (topV r.ss).1 = x := ⟨_, rfl⟩
  obtain ⟨y, hy⟩ : ∃ y, (topV r.ss).2 = y := ⟨_, rfl⟩
  rw [hr1, hx, hy] at HP
  rw [hr1] at hs1
  rw [hx, hy] at hp1
  have HN := Lib.hid (And.intro hr1 hp1)
  clear H hr1 hx hy hp1
  go_enter Try.func20, Try.ntmps20
  go_upto_region 1 with (go_at_call 34; refine HP.out.mono ?_; rintro e w2 ⟨rfl, sv2, hr2, hk2, hl2⟩)
  have hx3 := World.alloc_heap_new w2 (.cells #[.int .i64 x, .int .i64 y] 42)
  have hb3 := below_al (Below.refl w2.heap.size w2) (.cells #[.int .i64 x, .int .i64 y] 42)
  have hz3 : w2.heap.size < (w2.alloc (.cells #[.int .i64 x, .int .i64 y] 42)).heap.size := by simp
  have hxb : w2.heap.size ≠ b := fun e => by have := lt_heapV hr2.box; omega
  have hxs : sv2.ownBlock ≠ some w2.heap.size := fun e => by have := (hr2.own.lt _ e).2; omega
  generalize hw3 : w2.alloc (.cells #[.int .i64 x, .int .i64 y] 42) = w3 at hx3 hb3 hz3 ⊢
  have HR3 := Lib.hid (hr2.up hb3)
  have HK3 := Lib.hid (hk2.trans hl2 (Kept.of_below hb3))
  have HL3 := Lib.hid hl2
  have HX3 := Lib.hid hx3
  clear hr2 hk2 hl2 hx3 hb3 HP hw3
  obtain ⟨t0, t1⟩ := two_cellsV HX3.out
  have z4 := lt_heapV HX3.out
  have c4 := (nine_cells HR3.out.box).2.2.2.2.1
  have zb := lt_heapV HR3.out.box
  have hbs := HR3.out.bel.size
  have KS := Lib.hid (fun (w' : World) (hb : Below w3.heap.size w3 w') => show w'.cell? ⟨b, 4, none⟩ = some sv2 ∧ w'.cell? ⟨w2.heap.size, 0, none⟩ = some (.int .i64 x) ∧ w'.cell? ⟨w2.heap.size, 1, none⟩ = some (.int .i64 y) from ⟨(hb.cell (p := ⟨b, 4, none⟩) zb).trans c4, (hb.cell (p := ⟨w2.heap.size, 0, none⟩) z4).trans t0, (hb.cell (p := ⟨w2.heap.size, 1, none⟩) z4).trans t1⟩)
  obtain ⟨q, hq⟩ : ∃ q, r1.ss.length = q := ⟨_, rfl⟩
  have hown := HR3.out.own
  have hql : q ≤ 900000 := by omega
  rw [hq] at hown
  have HO := Lib.hid hown
  have HQ := Lib.hid hq
  clear hown hq
  go_wp2
  refine regN_start (N := 13) (S := (fun w' => w'.cell? ⟨b, 4, none⟩ = some sv2 ∧ w'.cell? ⟨w2.heap.size, 0, none⟩ = some (.int .i64 x) ∧ w'.cell? ⟨w2.heap.size, 1, none⟩ = some (.int .i64 y))) (by kernel_rfl) ?_
  change wpAnyN _ _ _ _ _ _ _ #[false, false, false, false, false, false, false, false, false, false, false, false, false, false] _ (World.drew _)
  have hS0 := KS.out _ (Below.refl w3.heap.size w3).drew
  refine regN_take (i := 0) (d := (some 12)) (v := ?v3x1) (l2 := #[true, false, false, false, false, false, false, false, false, false, false, false, false, false]) rfl rfl rfl (by kernel_rfl) (by kernel_rfl) (by kernel_rfl) (by kernel_rfl) (fun _ _ _ h => h) (by rfl) ?hv3x1 hS0 ?h3x1
  case hv3x1 => intro u hSu; clear hSu; go_simp; (try with_reducible rfl)
  (try simp only [Act.put, List.setIfInBounds_toArray, List.set_cons_zero, List.set_cons_succ])
  refine regN_take (i := 1) (d := (some 13)) (v := ?v3x2) (l2 := #[true, true, false, false, false, false, false, false, false, false, false, false, false, false]) rfl rfl rfl (by kernel_rfl) (by kernel_rfl) (by kernel_rfl) (by kernel_rfl) (fun _ _ _ h => h) (by rfl) ?hv3x2 hS0 ?h3x2
  case hv3x2 => intro u hSu; clear hSu; go_simp; (try with_reducible rfl)
  (try simp only [Act.put, List.setIfInBounds_toArray, List.set_cons_zero, List.set_cons_succ])
  refine regN_take (i := 2) (d := (some 14)) (v := ?v3x3) (l2 := #[true, true, true, false, false, false, false, false, false, false, false, false, false, false]) rfl rfl rfl (by kernel_rfl) (by kernel_rfl) (by kernel_rfl) (by kernel_rfl) (fun _ _ _ h => h) (by rfl) ?hv3x3 hS0 ?h3x3
  case hv3x3 => intro u hSu; clear hSu; go_simp; (try with_reducible rfl)
  (try simp only [Act.put, List.setIfInBounds_toArray, List.set_cons_zero, List.set_cons_succ])
  refine regN_take (i := 3) (d := (some 15)) (v := ?v3x4) (l2 := #[true, true, true, true, false, false, false, false, false, false, false, false, false, false]) rfl rfl rfl (by kernel_rfl) (by kernel_rfl) (by kernel_rfl) (by kernel_rfl) (fun _ _ _ h => h) (by rfl) ?hv3x4 hS0 ?h3x4
  case hv3x4 => intro u hSu; clear hSu; go_simp; (try with_reducible rfl)
  (try simp only [Act.put, List.setIfInBounds_toArray, List.set_cons_zero, List.set_cons_succ])
  refine regN_take (i := 4) (d := (some 16)) (v := ?v3x5) (l2 := #[true, true, true, true, true, false, false, false, false, false, false, false, false, false]) rfl rfl rfl (by kernel_rfl) (by kernel_rfl) (by kernel_rfl) (by kernel_rfl) (fun _ _ _ h => h) (by rfl) ?hv3x5 hS0 ?h3x5
  case hv3x5 => intro u hSu; clear hSu; go_simp; (try with_reducible rfl)
  (try simp only [Act.put, List.setIfInBounds_toArray, List.set_cons_zero, List.set_cons_succ])
  refine regN_take (i := 5) (d := (some 17)) (v := ?v3x6) (l2 := #[true, true, true, true, true, true, false, false, false, false, false, false, false, false]) rfl rfl rfl (by kernel_rfl) (by kernel_rfl) (by kernel_rfl) (by kernel_rfl) (fun _ _ _ h => h) (by rfl) ?hv3x6 hS0 ?h3x6
  case hv3x6 => intro u hSu; (try dsimp only at hSu); (try go_split_ands); go_simp; (try with_reducible rfl)
  (try simp only [Act.put, List.setIfInBounds_toArray, List.set_cons_zero, List.set_cons_succ])
  refine regN_take (i := 6) (d := (some 18)) (v := ?v3x7) (l2 := #[true, true, true, true, true, true, true, false, false, false, false, false, false, false]) rfl rfl rfl (by kernel_rfl) (by kernel_rfl) (by kernel_rfl) (by kernel_rfl) (fun _ _ _ h => h) (by rfl) ?hv3x7 hS0 ?h3x7
  case hv3x7 => intro u hSu; (try dsimp only at hSu); (try go_split_ands); go_simp; (try with_reducible rfl)
  (try simp only [Act.put, List.setIfInBounds_toArray, List.set_cons_zero, List.set_cons_succ])
  refine regN_take (i := 7) (d := (some 19)) (v := ?v3x8) (l2 := #[true, true, true, true, true, true, true, true, false, false, false, false, false, false]) rfl rfl rfl (by kernel_rfl) (by kernel_rfl) (by kernel_rfl) (by kernel_rfl) (fun _ _ _ h => h) (by rfl) ?hv3x8 hS0 ?h3x8
  case hv3x8 => intro u hSu; (try dsimp only at hSu); (try go_split_ands); go_simp; (try with_reducible rfl)
  (try simp only [Act.put, List.setIfInBounds_toArray, List.set_cons_zero, List.set_cons_succ])
  refine regN_ready (rs := [8]) (by kernel_rfl) (by simp) ?_
  refine (AllN.cons (i := 8) (l2 := #[true, true, true, true, true, true, true, true, true, false, false, false, false, false]) rfl rfl (fun K hK => ?_) AllN.nil)
  go_simp
  have hS1 : ((fun w' => w'.cell? ⟨b, 4, none⟩ = some sv2 ∧ w'.cell? ⟨w2.heap.size, 0, none⟩ = some (.int .i64 x) ∧ w'.cell? ⟨w2.heap.size, 1, none⟩ = some (.int .i64 y)) : World → Prop) _ := KS.out _ (below_al (Below.refl w3.heap.size w3).drew (.cells #[.int .i64 x, .int .i64 y, .int .i64 x, .int .i64 y] 42))
  refine hK _ _ (fun _ => hS1) ?_
  clear hK K
  (try simp only [Act.put, List.setIfInBounds_toArray, List.set_cons_zero, List.set_cons_succ])
  refine regN_ready (rs := [9]) (by kernel_rfl) (by simp) ?_
  refine (AllN.cons (i := 9) (l2 := #[true, true, true, true, true, true, true, true, true, true, false, false, false, false]) rfl rfl (fun K hK => ?_) AllN.nil)
  refine step_app (by rfl) _ _ (by rfl) w0.heap.size q 2 _ r1.ss [(x, y), (x, y)] _ _ (by rfl) ((own_below HO.out (Below.refl w3.heap.size w3).drew).alloc (.cells #[.int .i64 x, .int .i64 y, .int .i64 x, .int .i64 y] 42)) (by rfl) rfl (by decide) (VRow.news (row_new (L := [(x, y), (x, y)]) (World.alloc_heap_new w3.drew _))) (by omega) (Nat.le_trans hbs (below_al (Below.refl w3.heap.size w3).drew (.cells #[.int .i64 x, .int .i64 y, .int .i64 x, .int .i64 y] 42)).size) ?_
  intro A9 c9 w9 ho9 hg9 hl9
  have hg9b := grown_dwV (grown_alV hg9)
  have hbx9 := (hg9b.block b zb (fun e => HR3.out.nb e.symm)).trans HR3.out.box
  have hc9 := (nine_cells hbx9).2.2.2.2.1
  have hf9 := frozV hbx9 4
  have hz9 := lt_heapV hbx9
  have hx9 := (hg9b.block w2.heap.size z4 (fun e => hxs e.symm)).trans HX3.out
  have KS9 := Lib.hid (And.intro hc9 (two_cellsV hx9))
  have hS2 : ((fun w' => w'.cell? ⟨b, 4, none⟩ = some sv2 ∧ w'.cell? ⟨w2.heap.size, 0, none⟩ = some (.int .i64 x) ∧ w'.cell? ⟨w2.heap.size, 1, none⟩ = some (.int .i64 y)) : World → Prop) _ := KS9.out
  refine hK _ _ (fun _ => hS2) ?_
  clear hK K
  (try simp only [Act.put, List.setIfInBounds_toArray, List.set_cons_zero, List.set_cons_succ])
  refine regN_takeC [12, 11] (i := 10) (d := (some 22)) (v := ?v3x9) (l2 := #[true, true, true, true, true, true, true, true, true, true, true, false, false, false]) rfl rfl rfl (by kernel_rfl) (by kernel_rfl) (by kernel_rfl) (by kernel_rfl) (fun _ _ _ h => h) (by rfl) ?hv3x9 hS2 ?h3x9
  case hv3x9 => intro u hSu; clear hSu; go_simp; (try with_reducible rfl)
  (try simp only [Act.put, List.setIfInBounds_toArray, List.set_cons_zero, List.set_cons_succ])
  refine regN_takeC [12] (i := 11) (d := (some 23)) (v := ?v3x10) (l2 := #[true, true, true, true, true, true, true, true, true, true, true, true, false, false]) rfl rfl rfl (by kernel_rfl) (by kernel_rfl) (by kernel_rfl) (by kernel_rfl) (fun _ _ _ h => h) (by rfl) ?hv3x10 hS2 ?h3x10
  case hv3x10 => intro u hSu; clear hSu; go_simp; (try with_reducible rfl)
  (try simp only [Act.put, List.setIfInBounds_toArray, List.set_cons_zero, List.set_cons_succ])
  refine regN_take (i := 12) (d := (some 24)) (v := ?v3x11) (l2 := #[true, true, true, true, true, true, true, true, true, true, true, true, true, false]) rfl rfl rfl (by kernel_rfl) (by kernel_rfl) (by kernel_rfl) (by kernel_rfl) (fun _ _ _ h => h) (by rfl) ?hv3x11 hS2 ?h3x11
  case hv3x11 => intro u hSu; clear hSu; go_simp; (try with_reducible rfl)
  (try simp only [Act.put, List.setIfInBounds_toArray, List.set_cons_zero, List.set_cons_succ])
  refine regN_ready (rs := [13]) (by kernel_rfl) (by simp) ?_
  refine (AllN.cons (i := 13) (l2 := #[true, true, true, true, true, true, true, true, true, true, true, true, true, true]) rfl rfl (fun K hK => ?_) AllN.nil)
  go_simp
  refine hK _ _ (fun h => absurd rfl h) ?_
  clear hK K
  (try simp only [Act.put, List.setIfInBounds_toArray, List.set_cons_zero, List.set_cons_succ])
  refine regN_done (by kernel_rfl) ?_ _
  go_wp2
  go_end0
  rw [HS.out, HN.out.1, HN.out.2]
  exact shuf_end (ss := r1.ss ++ [(x, y), (x, y)]) HR3.out HK3.out HL3.out (by rw [List.length_append, HQ.out]; exact ho9) hg9b (lies_alV hl9)
set_option maxRecDepth 100000 in
set_option maxHeartbeats 1000000 in
theorem shuf_13 {w0 W : World} {b : Nat} {h : Hd8} {r : Rs} {lA : Option Addr} {lc : Nat} {sv : Value} (H : RunSt w0 W b h r lA lc sv) (hl : r.ss.length ≤ 900000) :
    Calls Try.prog 20 #[.pointer (some ⟨b, 0, none⟩), .int .i64 13] W (StRet w0 W b h (shufS 13 r) lA lc sv) := by
  have HP := Lib.hid (popAny_any H (by omega))
  have HS := Lib.hid (show shufS 13 r = { popAnyS (popAnyS r) with ss := (popAnyS (popAnyS r)).ss ++ [topV r.ss, topV (popAnyS r).ss, topV r.ss] } from rfl)
  have hs1 := popAnyS_ss r
  obtain ⟨r1, hr1⟩ : ∃ r1, popAnyS r = r1 := ⟨_, rfl⟩
  have hp1 : topV r.ss = ((topV r.ss).1, (topV r.ss).2) := rfl
  obtain ⟨x, hx⟩ : ∃ x, (topV r.ss).1 = x := ⟨_, rfl⟩
  obtain ⟨y, hy⟩ : ∃ y, (topV r.ss).2 = y := ⟨_, rfl⟩
  rw [hr1, hx, hy] at HP
  rw [hr1] at hs1
  rw [hx, hy] at hp1
  have HN := Lib.hid (And.intro hr1 hp1)
  clear H hr1 hx hy hp1
  go_enter Try.func20, Try.ntmps20
  go_upto_region 1 with (go_at_call 34; refine HP.out.mono ?_; rintro e w2 ⟨rfl, sv2, hr2, hk2, hl2⟩)
  have hx3 := World.alloc_heap_new w2 (.cells #[.int .i64 x, .int .i64 y] 42)
  have hb3 := below_al (Below.refl w2.heap.size w2) (.cells #[.int .i64 x, .int .i64 y] 42)
  have hz3 : w2.heap.size < (w2.alloc (.cells #[.int .i64 x, .int .i64 y] 42)).heap.size := by simp
  have hxb : w2.heap.size ≠ b := fun e => by have := lt_heapV hr2.box; omega
  have hxs : sv2.ownBlock ≠ some w2.heap.size := fun e => by have := (hr2.own.lt _ e).2; omega
  generalize hw3 : w2.alloc (.cells #[.int .i64 x, .int .i64 y] 42) = w3 at hx3 hb3 hz3 ⊢
  have HR3 := Lib.hid (hr2.up hb3)
  have HK3 := Lib.hid (hk2.trans hl2 (Kept.of_below hb3))
  have HL3 := Lib.hid hl2
  have HX3 := Lib.hid hx3
  clear hr2 hk2 hl2 hx3 hb3 HP hw3
  have HP2 := Lib.hid (popAny_any HR3.out (by omega))
  have hs2 := popAnyS_ss r1
  obtain ⟨r2, hr2⟩ : ∃ r2, popAnyS r1 = r2 := ⟨_, rfl⟩
  have hp2 : topV r1.ss = ((topV r1.ss).1, (topV r1.ss).2) := rfl
  obtain ⟨u, hu⟩ : ∃ u, (topV r1.ss).1 = u := ⟨_, rfl⟩
  obtain ⟨v, hv⟩ : ∃ v, (topV r1.ss).2 = v := ⟨_, rfl⟩
  rw [hr2, hu, hv] at HP2
  rw [hr2] at hs2
  rw [hu, hv] at hp2
  have HN2 := Lib.hid (And.intro hr2 hp2)
  clear hr2 hu hv hp2
  go_upto_region 6 with (go_at_call 34; refine HP2.out.mono ?_; rintro e w4 ⟨rfl, sv4, hr4, hk4, hl4⟩)
  have hx4 := (hk4.block w2.heap.size hz3 hxb hxs).trans HX3.out
  have hx5 := World.alloc_heap_new w4 (.cells #[.int .i64 u, .int .i64 v] 42)
  have hb5 := below_al (Below.refl w4.heap.size w4) (.cells #[.int .i64 u, .int .i64 v] 42)
  have hx45 := (hb5.block w2.heap.size (lt_heapV hx4)).trans hx4
  generalize w4.alloc (.cells #[.int .i64 u, .int .i64 v] 42) = w5 at hx5 hb5 hx45 ⊢
  have HR5 := Lib.hid (hr4.up hb5)
  have HK5 := Lib.hid ((HK3.out.trans HL3.out hk4).trans (Lies.trans HL3.out HK3.out.size hl4) (Kept.of_below hb5))
  have HL5 := Lib.hid (Lies.trans HL3.out HK3.out.size hl4)
  have hbz := lt_heapV hr4.box
  have hxs2 : sv4.ownBlock ≠ some w2.heap.size := by
    rcases hl4 with e | ⟨g, e, hg⟩
    · rw [e]; exact hxs
    · rw [e]; intro e2; injection e2 with e2; omega
  have hys : sv4.ownBlock ≠ some w4.heap.size := fun e => by have := (hr4.own.lt _ e).2; omega
  clear hr4 hk4 hl4 hx4 hb5 HP2 hxs
  have hxs := hxs2
  obtain ⟨t0, t1⟩ := two_cellsV hx45
  obtain ⟨d0, d1⟩ := two_cellsV hx5
  have z4 := lt_heapV hx45
  have z5 := lt_heapV hx5
  have c4 := (nine_cells HR5.out.box).2.2.2.2.1
  have zb := lt_heapV HR5.out.box
  have hbs := HR5.out.bel.size
  have KS := Lib.hid (fun (w' : World) (hb : Below w5.heap.size w5 w') => show w'.cell? ⟨b, 4, none⟩ = some sv4 ∧ w'.cell? ⟨w2.heap.size, 0, none⟩ = some (.int .i64 x) ∧ w'.cell? ⟨w2.heap.size, 1, none⟩ = some (.int .i64 y) ∧ w'.cell? ⟨w4.heap.size, 0, none⟩ = some (.int .i64 u) ∧ w'.cell? ⟨w4.heap.size, 1, none⟩ = some (.int .i64 v) from ⟨(hb.cell (p := ⟨b, 4, none⟩) zb).trans c4, (hb.cell (p := ⟨w2.heap.size, 0, none⟩) z4).trans t0, (hb.cell (p := ⟨w2.heap.size, 1, none⟩) z4).trans t1, (hb.cell (p := ⟨w4.heap.size, 0, none⟩) z5).trans d0, (hb.cell (p := ⟨w4.heap.size, 1, none⟩) z5).trans d1⟩)
  obtain ⟨q, hq⟩ : ∃ q, r2.ss.length = q := ⟨_, rfl⟩
  have hown := HR5.out.own
  have hql : q ≤ 900000 := by omega
  rw [hq] at hown
  have HO := Lib.hid hown
  have HQ := Lib.hid hq
  clear hown hq
  go_wp2
  refine regN_start (N := 14) (S := (fun w' => w'.cell? ⟨b, 4, none⟩ = some sv4 ∧ w'.cell? ⟨w2.heap.size, 0, none⟩ = some (.int .i64 x) ∧ w'.cell? ⟨w2.heap.size, 1, none⟩ = some (.int .i64 y) ∧ w'.cell? ⟨w4.heap.size, 0, none⟩ = some (.int .i64 u) ∧ w'.cell? ⟨w4.heap.size, 1, none⟩ = some (.int .i64 v))) (by kernel_rfl) ?_
  change wpAnyN _ _ _ _ _ _ _ #[false, false, false, false, false, false, false, false, false, false, false, false, false, false, false] _ (World.drew _)
  have hS0 := KS.out _ (Below.refl w5.heap.size w5).drew
  refine regN_take (i := 0) (d := (some 29)) (v := ?v6x1) (l2 := #[true, false, false, false, false, false, false, false, false, false, false, false, false, false, false]) rfl rfl rfl (by kernel_rfl) (by kernel_rfl) (by kernel_rfl) (by kernel_rfl) (fun _ _ _ h => h) (by rfl) ?hv6x1 hS0 ?h6x1
  case hv6x1 => intro u hSu; clear hSu; go_simp; (try with_reducible rfl)
  (try simp only [Act.put, List.setIfInBounds_toArray, List.set_cons_zero, List.set_cons_succ])
  refine regN_take (i := 1) (d := (some 30)) (v := ?v6x2) (l2 := #[true, true, false, false, false, false, false, false, false, false, false, false, false, false, false]) rfl rfl rfl (by kernel_rfl) (by kernel_rfl) (by kernel_rfl) (by kernel_rfl) (fun _ _ _ h => h) (by rfl) ?hv6x2 hS0 ?h6x2
  case hv6x2 => intro u hSu; clear hSu; go_simp; (try with_reducible rfl)
  (try simp only [Act.put, List.setIfInBounds_toArray, List.set_cons_zero, List.set_cons_succ])
  refine regN_take (i := 2) (d := (some 31)) (v := ?v6x3) (l2 := #[true, true, true, false, false, false, false, false, false, false, false, false, false, false, false]) rfl rfl rfl (by kernel_rfl) (by kernel_rfl) (by kernel_rfl) (by kernel_rfl) (fun _ _ _ h => h) (by rfl) ?hv6x3 hS0 ?h6x3
  case hv6x3 => intro u hSu; clear hSu; go_simp; (try with_reducible rfl)
  (try simp only [Act.put, List.setIfInBounds_toArray, List.set_cons_zero, List.set_cons_succ])
  refine regN_take (i := 3) (d := (some 32)) (v := ?v6x4) (l2 := #[true, true, true, true, false, false, false, false, false, false, false, false, false, false, false]) rfl rfl rfl (by kernel_rfl) (by kernel_rfl) (by kernel_rfl) (by kernel_rfl) (fun _ _ _ h => h) (by rfl) ?hv6x4 hS0 ?h6x4
  case hv6x4 => intro u hSu; clear hSu; go_simp; (try with_reducible rfl)
  (try simp only [Act.put, List.setIfInBounds_toArray, List.set_cons_zero, List.set_cons_succ])
  refine regN_take (i := 4) (d := (some 33)) (v := ?v6x5) (l2 := #[true, true, true, true, true, false, false, false, false, false, false, false, false, false, false]) rfl rfl rfl (by kernel_rfl) (by kernel_rfl) (by kernel_rfl) (by kernel_rfl) (fun _ _ _ h => h) (by rfl) ?hv6x5 hS0 ?h6x5
  case hv6x5 => intro u hSu; clear hSu; go_simp; (try with_reducible rfl)
  (try simp only [Act.put, List.setIfInBounds_toArray, List.set_cons_zero, List.set_cons_succ])
  refine regN_take (i := 5) (d := (some 34)) (v := ?v6x6) (l2 := #[true, true, true, true, true, true, false, false, false, false, false, false, false, false, false]) rfl rfl rfl (by kernel_rfl) (by kernel_rfl) (by kernel_rfl) (by kernel_rfl) (fun _ _ _ h => h) (by rfl) ?hv6x6 hS0 ?h6x6
  case hv6x6 => intro u hSu; (try dsimp only at hSu); (try go_split_ands); go_simp; (try with_reducible rfl)
  (try simp only [Act.put, List.setIfInBounds_toArray, List.set_cons_zero, List.set_cons_succ])
  refine regN_take (i := 6) (d := (some 35)) (v := ?v6x7) (l2 := #[true, true, true, true, true, true, true, false, false, false, false, false, false, false, false]) rfl rfl rfl (by kernel_rfl) (by kernel_rfl) (by kernel_rfl) (by kernel_rfl) (fun _ _ _ h => h) (by rfl) ?hv6x7 hS0 ?h6x7
  case hv6x7 => intro u hSu; (try dsimp only at hSu); (try go_split_ands); go_simp; (try with_reducible rfl)
  (try simp only [Act.put, List.setIfInBounds_toArray, List.set_cons_zero, List.set_cons_succ])
  refine regN_take (i := 7) (d := (some 36)) (v := ?v6x8) (l2 := #[true, true, true, true, true, true, true, true, false, false, false, false, false, false, false]) rfl rfl rfl (by kernel_rfl) (by kernel_rfl) (by kernel_rfl) (by kernel_rfl) (fun _ _ _ h => h) (by rfl) ?hv6x8 hS0 ?h6x8
  case hv6x8 => intro u hSu; (try dsimp only at hSu); (try go_split_ands); go_simp; (try with_reducible rfl)
  (try simp only [Act.put, List.setIfInBounds_toArray, List.set_cons_zero, List.set_cons_succ])
  refine regN_take (i := 8) (d := (some 37)) (v := ?v6x9) (l2 := #[true, true, true, true, true, true, true, true, true, false, false, false, false, false, false]) rfl rfl rfl (by kernel_rfl) (by kernel_rfl) (by kernel_rfl) (by kernel_rfl) (fun _ _ _ h => h) (by rfl) ?hv6x9 hS0 ?h6x9
  case hv6x9 => intro u hSu; (try dsimp only at hSu); (try go_split_ands); go_simp; (try with_reducible rfl)
  (try simp only [Act.put, List.setIfInBounds_toArray, List.set_cons_zero, List.set_cons_succ])
  refine regN_ready (rs := [9]) (by kernel_rfl) (by simp) ?_
  refine (AllN.cons (i := 9) (l2 := #[true, true, true, true, true, true, true, true, true, true, false, false, false, false, false]) rfl rfl (fun K hK => ?_) AllN.nil)
  go_simp
  have hS1 : ((fun w' => w'.cell? ⟨b, 4, none⟩ = some sv4 ∧ w'.cell? ⟨w2.heap.size, 0, none⟩ = some (.int .i64 x) ∧ w'.cell? ⟨w2.heap.size, 1, none⟩ = some (.int .i64 y) ∧ w'.cell? ⟨w4.heap.size, 0, none⟩ = some (.int .i64 u) ∧ w'.cell? ⟨w4.heap.size, 1, none⟩ = some (.int .i64 v)) : World → Prop) _ := KS.out _ (below_al (Below.refl w5.heap.size w5).drew (.cells #[.int .i64 x, .int .i64 y, .int .i64 u, .int .i64 v, .int .i64 x, .int .i64 y] 42))
  refine hK _ _ (fun _ => hS1) ?_
  clear hK K
  (try simp only [Act.put, List.setIfInBounds_toArray, List.set_cons_zero, List.set_cons_succ])
  refine regN_ready (rs := [10]) (by kernel_rfl) (by simp) ?_
  refine (AllN.cons (i := 10) (l2 := #[true, true, true, true, true, true, true, true, true, true, true, false, false, false, false]) rfl rfl (fun K hK => ?_) AllN.nil)
  refine step_app (by rfl) _ _ (by rfl) w0.heap.size q 3 _ r2.ss [(x, y), (u, v), (x, y)] _ _ (by rfl) ((own_below HO.out (Below.refl w5.heap.size w5).drew).alloc (.cells #[.int .i64 x, .int .i64 y, .int .i64 u, .int .i64 v, .int .i64 x, .int .i64 y] 42)) (by rfl) rfl (by decide) (VRow.news (row_new (L := [(x, y), (u, v), (x, y)]) (World.alloc_heap_new w5.drew _))) (by omega) (Nat.le_trans hbs (below_al (Below.refl w5.heap.size w5).drew (.cells #[.int .i64 x, .int .i64 y, .int .i64 u, .int .i64 v, .int .i64 x, .int .i64 y] 42)).size) ?_
  intro A9 c9 w9 ho9 hg9 hl9
  have hg9b := grown_dwV (grown_alV hg9)
  have hbx9 := (hg9b.block b zb (fun e => HR5.out.nb e.symm)).trans HR5.out.box
  have hc9 := (nine_cells hbx9).2.2.2.2.1
  have hf9 := frozV hbx9 4
  have hz9 := lt_heapV hbx9
  have hx9 := (hg9b.block w2.heap.size z4 (fun e => hxs e.symm)).trans hx45
  have hy9 := (hg9b.block w4.heap.size z5 (fun e => hys e.symm)).trans hx5
  have KS9 := Lib.hid (And.intro hc9 (And.intro (two_cellsV hx9).1 (And.intro (two_cellsV hx9).2 (two_cellsV hy9))))
  have hS2 : ((fun w' => w'.cell? ⟨b, 4, none⟩ = some sv4 ∧ w'.cell? ⟨w2.heap.size, 0, none⟩ = some (.int .i64 x) ∧ w'.cell? ⟨w2.heap.size, 1, none⟩ = some (.int .i64 y) ∧ w'.cell? ⟨w4.heap.size, 0, none⟩ = some (.int .i64 u) ∧ w'.cell? ⟨w4.heap.size, 1, none⟩ = some (.int .i64 v)) : World → Prop) _ := KS9.out
  refine hK _ _ (fun _ => hS2) ?_
  clear hK K
  (try simp only [Act.put, List.setIfInBounds_toArray, List.set_cons_zero, List.set_cons_succ])
  refine regN_takeC [13, 12] (i := 11) (d := (some 40)) (v := ?v6x10) (l2 := #[true, true, true, true, true, true, true, true, true, true, true, true, false, false, false]) rfl rfl rfl (by kernel_rfl) (by kernel_rfl) (by kernel_rfl) (by kernel_rfl) (fun _ _ _ h => h) (by rfl) ?hv6x10 hS2 ?h6x10
  case hv6x10 => intro u hSu; clear hSu; go_simp; (try with_reducible rfl)
  (try simp only [Act.put, List.setIfInBounds_toArray, List.set_cons_zero, List.set_cons_succ])
  refine regN_takeC [13] (i := 12) (d := (some 41)) (v := ?v6x11) (l2 := #[true, true, true, true, true, true, true, true, true, true, true, true, true, false, false]) rfl rfl rfl (by kernel_rfl) (by kernel_rfl) (by kernel_rfl) (by kernel_rfl) (fun _ _ _ h => h) (by rfl) ?hv6x11 hS2 ?h6x11
  case hv6x11 => intro u hSu; clear hSu; go_simp; (try with_reducible rfl)
  (try simp only [Act.put, List.setIfInBounds_toArray, List.set_cons_zero, List.set_cons_succ])
  refine regN_take (i := 13) (d := (some 42)) (v := ?v6x12) (l2 := #[true, true, true, true, true, true, true, true, true, true, true, true, true, true, false]) rfl rfl rfl (by kernel_rfl) (by kernel_rfl) (by kernel_rfl) (by kernel_rfl) (fun _ _ _ h => h) (by rfl) ?hv6x12 hS2 ?h6x12
  case hv6x12 => intro u hSu; clear hSu; go_simp; (try with_reducible rfl)
  (try simp only [Act.put, List.setIfInBounds_toArray, List.set_cons_zero, List.set_cons_succ])
  refine regN_ready (rs := [14]) (by kernel_rfl) (by simp) ?_
  refine (AllN.cons (i := 14) (l2 := #[true, true, true, true, true, true, true, true, true, true, true, true, true, true, true]) rfl rfl (fun K hK => ?_) AllN.nil)
  go_simp
  refine hK _ _ (fun h => absurd rfl h) ?_
  clear hK K
  (try simp only [Act.put, List.setIfInBounds_toArray, List.set_cons_zero, List.set_cons_succ])
  refine regN_done (by kernel_rfl) ?_ _
  go_wp2
  go_end0
  rw [HS.out, HN.out.1, HN.out.2, HN2.out.1, HN2.out.2]
  exact shuf_end (ss := r2.ss ++ [(x, y), (u, v), (x, y)]) HR5.out HK5.out HL5.out (by rw [List.length_append, HQ.out]; exact ho9) hg9b (lies_alV hl9)
set_option maxRecDepth 100000 in
set_option maxHeartbeats 1000000 in
theorem shuf_14 {w0 W : World} {b : Nat} {h : Hd8} {r : Rs} {lA : Option Addr} {lc : Nat} {sv : Value} (H : RunSt w0 W b h r lA lc sv) (hl : r.ss.length ≤ 900000) :
    Calls Try.prog 20 #[.pointer (some ⟨b, 0, none⟩), .int .i64 14] W (StRet w0 W b h (shufS 14 r) lA lc sv) := by
  have HP := Lib.hid (popAny_any H (by omega))
  have HS := Lib.hid (show shufS 14 r = { popAnyS (popAnyS r) with ss := (popAnyS (popAnyS r)).ss ++ [topV r.ss, topV (popAnyS r).ss] } from rfl)
  have hs1 := popAnyS_ss r
  obtain ⟨r1, hr1⟩ : ∃ r1, popAnyS r = r1 := ⟨_, rfl⟩
  have hp1 : topV r.ss = ((topV r.ss).1, (topV r.ss).2) := rfl
  obtain ⟨x, hx⟩ : ∃ x, (topV r.ss).1 = x := ⟨_, rfl⟩
  obtain ⟨y, hy⟩ : ∃ y, (topV r.ss).2 = y := ⟨_, rfl⟩
  rw [hr1, hx, hy] at HP
  rw [hr1] at hs1
  rw [hx, hy] at hp1
  have HN := Lib.hid (And.intro hr1 hp1)
  clear H hr1 hx hy hp1
  go_enter Try.func20, Try.ntmps20
  go_upto_region 1 with (go_at_call 34; refine HP.out.mono ?_; rintro e w2 ⟨rfl, sv2, hr2, hk2, hl2⟩)
  have hx3 := World.alloc_heap_new w2 (.cells #[.int .i64 x, .int .i64 y] 42)
  have hb3 := below_al (Below.refl w2.heap.size w2) (.cells #[.int .i64 x, .int .i64 y] 42)
  have hz3 : w2.heap.size < (w2.alloc (.cells #[.int .i64 x, .int .i64 y] 42)).heap.size := by simp
  have hxb : w2.heap.size ≠ b := fun e => by have := lt_heapV hr2.box; omega
  have hxs : sv2.ownBlock ≠ some w2.heap.size := fun e => by have := (hr2.own.lt _ e).2; omega
  generalize hw3 : w2.alloc (.cells #[.int .i64 x, .int .i64 y] 42) = w3 at hx3 hb3 hz3 ⊢
  have HR3 := Lib.hid (hr2.up hb3)
  have HK3 := Lib.hid (hk2.trans hl2 (Kept.of_below hb3))
  have HL3 := Lib.hid hl2
  have HX3 := Lib.hid hx3
  clear hr2 hk2 hl2 hx3 hb3 HP hw3
  have HP2 := Lib.hid (popAny_any HR3.out (by omega))
  have hs2 := popAnyS_ss r1
  obtain ⟨r2, hr2⟩ : ∃ r2, popAnyS r1 = r2 := ⟨_, rfl⟩
  have hp2 : topV r1.ss = ((topV r1.ss).1, (topV r1.ss).2) := rfl
  obtain ⟨u, hu⟩ : ∃ u, (topV r1.ss).1 = u := ⟨_, rfl⟩
  obtain ⟨v, hv⟩ : ∃ v, (topV r1.ss).2 = v := ⟨_, rfl⟩
  rw [hr2, hu, hv] at HP2
  rw [hr2] at hs2
  rw [hu, hv] at hp2
  have HN2 := Lib.hid (And.intro hr2 hp2)
  clear hr2 hu hv hp2
  go_upto_region 9 with (go_at_call 34; refine HP2.out.mono ?_; rintro e w4 ⟨rfl, sv4, hr4, hk4, hl4⟩)
  have hx4 := (hk4.block w2.heap.size hz3 hxb hxs).trans HX3.out
  have hx5 := World.alloc_heap_new w4 (.cells #[.int .i64 u, .int .i64 v] 42)
  have hb5 := below_al (Below.refl w4.heap.size w4) (.cells #[.int .i64 u, .int .i64 v] 42)
  have hx45 := (hb5.block w2.heap.size (lt_heapV hx4)).trans hx4
  generalize w4.alloc (.cells #[.int .i64 u, .int .i64 v] 42) = w5 at hx5 hb5 hx45 ⊢
  have HR5 := Lib.hid (hr4.up hb5)
  have HK5 := Lib.hid ((HK3.out.trans HL3.out hk4).trans (Lies.trans HL3.out HK3.out.size hl4) (Kept.of_below hb5))
  have HL5 := Lib.hid (Lies.trans HL3.out HK3.out.size hl4)
  have hbz := lt_heapV hr4.box
  have hxs2 : sv4.ownBlock ≠ some w2.heap.size := by
    rcases hl4 with e | ⟨g, e, hg⟩
    · rw [e]; exact hxs
    · rw [e]; intro e2; injection e2 with e2; omega
  have hys : sv4.ownBlock ≠ some w4.heap.size := fun e => by have := (hr4.own.lt _ e).2; omega
  clear hr4 hk4 hl4 hx4 hb5 HP2 hxs
  have hxs := hxs2
  obtain ⟨t0, t1⟩ := two_cellsV hx45
  obtain ⟨d0, d1⟩ := two_cellsV hx5
  have z4 := lt_heapV hx45
  have z5 := lt_heapV hx5
  have c4 := (nine_cells HR5.out.box).2.2.2.2.1
  have zb := lt_heapV HR5.out.box
  have hbs := HR5.out.bel.size
  have KS := Lib.hid (fun (w' : World) (hb : Below w5.heap.size w5 w') => show w'.cell? ⟨b, 4, none⟩ = some sv4 ∧ w'.cell? ⟨w2.heap.size, 0, none⟩ = some (.int .i64 x) ∧ w'.cell? ⟨w2.heap.size, 1, none⟩ = some (.int .i64 y) ∧ w'.cell? ⟨w4.heap.size, 0, none⟩ = some (.int .i64 u) ∧ w'.cell? ⟨w4.heap.size, 1, none⟩ = some (.int .i64 v) from ⟨(hb.cell (p := ⟨b, 4, none⟩) zb).trans c4, (hb.cell (p := ⟨w2.heap.size, 0, none⟩) z4).trans t0, (hb.cell (p := ⟨w2.heap.size, 1, none⟩) z4).trans t1, (hb.cell (p := ⟨w4.heap.size, 0, none⟩) z5).trans d0, (hb.cell (p := ⟨w4.heap.size, 1, none⟩) z5).trans d1⟩)
  obtain ⟨q, hq⟩ : ∃ q, r2.ss.length = q := ⟨_, rfl⟩
  have hown := HR5.out.own
  have hql : q ≤ 900000 := by omega
  rw [hq] at hown
  have HO := Lib.hid hown
  have HQ := Lib.hid hq
  clear hown hq
  go_wp2
  refine regN_start (N := 13) (S := (fun w' => w'.cell? ⟨b, 4, none⟩ = some sv4 ∧ w'.cell? ⟨w2.heap.size, 0, none⟩ = some (.int .i64 x) ∧ w'.cell? ⟨w2.heap.size, 1, none⟩ = some (.int .i64 y) ∧ w'.cell? ⟨w4.heap.size, 0, none⟩ = some (.int .i64 u) ∧ w'.cell? ⟨w4.heap.size, 1, none⟩ = some (.int .i64 v))) (by kernel_rfl) ?_
  change wpAnyN _ _ _ _ _ _ _ #[false, false, false, false, false, false, false, false, false, false, false, false, false, false] _ (World.drew _)
  have hS0 := KS.out _ (Below.refl w5.heap.size w5).drew
  refine regN_take (i := 0) (d := (some 47)) (v := ?v9x1) (l2 := #[true, false, false, false, false, false, false, false, false, false, false, false, false, false]) rfl rfl rfl (by kernel_rfl) (by kernel_rfl) (by kernel_rfl) (by kernel_rfl) (fun _ _ _ h => h) (by rfl) ?hv9x1 hS0 ?h9x1
  case hv9x1 => intro u hSu; clear hSu; go_simp; (try with_reducible rfl)
  (try simp only [Act.put, List.setIfInBounds_toArray, List.set_cons_zero, List.set_cons_succ])
  refine regN_take (i := 1) (d := (some 48)) (v := ?v9x2) (l2 := #[true, true, false, false, false, false, false, false, false, false, false, false, false, false]) rfl rfl rfl (by kernel_rfl) (by kernel_rfl) (by kernel_rfl) (by kernel_rfl) (fun _ _ _ h => h) (by rfl) ?hv9x2 hS0 ?h9x2
  case hv9x2 => intro u hSu; clear hSu; go_simp; (try with_reducible rfl)
  (try simp only [Act.put, List.setIfInBounds_toArray, List.set_cons_zero, List.set_cons_succ])
  refine regN_take (i := 2) (d := (some 49)) (v := ?v9x3) (l2 := #[true, true, true, false, false, false, false, false, false, false, false, false, false, false]) rfl rfl rfl (by kernel_rfl) (by kernel_rfl) (by kernel_rfl) (by kernel_rfl) (fun _ _ _ h => h) (by rfl) ?hv9x3 hS0 ?h9x3
  case hv9x3 => intro u hSu; clear hSu; go_simp; (try with_reducible rfl)
  (try simp only [Act.put, List.setIfInBounds_toArray, List.set_cons_zero, List.set_cons_succ])
  refine regN_take (i := 3) (d := (some 50)) (v := ?v9x4) (l2 := #[true, true, true, true, false, false, false, false, false, false, false, false, false, false]) rfl rfl rfl (by kernel_rfl) (by kernel_rfl) (by kernel_rfl) (by kernel_rfl) (fun _ _ _ h => h) (by rfl) ?hv9x4 hS0 ?h9x4
  case hv9x4 => intro u hSu; clear hSu; go_simp; (try with_reducible rfl)
  (try simp only [Act.put, List.setIfInBounds_toArray, List.set_cons_zero, List.set_cons_succ])
  refine regN_take (i := 4) (d := (some 51)) (v := ?v9x5) (l2 := #[true, true, true, true, true, false, false, false, false, false, false, false, false, false]) rfl rfl rfl (by kernel_rfl) (by kernel_rfl) (by kernel_rfl) (by kernel_rfl) (fun _ _ _ h => h) (by rfl) ?hv9x5 hS0 ?h9x5
  case hv9x5 => intro u hSu; clear hSu; go_simp; (try with_reducible rfl)
  (try simp only [Act.put, List.setIfInBounds_toArray, List.set_cons_zero, List.set_cons_succ])
  refine regN_take (i := 5) (d := (some 52)) (v := ?v9x6) (l2 := #[true, true, true, true, true, true, false, false, false, false, false, false, false, false]) rfl rfl rfl (by kernel_rfl) (by kernel_rfl) (by kernel_rfl) (by kernel_rfl) (fun _ _ _ h => h) (by rfl) ?hv9x6 hS0 ?h9x6
  case hv9x6 => intro u hSu; (try dsimp only at hSu); (try go_split_ands); go_simp; (try with_reducible rfl)
  (try simp only [Act.put, List.setIfInBounds_toArray, List.set_cons_zero, List.set_cons_succ])
  refine regN_take (i := 6) (d := (some 53)) (v := ?v9x7) (l2 := #[true, true, true, true, true, true, true, false, false, false, false, false, false, false]) rfl rfl rfl (by kernel_rfl) (by kernel_rfl) (by kernel_rfl) (by kernel_rfl) (fun _ _ _ h => h) (by rfl) ?hv9x7 hS0 ?h9x7
  case hv9x7 => intro u hSu; (try dsimp only at hSu); (try go_split_ands); go_simp; (try with_reducible rfl)
  (try simp only [Act.put, List.setIfInBounds_toArray, List.set_cons_zero, List.set_cons_succ])
  refine regN_take (i := 7) (d := (some 54)) (v := ?v9x8) (l2 := #[true, true, true, true, true, true, true, true, false, false, false, false, false, false]) rfl rfl rfl (by kernel_rfl) (by kernel_rfl) (by kernel_rfl) (by kernel_rfl) (fun _ _ _ h => h) (by rfl) ?hv9x8 hS0 ?h9x8
  case hv9x8 => intro u hSu; (try dsimp only at hSu); (try go_split_ands); go_simp; (try with_reducible rfl)
  (try simp only [Act.put, List.setIfInBounds_toArray, List.set_cons_zero, List.set_cons_succ])
  refine regN_ready (rs := [8]) (by kernel_rfl) (by simp) ?_
  refine (AllN.cons (i := 8) (l2 := #[true, true, true, true, true, true, true, true, true, false, false, false, false, false]) rfl rfl (fun K hK => ?_) AllN.nil)
  go_simp
  have hS1 : ((fun w' => w'.cell? ⟨b, 4, none⟩ = some sv4 ∧ w'.cell? ⟨w2.heap.size, 0, none⟩ = some (.int .i64 x) ∧ w'.cell? ⟨w2.heap.size, 1, none⟩ = some (.int .i64 y) ∧ w'.cell? ⟨w4.heap.size, 0, none⟩ = some (.int .i64 u) ∧ w'.cell? ⟨w4.heap.size, 1, none⟩ = some (.int .i64 v)) : World → Prop) _ := KS.out _ (below_al (Below.refl w5.heap.size w5).drew (.cells #[.int .i64 x, .int .i64 y, .int .i64 u, .int .i64 v] 42))
  refine hK _ _ (fun _ => hS1) ?_
  clear hK K
  (try simp only [Act.put, List.setIfInBounds_toArray, List.set_cons_zero, List.set_cons_succ])
  refine regN_ready (rs := [9]) (by kernel_rfl) (by simp) ?_
  refine (AllN.cons (i := 9) (l2 := #[true, true, true, true, true, true, true, true, true, true, false, false, false, false]) rfl rfl (fun K hK => ?_) AllN.nil)
  refine step_app (by rfl) _ _ (by rfl) w0.heap.size q 2 _ r2.ss [(x, y), (u, v)] _ _ (by rfl) ((own_below HO.out (Below.refl w5.heap.size w5).drew).alloc (.cells #[.int .i64 x, .int .i64 y, .int .i64 u, .int .i64 v] 42)) (by rfl) rfl (by decide) (VRow.news (row_new (L := [(x, y), (u, v)]) (World.alloc_heap_new w5.drew _))) (by omega) (Nat.le_trans hbs (below_al (Below.refl w5.heap.size w5).drew (.cells #[.int .i64 x, .int .i64 y, .int .i64 u, .int .i64 v] 42)).size) ?_
  intro A9 c9 w9 ho9 hg9 hl9
  have hg9b := grown_dwV (grown_alV hg9)
  have hbx9 := (hg9b.block b zb (fun e => HR5.out.nb e.symm)).trans HR5.out.box
  have hc9 := (nine_cells hbx9).2.2.2.2.1
  have hf9 := frozV hbx9 4
  have hz9 := lt_heapV hbx9
  have hx9 := (hg9b.block w2.heap.size z4 (fun e => hxs e.symm)).trans hx45
  have hy9 := (hg9b.block w4.heap.size z5 (fun e => hys e.symm)).trans hx5
  have KS9 := Lib.hid (And.intro hc9 (And.intro (two_cellsV hx9).1 (And.intro (two_cellsV hx9).2 (two_cellsV hy9))))
  have hS2 : ((fun w' => w'.cell? ⟨b, 4, none⟩ = some sv4 ∧ w'.cell? ⟨w2.heap.size, 0, none⟩ = some (.int .i64 x) ∧ w'.cell? ⟨w2.heap.size, 1, none⟩ = some (.int .i64 y) ∧ w'.cell? ⟨w4.heap.size, 0, none⟩ = some (.int .i64 u) ∧ w'.cell? ⟨w4.heap.size, 1, none⟩ = some (.int .i64 v)) : World → Prop) _ := KS9.out
  refine hK _ _ (fun _ => hS2) ?_
  clear hK K
  (try simp only [Act.put, List.setIfInBounds_toArray, List.set_cons_zero, List.set_cons_succ])
  refine regN_takeC [12, 11] (i := 10) (d := (some 57)) (v := ?v9x9) (l2 := #[true, true, true, true, true, true, true, true, true, true, true, false, false, false]) rfl rfl rfl (by kernel_rfl) (by kernel_rfl) (by kernel_rfl) (by kernel_rfl) (fun _ _ _ h => h) (by rfl) ?hv9x9 hS2 ?h9x9
  case hv9x9 => intro u hSu; clear hSu; go_simp; (try with_reducible rfl)
  (try simp only [Act.put, List.setIfInBounds_toArray, List.set_cons_zero, List.set_cons_succ])
  refine regN_takeC [12] (i := 11) (d := (some 58)) (v := ?v9x10) (l2 := #[true, true, true, true, true, true, true, true, true, true, true, true, false, false]) rfl rfl rfl (by kernel_rfl) (by kernel_rfl) (by kernel_rfl) (by kernel_rfl) (fun _ _ _ h => h) (by rfl) ?hv9x10 hS2 ?h9x10
  case hv9x10 => intro u hSu; clear hSu; go_simp; (try with_reducible rfl)
  (try simp only [Act.put, List.setIfInBounds_toArray, List.set_cons_zero, List.set_cons_succ])
  refine regN_take (i := 12) (d := (some 59)) (v := ?v9x11) (l2 := #[true, true, true, true, true, true, true, true, true, true, true, true, true, false]) rfl rfl rfl (by kernel_rfl) (by kernel_rfl) (by kernel_rfl) (by kernel_rfl) (fun _ _ _ h => h) (by rfl) ?hv9x11 hS2 ?h9x11
  case hv9x11 => intro u hSu; clear hSu; go_simp; (try with_reducible rfl)
  (try simp only [Act.put, List.setIfInBounds_toArray, List.set_cons_zero, List.set_cons_succ])
  refine regN_ready (rs := [13]) (by kernel_rfl) (by simp) ?_
  refine (AllN.cons (i := 13) (l2 := #[true, true, true, true, true, true, true, true, true, true, true, true, true, true]) rfl rfl (fun K hK => ?_) AllN.nil)
  go_simp
  refine hK _ _ (fun h => absurd rfl h) ?_
  clear hK K
  (try simp only [Act.put, List.setIfInBounds_toArray, List.set_cons_zero, List.set_cons_succ])
  refine regN_done (by kernel_rfl) ?_ _
  go_wp2
  go_end0
  rw [HS.out, HN.out.1, HN.out.2, HN2.out.1, HN2.out.2]
  exact shuf_end (ss := r2.ss ++ [(x, y), (u, v)]) HR5.out HK5.out HL5.out (by rw [List.length_append, HQ.out]; exact ho9) hg9b (lies_alV hl9)

theorem shuffle_any {w0 W : World} {b : Nat} {h : Hd8} {r : Rs} {lA : Option Addr} {lc : Nat} {sv : Value} (H : RunSt w0 W b h r lA lc sv) (hl : r.ss.length ≤ 900000) {op : Int} (ho : 11 ≤ op ∧ op ≤ 14) :
    Calls Try.prog 20 #[.pointer (some ⟨b, 0, none⟩), .int .i64 op] W (StRet w0 W b h (shufS op r) lA lc sv) := by
  have hc : op = 11 ∨ op = 12 ∨ op = 13 ∨ op = 14 := by omega
  rcases hc with e | e | e | e <;> subst e
  · exact shuf_11 H hl
  · exact shuf_12 H hl
  · exact shuf_13 H hl
  · exact shuf_14 H hl

end Go.Proofs.Ytgiglbjkijlchaa
