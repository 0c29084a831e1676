/- Layer 42: popAny, pop (written by gen/bopop.py). -/
import Derived.Test.YtgiglbjkijlchaaRm
namespace Go.Proofs.Ytgiglbjkijlchaa
open Go.ChangeShapes Go.WideShapes Go.ChangeAt Go.RowKit Go.PlainAid
set_option linter.unusedSimpArgs false
set_option linter.unusedVariables false

theorem failS_ls (x : Int) (r : Rs) : (failS x r).ls = r.ls := by unfold failS; split <;> rfl
theorem failS_ss (x : Int) (r : Rs) : (failS x r).ss = r.ss := by unfold failS; split <;> rfl
set_option maxRecDepth 100000 in
theorem popAny_nil {w0 W : World} {b : Nat} {h : Hd8} {r : Rs} {lA : Option Addr} {lc : Nat} {sv : Value} (H : RunSt w0 W b h r lA lc sv) (h0 : r.ss = []) :
    Calls Try.prog 34 #[.pointer (some ⟨b, 0, none⟩)] W (VlRet w0 W b h (failS 20 r) lA lc sv (.agg #[.int .i64 0, .int .i64 0])) := by
  have HH := Lib.hid H
  obtain ⟨c0, c1, c2, c3, c4, c5, c6, c7, c8⟩ := nine_cells H.box
  have hz := lt_heapV H.box
  have hbw := H.bel.size
  obtain ⟨A, c, rfl, hcc, hcm, hcn⟩ := own_formV H.own
  have HL0 := Lib.hid (show r.ss.length = 0 by rw [h0]; rfl)
  rw [HL0.out] at c4
  have hnw : (Value.slice A r.ss.length c).ownBlock ≠ some W.heap.size := fun e => by have := (H.own.lt _ e).2; omega
  have hlb := H.lb
  have HNW := Lib.hid (And.intro hnw hlb)
  clear H hcc hcm hcn hnw hlb h0
  have HB := Lib.hid (below_al (Below.refl W.heap.size W) (.cells #[.int .i64 0, .int .i64 0] 42))
  have HF := Lib.hid (fail_any (HH.out.up HB.out) 20)
  go_enter Try.func34, Try.ntmps34
  go_upto_region 3 with (go_at_call 32; refine HF.out.mono ?_; rintro e w3 ⟨rfl, sv3, hr3, hk3, hl3⟩)
  have hx3 := (hk3.block W.heap.size (by simp) (by omega) HNW.out.1).trans (World.alloc_heap_new W _)
  have hxs : sv3.ownBlock ≠ some W.heap.size := by
    rcases hl3 with e | ⟨g, e, hg⟩
    · rw [e]; exact HNW.out.1
    · rw [e]; intro e2; injection e2 with e2; simp at hg; omega
  have hs3 := hk3.size
  simp at hs3
  obtain ⟨d0, d1⟩ := two_cellsV hx3
  have hf0 := frozV hx3 0
  have hf1 := frozV hx3 1
  have HR3 := Lib.hid hr3
  have HK3 := Lib.hid hk3
  have HL3 := Lib.hid hl3
  have HX3 := Lib.hid hx3
  clear hr3 hk3 hl3 hx3 c0 c1 c2 c3 c4 c5 c6 c7 c8
  go_wp2
  have hs1 := heap_setCell_same w3 W.heap.size 0 _ _ (.int .i64 0) HX3.out
  have hs2 := heap_setCell_same _ W.heap.size 1 _ _ (.int .i64 0) hs1
  have hg2 : w3.grownBy ((w3.setCell ⟨W.heap.size, 0, none⟩ (.int .i64 0)).setCell ⟨W.heap.size, 1, none⟩ (.int .i64 0)) (some W.heap.size) := grown_two grown_setV grown_setV
  obtain ⟨e0, e1⟩ := two_cellsV hs2
  refine bodyPost_ret (v := .agg #[.int .i64 0, .int .i64 0]) ?_ rfl ⟨rfl, sv3, HR3.out.aside hg2 (by omega) hxs (fun g o s hA hn => by have := HNW.out.2 g o s hA (by rw [failS_ls] at hn; exact hn); omega) hbw, ?_, lies_alV HL3.out⟩
  · simp [results, Try.f34, go_sem, *]
  · exact ((Kept.of_below HB.out).trans (Lies.refl _ _) HK3.out).aside hg2 (Nat.le_refl _)
set_option maxRecDepth 100000 in
theorem popAny_cons {w0 W : World} {b : Nat} {h : Hd8} {r : Rs} {lA : Option Addr} {lc : Nat} {sv : Value} {p : Va} {L : List Va} (H : RunSt w0 W b h r lA lc sv) (h0 : r.ss = L ++ [p]) (hl : L.length ≤ 1000000) :
    Calls Try.prog 34 #[.pointer (some ⟨b, 0, none⟩)] W (VlRet w0 W b h { r with ss := L } lA lc sv (.agg #[.int .i64 p.1, .int .i64 p.2])) := by
  have HH := Lib.hid H
  have hz := lt_heapV H.box
  have hbw := H.bel.size
  obtain ⟨k, hk⟩ : ∃ k, L.length = k := ⟨_, rfl⟩
  have HL0 := Lib.hid (show r.ss.length = k + 1 by rw [h0, List.length_append, hk]; rfl)
  obtain ⟨g, c, rfl, hgb, hgw⟩ := H.own.form (by rw [HL0.out]; omega)
  have hc4 := (nine_cells H.box).2.2.2.2.1
  have hown := H.own
  rw [HL0.out] at hc4 hown
  have hnw : (Value.slice (some ⟨g, 0, none⟩) r.ss.length c).ownBlock ≠ some W.heap.size := fun e => by have := (H.own.lt _ e).2; omega
  have hlb := H.lb
  have HNW := Lib.hid (And.intro hnw hlb)
  have hpk := prow_at r.ss k p (by rw [h0, ← hk]; simp)
  have hp0 : W.cell? ⟨g, k * 2, none⟩ = some (.int .i64 p.1) := by rw [hown.cellAt (k * 2) (by omega), hpk.1]
  have hp1 : W.cell? ⟨g, k * 2 + 1, none⟩ = some (.int .i64 p.2) := by rw [hown.cellAt (k * 2 + 1) (by omega), hpk.2]
  have hkc : k + 1 ≤ c := by obtain ⟨_, _, hv, h1, _⟩ := own_formV hown; injection hv with _ _ hv; omega
  have hkb : k ≤ 1000000 := by omega
  have HO := Lib.hid hown
  have HKL := Lib.hid hk
  have H0 := Lib.hid h0
  clear H hnw hlb hpk hown hk h0
  have HB := Lib.hid (below_al (Below.refl W.heap.size W) (.cells #[.int .i64 0, .int .i64 0] 42))
  have hw1 : IntKind.i64.wrap ((k : Int) + 1 - 1) = (k : Int) := by simp [IntKind.wrap, IntKind.bits, IntKind.signed]; omega
  have hw2 : IntKind.i64.wrap (k : Int) = (k : Int) := by simp [IntKind.wrap, IntKind.bits, IntKind.signed]; omega
  have hne : ((k : Int) + 1 == 0) = false := by simp; omega
  have hk0 : (0 : Int) ≤ (k : Int) := by omega
  have hk1 : (k : Int) < (k : Int) + 1 := by omega
  have hk2 : (k : Int) ≤ (c : Int) := by omega
  go_enter Try.func34, Try.ntmps34
  go_upto_region 4 with fail
  have HH1 := Lib.hid (HH.out.up HB.out)
  have hz1 := HB.out.size
  have hx1 : (W.alloc (.cells #[.int .i64 0, .int .i64 0] 42)).heap[W.heap.size]? = _ := World.alloc_heap_new W _
  have KS := Lib.hid (fun (w' : World) (hb : Below W.heap.size W w') => show w'.cell? ⟨b, 4, none⟩ = some (.slice (some ⟨g, 0, none⟩) (k + 1) c) ∧ w'.cell? ⟨g, k * 2, none⟩ = some (.int .i64 p.1) ∧ w'.cell? ⟨g, k * 2 + 1, none⟩ = some (.int .i64 p.2) from ⟨(hb.cell (p := ⟨b, 4, none⟩) hz).trans hc4, (hb.cell (p := ⟨g, k * 2, none⟩) hgw).trans hp0, (hb.cell (p := ⟨g, k * 2 + 1, none⟩) hgw).trans hp1⟩)
  generalize hW1 : W.alloc (.cells #[.int .i64 0, .int .i64 0] 42) = W1 at HB HH1 hz1 hx1 ⊢
  have KS := Lib.hid (fun (w' : World) (hb : Below W1.heap.size W1 w') => show w'.cell? ⟨b, 4, none⟩ = some (.slice (some ⟨g, 0, none⟩) (k + 1) c) ∧ w'.cell? ⟨g, k * 2, none⟩ = some (.int .i64 p.1) ∧ w'.cell? ⟨g, k * 2 + 1, none⟩ = some (.int .i64 p.2) ∧ Below W1.heap.size W1 w' from ⟨(KS.out w' (below_on HB.out hb)).1, (KS.out w' (below_on HB.out hb)).2.1, (KS.out w' (below_on HB.out hb)).2.2, hb⟩)
  refine regN_start (N := 15) (S := (fun w' => w'.cell? ⟨b, 4, none⟩ = some (.slice (some ⟨g, 0, none⟩) (k + 1) c) ∧ w'.cell? ⟨g, k * 2, none⟩ = some (.int .i64 p.1) ∧ w'.cell? ⟨g, k * 2 + 1, none⟩ = some (.int .i64 p.2) ∧ Below W1.heap.size W1 w')) (by kernel_rfl) ?_
  change wpAnyN _ _ _ _ _ _ _ #[false, false, false, false, false, false, false, false, false, false, false, false, false, false, false, false] _ (World.drew _)
  have hS0 := KS.out _ (Below.refl W1.heap.size W1).drew
  refine regN_take (i := 0) (d := (some 14)) (v := ?v4x1) (l2 := #[true, false, false, false, false, false, false, false, false, false, false, false, false, false, false, false]) rfl rfl rfl (by kernel_rfl) (by kernel_rfl) (by kernel_rfl) (by kernel_rfl) (fun _ _ _ h => h) (by rfl) ?hv4x1 hS0 ?h4x1
  case hv4x1 => intro u hSu; clear hSu; go_simp; (try with_reducible rfl)
  (try simp only [Act.put, List.setIfInBounds_toArray, List.set_cons_zero, List.set_cons_succ])
  refine regN_take (i := 1) (d := (some 15)) (v := ?v4x2) (l2 := #[true, true, false, false, false, false, false, false, false, false, false, false, false, false, false, false]) rfl rfl rfl (by kernel_rfl) (by kernel_rfl) (by kernel_rfl) (by kernel_rfl) (fun _ _ _ h => h) (by rfl) ?hv4x2 hS0 ?h4x2
  case hv4x2 => intro u hSu; clear hSu; go_simp; (try with_reducible rfl)
  (try simp only [Act.put, List.setIfInBounds_toArray, List.set_cons_zero, List.set_cons_succ])
  refine regN_take (i := 2) (d := (some 16)) (v := ?v4x3) (l2 := #[true, true, true, false, false, false, false, false, false, false, false, false, false, false, false, false]) rfl rfl rfl (by kernel_rfl) (by kernel_rfl) (by kernel_rfl) (by kernel_rfl) (fun _ _ _ h => h) (by rfl) ?hv4x3 hS0 ?h4x3
  case hv4x3 => intro u hSu; clear hSu; go_simp; (try with_reducible rfl)
  (try simp only [Act.put, List.setIfInBounds_toArray, List.set_cons_zero, List.set_cons_succ])
  refine regN_take (i := 3) (d := (some 17)) (v := ?v4x4) (l2 := #[true, true, true, true, false, false, false, false, false, false, false, false, false, false, false, false]) rfl rfl rfl (by kernel_rfl) (by kernel_rfl) (by kernel_rfl) (by kernel_rfl) (fun _ _ _ h => h) (by rfl) ?hv4x4 hS0 ?h4x4
  case hv4x4 => intro u hSu; clear hSu; go_simp; (try with_reducible rfl)
  (try simp only [Act.put, List.setIfInBounds_toArray, List.set_cons_zero, List.set_cons_succ])
  refine regN_take (i := 4) (d := (some 18)) (v := ?v4x5) (l2 := #[true, true, true, true, true, false, false, false, false, false, false, false, false, false, false, false]) rfl rfl rfl (by kernel_rfl) (by kernel_rfl) (by kernel_rfl) (by kernel_rfl) (fun _ _ _ h => h) (by rfl) ?hv4x5 hS0 ?h4x5
  case hv4x5 => intro u hSu; (try dsimp only at hSu); (try go_split_ands); go_simp; (try with_reducible rfl)
  (try simp only [Act.put, List.setIfInBounds_toArray, List.set_cons_zero, List.set_cons_succ])
  refine regN_take (i := 5) (d := (some 19)) (v := ?v4x6) (l2 := #[true, true, true, true, true, true, false, false, false, false, false, false, false, false, false, false]) rfl rfl rfl (by kernel_rfl) (by kernel_rfl) (by kernel_rfl) (by kernel_rfl) (fun _ _ _ h => h) (by rfl) ?hv4x6 hS0 ?h4x6
  case hv4x6 => intro u hSu; clear hSu; go_simp; (try with_reducible rfl)
  (try simp only [Act.put, List.setIfInBounds_toArray, List.set_cons_zero, List.set_cons_succ])
  refine regN_take (i := 6) (d := (some 20)) (v := ?v4x7) (l2 := #[true, true, true, true, true, true, true, false, false, false, false, false, false, false, false, false]) rfl rfl rfl (by kernel_rfl) (by kernel_rfl) (by kernel_rfl) (by kernel_rfl) (fun _ _ _ h => h) (by rfl) ?hv4x7 hS0 ?h4x7
  case hv4x7 => intro u hSu; clear hSu; go_simp; (try with_reducible rfl)
  (try simp only [Act.put, List.setIfInBounds_toArray, List.set_cons_zero, List.set_cons_succ])
  refine regN_take (i := 7) (d := (some 21)) (v := ?v4x8) (l2 := #[true, true, true, true, true, true, true, true, false, false, false, false, false, false, false, false]) rfl rfl rfl (by kernel_rfl) (by kernel_rfl) (by kernel_rfl) (by kernel_rfl) (fun _ _ _ h => h) (by rfl) ?hv4x8 hS0 ?h4x8
  case hv4x8 => intro u hSu; clear hSu; go_simp; (try with_reducible rfl)
  (try simp only [Act.put, List.setIfInBounds_toArray, List.set_cons_zero, List.set_cons_succ])
  refine regN_take (i := 8) (d := (some 22)) (v := ?v4x9) (l2 := #[true, true, true, true, true, true, true, true, true, false, false, false, false, false, false, false]) rfl rfl rfl (by kernel_rfl) (by kernel_rfl) (by kernel_rfl) (by kernel_rfl) (fun _ _ _ h => h) (by rfl) ?hv4x9 hS0 ?h4x9
  case hv4x9 => intro u hSu; clear hSu; go_simp; (try with_reducible rfl)
  (try simp only [Act.put, List.setIfInBounds_toArray, List.set_cons_zero, List.set_cons_succ])
  refine regN_take (i := 9) (d := (some 23)) (v := ?v4x10) (l2 := #[true, true, true, true, true, true, true, true, true, true, false, false, false, false, false, false]) rfl rfl rfl (by kernel_rfl) (by kernel_rfl) (by kernel_rfl) (by kernel_rfl) (fun _ _ _ h => h) (by rfl) ?hv4x10 hS0 ?h4x10
  case hv4x10 => intro u hSu; (try dsimp only at hSu); (try go_split_ands); go_simp; (try with_reducible rfl)
  (try simp only [Act.put, List.setIfInBounds_toArray, List.set_cons_zero, List.set_cons_succ])
  refine regN_take (i := 10) (d := (some 24)) (v := ?v4x11) (l2 := #[true, true, true, true, true, true, true, true, true, true, true, false, false, false, false, false]) rfl rfl rfl (by kernel_rfl) (by kernel_rfl) (by kernel_rfl) (by kernel_rfl) (fun _ _ _ h => h) (by rfl) ?hv4x11 hS0 ?h4x11
  case hv4x11 => intro u hSu; clear hSu; go_simp; (try with_reducible rfl)
  (try simp only [Act.put, List.setIfInBounds_toArray, List.set_cons_zero, List.set_cons_succ])
  refine regN_take (i := 11) (d := (some 25)) (v := ?v4x12) (l2 := #[true, true, true, true, true, true, true, true, true, true, true, true, false, false, false, false]) rfl rfl rfl (by kernel_rfl) (by kernel_rfl) (by kernel_rfl) (by kernel_rfl) (fun _ _ _ h => h) (by rfl) ?hv4x12 hS0 ?h4x12
  case hv4x12 => intro u hSu; clear hSu; go_simp; (try with_reducible rfl)
  (try simp only [Act.put, List.setIfInBounds_toArray, List.set_cons_zero, List.set_cons_succ])
  refine regN_take (i := 12) (d := (some 26)) (v := ?v4x13) (l2 := #[true, true, true, true, true, true, true, true, true, true, true, true, true, false, false, false]) rfl rfl rfl (by kernel_rfl) (by kernel_rfl) (by kernel_rfl) (by kernel_rfl) (fun _ _ _ h => h) (by rfl) ?hv4x13 hS0 ?h4x13
  case hv4x13 => intro u hSu; clear hSu; go_simp; (try with_reducible rfl)
  (try simp only [Act.put, List.setIfInBounds_toArray, List.set_cons_zero, List.set_cons_succ])
  refine regN_take (i := 13) (d := (some 27)) (v := ?v4x14) (l2 := #[true, true, true, true, true, true, true, true, true, true, true, true, true, true, false, false]) rfl rfl rfl (by kernel_rfl) (by kernel_rfl) (by kernel_rfl) (by kernel_rfl) (fun _ _ _ h => h) (by rfl) ?hv4x14 hS0 ?h4x14
  case hv4x14 => intro u hSu; (try dsimp only at hSu); (try go_split_ands); go_simp; (try with_reducible rfl)
  (try simp only [Act.put, List.setIfInBounds_toArray, List.set_cons_zero, List.set_cons_succ])
  refine regN_ready (rs := [14]) (by kernel_rfl) (by simp) ?_
  refine (AllN.cons (i := 14) (l2 := #[true, true, true, true, true, true, true, true, true, true, true, true, true, true, true, false]) rfl rfl (fun K hK => ?_) AllN.nil)
  go_simp
  have hS1 : ((fun w' => w'.cell? ⟨b, 4, none⟩ = some (.slice (some ⟨g, 0, none⟩) (k + 1) c) ∧ w'.cell? ⟨g, k * 2, none⟩ = some (.int .i64 p.1) ∧ w'.cell? ⟨g, k * 2 + 1, none⟩ = some (.int .i64 p.2) ∧ Below W1.heap.size W1 w') : World → Prop) _ := KS.out _ (below_al (Below.refl W1.heap.size W1).drew (.cells #[.int .i64 0, .int .i64 0] 42))
  refine hK _ _ (fun _ => hS1) ?_
  clear hK K
  (try simp only [Act.put, List.setIfInBounds_toArray, List.set_cons_zero, List.set_cons_succ])
  refine regN_ready (rs := [15]) (by kernel_rfl) (by simp) ?_
  refine (AllN.cons (i := 15) (l2 := #[true, true, true, true, true, true, true, true, true, true, true, true, true, true, true, true]) rfl rfl (fun K hK => ?_) AllN.nil)
  have hz15 : W1.heap.size < (W1.drew.alloc (.cells #[.int .i64 0, .int .i64 0] 42)).heap.size := by simp
  go_simp
  refine hK _ _ (fun h => absurd rfl h) ?_
  clear hK K
  (try simp only [Act.put, List.setIfInBounds_toArray, List.set_cons_zero, List.set_cons_succ])
  refine regN_done (by kernel_rfl) ?_ _
  have hb3 : Below W1.heap.size W1 (W1.alloc (.cells #[.int .i64 p.1, .int .i64 p.2] 42)).drew := (below_al (Below.refl W1.heap.size W1) _).drew
  have hx3 : (W1.alloc (.cells #[.int .i64 p.1, .int .i64 p.2] 42)).drew.heap[W1.heap.size]? = some (.cells #[.int .i64 p.1, .int .i64 p.2] 42) := World.alloc_heap_new W1 _
  have hzz : W1.heap.size < (W1.alloc (.cells #[.int .i64 p.1, .int .i64 p.2] 42)).drew.heap.size := by simp
  clear hS0 hS1 hz15 KS
  generalize (W1.alloc (.cells #[.int .i64 p.1, .int .i64 p.2] 42)).drew = W3 at hb3 hx3 hzz ⊢
  have HH3 := Lib.hid (HH1.out.up hb3)
  have HX3 := Lib.hid hx3
  have hx1' := (hb3.block W.heap.size (lt_heapV hx1)).trans hx1
  have HX1 := Lib.hid hx1'
  have hbc := (nine_cells HH3.out.box).2.2.2.2.1
  rw [HL0.out] at hbc
  have hbf := frozV HH3.out.box 4
  have hbz := lt_heapV HH3.out.box
  have hset := heap_setCell_same W3 b 4 _ _ (.slice (some ⟨g, 0, none⟩) k c) HH3.out.box
  have HSET := Lib.hid hset
  have HB3 := Lib.hid hb3
  have hWW : W.heap.size ≠ W1.heap.size := by rw [← hW1]; simp
  have hW0 : W.heap.size < W3.heap.size := lt_heapV HX1.out
  clear hx3 hx1' hset hb3
  have KS5 := Lib.hid (show W3.drew.cell? ⟨b, 4, none⟩ = some (.slice (some ⟨g, 0, none⟩) (k + 1) c) from hbc)
  go_wp2
  refine regN_start (N := 17) (S := (fun w' => w'.cell? ⟨b, 4, none⟩ = some (.slice (some ⟨g, 0, none⟩) (k + 1) c))) (by kernel_rfl) ?_
  change wpAnyN _ _ _ _ _ _ _ #[false, false, false, false, false, false, false, false, false, false, false, false, false, false, false, false, false, false] _ (World.drew _)
  have hS0 := KS5.out
  refine regN_take (i := 0) (d := (some 28)) (v := ?v5x1) (l2 := #[true, false, false, false, false, false, false, false, false, false, false, false, false, false, false, false, false, false]) rfl rfl rfl (by kernel_rfl) (by kernel_rfl) (by kernel_rfl) (by kernel_rfl) (fun _ _ _ h => h) (by rfl) ?hv5x1 hS0 ?h5x1
  case hv5x1 => intro u hSu; clear hSu; go_simp; (try with_reducible rfl)
  (try simp only [Act.put, List.setIfInBounds_toArray, List.set_cons_zero, List.set_cons_succ])
  refine regN_take (i := 1) (d := (some 29)) (v := ?v5x2) (l2 := #[true, true, false, false, false, false, false, false, false, false, false, false, false, false, false, false, false, false]) rfl rfl rfl (by kernel_rfl) (by kernel_rfl) (by kernel_rfl) (by kernel_rfl) (fun _ _ _ h => h) (by rfl) ?hv5x2 hS0 ?h5x2
  case hv5x2 => intro u hSu; clear hSu; go_simp; (try with_reducible rfl)
  (try simp only [Act.put, List.setIfInBounds_toArray, List.set_cons_zero, List.set_cons_succ])
  refine regN_take (i := 2) (d := (some 30)) (v := ?v5x3) (l2 := #[true, true, true, false, false, false, false, false, false, false, false, false, false, false, false, false, false, false]) rfl rfl rfl (by kernel_rfl) (by kernel_rfl) (by kernel_rfl) (by kernel_rfl) (fun _ _ _ h => h) (by rfl) ?hv5x3 hS0 ?h5x3
  case hv5x3 => intro u hSu; clear hSu; go_simp; (try with_reducible rfl)
  (try simp only [Act.put, List.setIfInBounds_toArray, List.set_cons_zero, List.set_cons_succ])
  refine regN_take (i := 3) (d := (some 31)) (v := ?v5x4) (l2 := #[true, true, true, true, false, false, false, false, false, false, false, false, false, false, false, false, false, false]) rfl rfl rfl (by kernel_rfl) (by kernel_rfl) (by kernel_rfl) (by kernel_rfl) (fun _ _ _ h => h) (by rfl) ?hv5x4 hS0 ?h5x4
  case hv5x4 => intro u hSu; clear hSu; go_simp; (try with_reducible rfl)
  (try simp only [Act.put, List.setIfInBounds_toArray, List.set_cons_zero, List.set_cons_succ])
  refine regN_take (i := 4) (d := (some 32)) (v := ?v5x5) (l2 := #[true, true, true, true, true, false, false, false, false, false, false, false, false, false, false, false, false, false]) rfl rfl rfl (by kernel_rfl) (by kernel_rfl) (by kernel_rfl) (by kernel_rfl) (fun _ _ _ h => h) (by rfl) ?hv5x5 hS0 ?h5x5
  case hv5x5 => intro u hSu; clear hSu; go_simp; (try with_reducible rfl)
  (try simp only [Act.put, List.setIfInBounds_toArray, List.set_cons_zero, List.set_cons_succ])
  refine regN_take (i := 5) (d := (some 33)) (v := ?v5x6) (l2 := #[true, true, true, true, true, true, false, false, false, false, false, false, false, false, false, false, false, false]) rfl rfl rfl (by kernel_rfl) (by kernel_rfl) (by kernel_rfl) (by kernel_rfl) (fun _ _ _ h => h) (by rfl) ?hv5x6 hS0 ?h5x6
  case hv5x6 => intro u hSu; (try dsimp only at hSu); (try go_split_ands); go_simp; (try with_reducible rfl)
  (try simp only [Act.put, List.setIfInBounds_toArray, List.set_cons_zero, List.set_cons_succ])
  refine regN_take (i := 6) (d := (some 34)) (v := ?v5x7) (l2 := #[true, true, true, true, true, true, true, false, false, false, false, false, false, false, false, false, false, false]) rfl rfl rfl (by kernel_rfl) (by kernel_rfl) (by kernel_rfl) (by kernel_rfl) (fun _ _ _ h => h) (by rfl) ?hv5x7 hS0 ?h5x7
  case hv5x7 => intro u hSu; clear hSu; go_simp; (try with_reducible rfl)
  (try simp only [Act.put, List.setIfInBounds_toArray, List.set_cons_zero, List.set_cons_succ])
  refine regN_take (i := 7) (d := (some 35)) (v := ?v5x8) (l2 := #[true, true, true, true, true, true, true, true, false, false, false, false, false, false, false, false, false, false]) rfl rfl rfl (by kernel_rfl) (by kernel_rfl) (by kernel_rfl) (by kernel_rfl) (fun _ _ _ h => h) (by rfl) ?hv5x8 hS0 ?h5x8
  case hv5x8 => intro u hSu; clear hSu; go_simp; (try with_reducible rfl)
  (try simp only [Act.put, List.setIfInBounds_toArray, List.set_cons_zero, List.set_cons_succ])
  refine regN_take (i := 8) (d := (some 36)) (v := ?v5x9) (l2 := #[true, true, true, true, true, true, true, true, true, false, false, false, false, false, false, false, false, false]) rfl rfl rfl (by kernel_rfl) (by kernel_rfl) (by kernel_rfl) (by kernel_rfl) (fun _ _ _ h => h) (by rfl) ?hv5x9 hS0 ?h5x9
  case hv5x9 => intro u hSu; clear hSu; go_simp; (try with_reducible rfl)
  (try simp only [Act.put, List.setIfInBounds_toArray, List.set_cons_zero, List.set_cons_succ])
  refine regN_take (i := 9) (d := (some 37)) (v := ?v5x10) (l2 := #[true, true, true, true, true, true, true, true, true, true, false, false, false, false, false, false, false, false]) rfl rfl rfl (by kernel_rfl) (by kernel_rfl) (by kernel_rfl) (by kernel_rfl) (fun _ _ _ h => h) (by rfl) ?hv5x10 hS0 ?h5x10
  case hv5x10 => intro u hSu; clear hSu; go_simp; (try with_reducible rfl)
  (try simp only [Act.put, List.setIfInBounds_toArray, List.set_cons_zero, List.set_cons_succ])
  refine regN_take (i := 10) (d := (some 38)) (v := ?v5x11) (l2 := #[true, true, true, true, true, true, true, true, true, true, true, false, false, false, false, false, false, false]) rfl rfl rfl (by kernel_rfl) (by kernel_rfl) (by kernel_rfl) (by kernel_rfl) (fun _ _ _ h => h) (by rfl) ?hv5x11 hS0 ?h5x11
  case hv5x11 => intro u hSu; (try dsimp only at hSu); (try go_split_ands); go_simp; (try with_reducible rfl)
  (try simp only [Act.put, List.setIfInBounds_toArray, List.set_cons_zero, List.set_cons_succ])
  refine regN_take (i := 11) (d := (some 39)) (v := ?v5x12) (l2 := #[true, true, true, true, true, true, true, true, true, true, true, true, false, false, false, false, false, false]) rfl rfl rfl (by kernel_rfl) (by kernel_rfl) (by kernel_rfl) (by kernel_rfl) (fun _ _ _ h => h) (by rfl) ?hv5x12 hS0 ?h5x12
  case hv5x12 => intro u hSu; clear hSu; go_simp; (try with_reducible rfl)
  (try simp only [Act.put, List.setIfInBounds_toArray, List.set_cons_zero, List.set_cons_succ])
  refine regN_take (i := 12) (d := (some 40)) (v := ?v5x13) (l2 := #[true, true, true, true, true, true, true, true, true, true, true, true, true, false, false, false, false, false]) rfl rfl rfl (by kernel_rfl) (by kernel_rfl) (by kernel_rfl) (by kernel_rfl) (fun _ _ _ h => h) (by rfl) ?hv5x13 hS0 ?h5x13
  case hv5x13 => intro u hSu; clear hSu; go_simp; (try with_reducible rfl)
  (try simp only [Act.put, List.setIfInBounds_toArray, List.set_cons_zero, List.set_cons_succ])
  refine regN_take (i := 13) (d := (some 41)) (v := ?v5x14) (l2 := #[true, true, true, true, true, true, true, true, true, true, true, true, true, true, false, false, false, false]) rfl rfl rfl (by kernel_rfl) (by kernel_rfl) (by kernel_rfl) (by kernel_rfl) (fun _ _ _ h => h) (by rfl) ?hv5x14 hS0 ?h5x14
  case hv5x14 => intro u hSu; clear hSu; go_simp; (try with_reducible rfl)
  (try simp only [Act.put, List.setIfInBounds_toArray, List.set_cons_zero, List.set_cons_succ])
  refine regN_takeC [16, 15] (i := 14) (d := (some 42)) (v := ?v5x15) (l2 := #[true, true, true, true, true, true, true, true, true, true, true, true, true, true, true, false, false, false]) rfl rfl rfl (by kernel_rfl) (by kernel_rfl) (by kernel_rfl) (by kernel_rfl) (fun _ _ _ h => h) (by rfl) ?hv5x15 hS0 ?h5x15
  case hv5x15 => intro u hSu; clear hSu; go_simp; (try with_reducible rfl)
  (try simp only [Act.put, List.setIfInBounds_toArray, List.set_cons_zero, List.set_cons_succ])
  refine regN_takeC [16] (i := 15) (d := (some 43)) (v := ?v5x16) (l2 := #[true, true, true, true, true, true, true, true, true, true, true, true, true, true, true, true, false, false]) rfl rfl rfl (by kernel_rfl) (by kernel_rfl) (by kernel_rfl) (by kernel_rfl) (fun _ _ _ h => h) (by rfl) ?hv5x16 hS0 ?h5x16
  case hv5x16 => intro u hSu; clear hSu; go_simp; (try with_reducible rfl)
  (try simp only [Act.put, List.setIfInBounds_toArray, List.set_cons_zero, List.set_cons_succ])
  refine regN_take (i := 16) (d := (some 44)) (v := ?v5x17) (l2 := #[true, true, true, true, true, true, true, true, true, true, true, true, true, true, true, true, true, false]) rfl rfl rfl (by kernel_rfl) (by kernel_rfl) (by kernel_rfl) (by kernel_rfl) (fun _ _ _ h => h) (by rfl) ?hv5x17 hS0 ?h5x17
  case hv5x17 => intro u hSu; clear hSu; go_simp; (try with_reducible rfl)
  (try simp only [Act.put, List.setIfInBounds_toArray, List.set_cons_zero, List.set_cons_succ])
  refine regN_ready (rs := [17]) (by kernel_rfl) (by simp) ?_
  refine (AllN.cons (i := 17) (l2 := #[true, true, true, true, true, true, true, true, true, true, true, true, true, true, true, true, true, true]) rfl rfl (fun K hK => ?_) AllN.nil)
  go_simp
  refine hK _ _ (fun h => absurd rfl h) ?_
  clear hK K
  (try simp only [Act.put, List.setIfInBounds_toArray, List.set_cons_zero, List.set_cons_succ])
  refine regN_done (by kernel_rfl) ?_ _
  have hr5 := (HH3.out.restack (ss := L) (w4 := W3) (sv' := .slice (some ⟨g, 0, none⟩) k c) (by rw [HKL.out]; have := own_short HH3.out.own (m := k) (by rw [HL0.out]; omega); rw [H0.out, ← prow_take, List.take_left' HKL.out] at this; exact this) (World.grownBy.refl _ _) (Or.inl rfl) grown_setV HSET.out)
  have hr6 := hr5.1.up (Below.refl _ _).drew
  have hg5 : W3.grownBy (W3.setCell ⟨b, 4, none⟩ (.slice (some ⟨g, 0, none⟩) k c)).drew (some b) := grown_drw grown_setV
  have hx1 := (hg5.block W.heap.size hW0 (fun e => by have := Option.some.inj e; omega)).trans HX1.out
  have hx3 := (hg5.block W1.heap.size hzz (fun e => by have := Option.some.inj e; omega)).trans HX3.out
  clear hS0 KS5 hbc hbf hbz hzz
  generalize (W3.setCell ⟨b, 4, none⟩ (.slice (some ⟨g, 0, none⟩) k c)).drew = W5 at hr6 hg5 hx1 hx3 ⊢
  obtain ⟨d0, d1⟩ := two_cellsV hx1
  obtain ⟨e0, e1⟩ := two_cellsV hx3
  have hf0 := frozV hx1 0
  have hf1 := frozV hx1 1
  have hw5 := lt_heapV hx1
  have hw6 := lt_heapV hx3
  have HX := Lib.hid hx1
  have HR6 := Lib.hid hr6
  have HG5 := Lib.hid hg5
  clear hr5 hr6 hg5 hx1 hx3
  go_wp2
  have hs1 := heap_setCell_same W5 W.heap.size 0 _ _ (.int .i64 p.1) HX.out
  have hs2 := heap_setCell_same _ W.heap.size 1 _ _ (.int .i64 p.2) hs1
  have hg2 : W5.grownBy ((W5.setCell ⟨W.heap.size, 0, none⟩ (.int .i64 p.1)).setCell ⟨W.heap.size, 1, none⟩ (.int .i64 p.2)) (some W.heap.size) := grown_two grown_setV grown_setV
  obtain ⟨u0, u1⟩ := two_cellsV hs2
  have hxs : (Value.slice (some ⟨g, 0, none⟩) k c).ownBlock ≠ some W.heap.size := HNW.out.1
  refine bodyPost_ret (v := .agg #[.int .i64 p.1, .int .i64 p.2]) ?_ rfl ⟨rfl, _, HR6.out.aside hg2 (by omega) hxs (fun g o s hA hn => by have := HNW.out.2 g o s hA hn; omega) hbw, ?_, Or.inl rfl⟩
  · simp [results, Try.f34, go_sem, *]
  · have hk1 : Kept W W3 b (Value.slice (some ⟨g, 0, none⟩) r.ss.length c) := Kept.of_below (below_on HB.out HB3.out)
    have hk2 : Kept W3 W5 b (Value.slice (some ⟨g, 0, none⟩) r.ss.length c) := Kept.of_grown HG5.out
    exact ((hk1.trans (Lies.refl _ _) hk2)).aside hg2 (Nat.le_refl _)

end Go.Proofs.Ytgiglbjkijlchaa
