/- Layer 42: the reference's hand in memory: take. -/
import Derived.Test.YtgiglbjkijlchaaRa
namespace Go.Proofs.Ytgiglbjkijlchaa
open Go.ChangeShapes Go.WideShapes Go.ChangeAt Go.RowKit Go.PlainAid
set_option linter.unusedSimpArgs false
set_option linter.unusedVariables false

set_option maxRecDepth 100000 in
theorem take_busy {w0 W : World} {b : Nat} {h : Hd8} {r : Rs} {lA : Option Addr} {lc : Nat} {sA : Option Addr} {sc : Nat} (H : HdSt w0 W b h r lA lc sA sc) (k : Int) (h0 : r.ss ≠ []) (he : r.e ≠ 0) :
    Calls Try.prog 37 #[.pointer (some ⟨b, 0, none⟩), .int .i64 k] W (HdRet w0 W b h r lA lc sA sc (.agg #[.int .i64 0, .int .i64 0])) := by
  have HH := Lib.hid H
  obtain ⟨n, hn⟩ : ∃ n, r.ss.length = n := ⟨_, rfl⟩
  have hpos : 0 < n := by rw [← hn]; exact List.length_pos_iff.2 h0
  have hc := nine_cells H.box
  have hc4 := hc.2.2.2.2.1
  have hc8 := hc.2.2.2.2.2.2.2.2
  rw [hn] at hc4
  have hz := lt_heapV H.box
  have hbw := H.bel.size
  have HLB := Lib.hid H.lb
  have he8 : (r.e != 0) = true := by simpa using he
  have hn0 : ((n : Int) == 0) = false := by simp; omega
  clear H h0 hn hc he
  go_enter Try.func37, Try.ntmps37
  go_wp2
  have HB := below_al (Below.refl W.heap.size W) (.cells #[.int .i64 0, .int .i64 0] 42)
  obtain ⟨e0, e1⟩ := two_cellsV (World.alloc_heap_new W (.cells #[.int .i64 0, .int .i64 0] 42))
  refine bodyPost_ret (v := .agg #[.int .i64 0, .int .i64 0]) ?_ rfl ⟨rfl, HH.out.up HB, Kb.of_below HB⟩
  simp [results, Try.f37, go_sem, *]
theorem HdSt.cut {w0 W W' : World} {b : Nat} {h : Hd8} {r : Rs} {lA : Option Addr} {lc k : Nat} {sA : Option Addr} {sc : Nat} {L : List Va} {p : Va} (H : HdSt w0 W b h r lA lc sA sc) (h0 : r.ss = L ++ [p]) (hk : L.length = k) (hg : W.grownBy W' (some b)) (hb : W'.heap[b]? = some (Obj.cells #[Value.int IntKind.i64 (Hd8.cl h), Value.int IntKind.i64 (Hd8.me h), Value.int IntKind.i64 (Hd8.pc h), ((.slice lA r.ls.length lc)), ((.slice sA k sc)), Value.int IntKind.i64 (Hd8.lk h), Value.bool (Hd8.ii h), Value.bool (Hd8.dr h), Value.int IntKind.i64 r.e] 56)) : HdSt w0 W' b h { r with ss := L } lA lc sA sc := by
  have hd : L = r.ss.dropLast := by rw [h0, List.dropLast_concat]
  have hne : r.ss ≠ [] := by rw [h0]; simp
  subst hk
  refine ⟨hb, H.loc.kept hg (fun g o s hA h0 e => H.ol g o s hA h0 (Option.some.inj e).symm), ?_, H.ol, fun g o s hA _ => H.os g o s hA hne, H.ll, ⟨?_, H.sl.2⟩, H.bel.trans (grown_below hg (fun k hk => by injection hk with hk; rw [← hk]; exact H.bb) H.bel.size), H.bb⟩
  · show VRow W' sA L
    rw [hd]
    exact (H.stk.kept hg (fun g o s hA h0 e => H.os g o s hA h0 (Option.some.inj e).symm)).init
  · have := H.sl.1
    show L.length ≤ sc
    rw [h0, List.length_append] at this
    omega
set_option maxRecDepth 100000 in
set_option maxHeartbeats 1000000 in
theorem take_cons {w0 W : World} {b : Nat} {h : Hd8} {r : Rs} {lA : Option Addr} {lc : Nat} {sA : Option Addr} {sc : Nat} {L : List Va} {x y : Int} (H : HdSt w0 W b h r lA lc sA sc) (k : Int) (h0 : r.ss = L ++ [(x, y)]) (he : r.e = 0) (hl : L.length ≤ 1000000) :
    Calls Try.prog 37 #[.pointer (some ⟨b, 0, none⟩), .int .i64 k] W (HdRet w0 W b h (if k ≠ 0 ∧ x ≠ k then failS 22 { r with ss := L } else { r with ss := L }) lA lc sA sc (.agg #[.int .i64 x, .int .i64 y])) := by
  generalize hrr : (if k ≠ 0 ∧ x ≠ k then failS 22 { r with ss := L } else { r with ss := L }) = r'
  have HRR := Lib.hid hrr
  clear hrr
  have HH := Lib.hid H
  obtain ⟨q, hq⟩ : ∃ q, L.length = q := ⟨_, rfl⟩
  have hn : r.ss.length = q + 1 := by rw [h0, List.length_append, hq]; rfl
  have hne : r.ss ≠ [] := by rw [h0]; simp
  have hc := nine_cells H.box
  have hc4 := hc.2.2.2.2.1
  have hc8 := hc.2.2.2.2.2.2.2.2
  rw [hn] at hc4
  rw [he] at hc8
  have hz := lt_heapV H.box
  have hbf := frozV H.box 4
  have hbw := H.bel.size
  have HLB := Lib.hid H.lb
  have hsc : q + 1 ≤ sc := by rw [← hn]; exact H.sl.1
  have hnb := H.os
  rcases H.stk with h1 | ⟨g, o, rfl, hg, hcell⟩
  · exact absurd h1 hne
  obtain ⟨d0, d1⟩ := hcell q (x, y) (by rw [h0, ← hq]; simp)
  dsimp only at d0 d1
  have hgb := hnb g o none rfl hne
  have HQ := Lib.hid hq
  have H0 := Lib.hid h0
  rw [hq] at hl
  have hw : IntKind.i64.wrap ((q : Int) + 1 - 1) = (q : Int) := by rw [IntKind.wrap_i64]; omega
  have hn0 : (((q + 1 : Nat) : Int) == 0) = false := by simp; omega
  clear H h0 hn hc hq hne hnb hcell he
  go_enter Try.func37, Try.ntmps37
  go_upto_region 8 with fail
  have hs1 := heap_setCell_same W b 4 _ _ (.slice (some ⟨g, o, none⟩) q sc) HH.out.box
  have HC := HH.out.cut H0.out HQ.out (grown_setV (w := W) (g := b) (j := 4) (u := .slice (some ⟨g, o, none⟩) q sc)) hs1
  have hK := Kb.of_grown (grown_setV (w := W) (g := b) (j := 4) (u := .slice (some ⟨g, o, none⟩) q sc))
  have hz1 : (W.setCell ⟨b, 4, none⟩ (.slice (some ⟨g, o, none⟩) q sc)).heap.size = W.heap.size := by simp
  generalize W.setCell ⟨b, 4, none⟩ (.slice (some ⟨g, o, none⟩) q sc) = W1 at hs1 HC hK hz1 ⊢
  have R0 := laid_old (o' := (.cells #[.int .i64 x, .int .i64 y] 42)) (World.alloc_heap_new W1 (.cells #[.int .i64 0, .int .i64 0] 42))
  have R1 := World.alloc_heap_new (W1.alloc (.cells #[.int .i64 0, .int .i64 0] 42)) (.cells #[.int .i64 x, .int .i64 y] 42)
  have hsz : (W1.alloc (.cells #[.int .i64 0, .int .i64 0] 42)).heap.size = W1.heap.size + 1 := by simp
  have hsz2 : ((W1.alloc (.cells #[.int .i64 0, .int .i64 0] 42)).alloc (.cells #[.int .i64 x, .int .i64 y] 42)).heap.size = W1.heap.size + 2 := by simp
  rw [hsz, hz1] at R1
  rw [hz1] at R0 hsz2
  have hB := below_al (below_al (Below.refl W1.heap.size W1) (.cells #[.int .i64 0, .int .i64 0] 42)) (.cells #[.int .i64 x, .int .i64 y] 42)
  generalize (W1.alloc (.cells #[.int .i64 0, .int .i64 0] 42)).alloc (.cells #[.int .i64 x, .int .i64 y] 42) = W3 at R0 R1 hB hsz2 ⊢
  have hlt2 : W.heap.size + 2 ≤ W3.heap.size := by omega
  have HC3 := Lib.hid (HC.up hB)
  have HK3 := Lib.hid (hK.trans (Kb.of_below hB))
  have HR0 := Lib.hid R0
  have HR1 := Lib.hid R1
  obtain ⟨v0, v1⟩ := two_cellsV R1
  have y0 := lt_heapV R0
  have f0 := fun j => frozV R0 j
  obtain ⟨z0, z1⟩ := two_cellsV R0
  have y1 := lt_heapV R1
  have HS := HLB.out
  clear R0 R1 hB HC hK hs1 d0 d1 hc4 hc8 hn0 hw HLB hsz hbf hz1 hsz2
  have hz := lt_heapV HC3.out.box
  by_cases hbad : k ≠ 0 ∧ x ≠ k
  · have HF := Lib.hid (hfail_any HC3.out 22)
    have hk0 : (k != 0) = true := by simpa using hbad.1
    have hxk : (x != k) = true := by simpa using hbad.2
    have HE := Lib.hid (show r' = failS 22 { r with ss := L } from HRR.out.symm.trans (if_pos hbad))
    clear hbad
    go_upto_region 10 with (go_at_call 39; refine HF.out.mono ?_; rintro e w4 ⟨rfl, hr4, hk4⟩)
    have HR4 := Lib.hid hr4
    have HK4 := Lib.hid hk4
    have x0 := (hk4.block W.heap.size (by omega) (by omega)).trans HR0.out
    have x1 := (hk4.block (W.heap.size + 1) (by omega) (by omega)).trans HR1.out
    have hs4 := hk4.size
    obtain ⟨v0, v1⟩ := two_cellsV x1
    obtain ⟨z0, z1⟩ := two_cellsV x0
    have f0 := fun j => frozV x0 j
    have HX0 := Lib.hid x0
    clear hr4 hk4 x0 x1
    go_wp2
    have hs5 := heap_setCell_same w4 W.heap.size 0 _ _ (.int .i64 x) HX0.out
    have hs6 := heap_setCell_same _ W.heap.size 1 _ _ (.int .i64 y) hs5
    have hg2 : w4.grownBy ((w4.setCell ⟨W.heap.size, 0, none⟩ (.int .i64 x)).setCell ⟨W.heap.size, 1, none⟩ (.int .i64 y)) (some W.heap.size) := grown_two grown_setV grown_setV
    obtain ⟨e0, e1⟩ := two_cellsV hs6
    rw [HE.out]
    refine bodyPost_ret (v := .agg #[.int .i64 x, .int .i64 y]) ?_ rfl ⟨rfl, HR4.out.aside hg2 (by omega) (fun g o s hA hn => by have := HS.1 g o s hA (by rw [failS_ls] at hn; exact hn); omega) (fun g o s hA hn => by have := HS.2 g o s hA (by rw [H0.out]; simp); omega) (by omega), (HK3.out.trans HK4.out).aside hg2 (by omega)⟩
    simp [results, Try.f37, go_sem, *]
  · have HE := Lib.hid (show r' = { r with ss := L } from HRR.out.symm.trans (if_neg hbad))
    have hor : (k != 0) = false ∨ ((k != 0) = true ∧ (x != k) = false) := by
      simp
      omega
    clear hbad
    rcases hor with hk0 | ⟨hk0, hxk⟩
    all_goals
      go_wp2
      have hs5 := heap_setCell_same W3 W.heap.size 0 _ _ (.int .i64 x) HR0.out
      have hs6 := heap_setCell_same _ W.heap.size 1 _ _ (.int .i64 y) hs5
      have hg2 : W3.grownBy ((W3.setCell ⟨W.heap.size, 0, none⟩ (.int .i64 x)).setCell ⟨W.heap.size, 1, none⟩ (.int .i64 y)) (some W.heap.size) := grown_two grown_setV grown_setV
      obtain ⟨e0, e1⟩ := two_cellsV hs6
      rw [HE.out]
      refine bodyPost_ret (v := .agg #[.int .i64 x, .int .i64 y]) ?_ rfl ⟨rfl, HC3.out.aside hg2 (by omega) (fun g o s hA hn => by have := HS.1 g o s hA hn; omega) (fun g o s hA hn => by have := HS.2 g o s hA (by rw [H0.out]; simp); omega) (by omega), HK3.out.aside hg2 (by omega)⟩
      simp [results, Try.f37, go_sem, *]
theorem take_any {w0 W : World} {b : Nat} {h : Hd8} {r : Rs} {lA : Option Addr} {lc : Nat} {sA : Option Addr} {sc : Nat} (H : HdSt w0 W b h r lA lc sA sc) (k : Int) (hl : r.ss.length ≤ 1000000) :
    Calls Try.prog 37 #[.pointer (some ⟨b, 0, none⟩), .int .i64 k] W (HdRet w0 W b h (takeS k r) lA lc sA sc (.agg #[.int .i64 (takeV r).1, .int .i64 (takeV r).2])) := by
  rcases Classical.em (r.ss = []) with h0 | h0
  · rw [show takeS k r = failS 20 r from if_pos h0, show takeV r = (0, 0) from if_pos (Or.inl h0)]
    exact take_nil H k h0
  · by_cases he : r.e = 0
    · have hd := List.dropLast_concat_getLast h0
      have := take_cons (x := (r.ss.getLast h0).1) (y := (r.ss.getLast h0).2) (L := r.ss.dropLast) H k hd.symm he (by rw [List.length_dropLast]; omega)
      have ht : topV r.ss = r.ss.getLast h0 := by unfold topV; rw [List.getLast?_eq_some_getLast h0]; rfl
      rw [show takeV r = topV r.ss from if_neg (fun g => g.elim h0 (fun g => g he)), ht]
      rw [show takeS k r = _ from (if_neg h0).trans (if_neg (fun g => g he)), ht]
      exact this
    · rw [show takeS k r = r from (if_neg h0).trans (if_pos he), show takeV r = (0, 0) from if_pos (Or.inr he)]
      exact take_busy H k h0 he
end Go.Proofs.Ytgiglbjkijlchaa
