/- Layer 42: Clone, setLocal (written by gen/boset.py). -/
import Derived.Test.YtgiglbjkijlchaaRl
namespace Go.Proofs.Ytgiglbjkijlchaa
open Go.ChangeShapes Go.WideShapes Go.ChangeAt Go.RowKit Go.PlainAid
set_option linter.unusedSimpArgs false
set_option linter.unusedVariables false

theorem own_litV {w : World} {B : Nat} (hB : B ≤ w.heap.size) : (w.alloc (.cells #[] 42)).ownsRow B 42 2 (.slice (some ⟨w.heap.size, 0, none⟩) 0 0) 0 (prow []) :=
  ⟨rfl, Or.inr ⟨w.heap.size, 0, #[], rfl, hB, World.alloc_heap_new _ _, Nat.zero_le _, Nat.zero_le _, rfl, rfl⟩⟩
/-- a new row of values -/
def ValsNew (w : World) (n : Nat) (L : List Va) (e : Ending) (w' : World) : Prop :=
  ∃ g c, e = .returned (.slice (some ⟨g, 0, none⟩) n c) ∧ w'.ownsRow w.heap.size 42 2 (.slice (some ⟨g, 0, none⟩) n c) n (prow L) ∧ Below w.heap.size w w'
set_option maxRecDepth 100000 in
theorem clone_any {w : World} {A : Option Addr} {n c : Nat} {L : List Va} (h : VRow w A L) (hn : L.length = n) (h0 : 0 < n) (hb : n ≤ 1000000) :
    Calls Try.prog 52 #[.slice A n c] w (ValsNew w n L) := by
  rcases h with h1 | ⟨g, o, rfl, hg, hc⟩
  · rw [h1] at hn; simp at hn; omega
  · have HV := Lib.hid (show VRow w (some ⟨g, o, none⟩) L from Or.inr ⟨g, o, rfl, hg, hc⟩)
    have HN := Lib.hid hn
    have heq : ∀ u, (binOp .eql 22 (.slice (some ⟨g, o, none⟩) n c) (.slice none 0 0)).run Try.prog u = .ok (.bool false) u := fun u => by kernel_rfl
    clear hc hn
    go_enter Try.func52, Try.ntmps52
    go_wp2_with (at_builtin; refine wpList_app (by rfl) _ _ (by rfl) w.heap.size 0 n c [] L _ _ (by rfl) (own_litV (Nat.le_refl _)) (by rfl) HN.out h0 (HV.out.up (below_al (Below.refl _ _) _)).news (by omega) (by simp) ?_; intro A4 c4 w4 ho4 hg4 hl4)
    go_ret
    rw [Nat.zero_add, List.nil_append] at ho4
    obtain ⟨g4, c5, hv, hg5, _⟩ := ho4.form h0
    injection hv with h1 _ h2
    subst h1 h2
    exact ⟨g4, c4, rfl, ho4, (below_al (Below.refl w.heap.size w) _).trans (grown_below hg4 (fun k hk => by have e2 : w.heap.size = k := Option.some.inj hk; omega) (below_al (Below.refl w.heap.size w) _).size)⟩
def setS (n : Int) (v : Va) (r : Rs) : Rs := if 0 ≤ n ∧ n < r.ls.length then { r with ls := r.ls.set n.toNat v } else failS 21 r
theorem setS_ss (n : Int) (v : Va) (r : Rs) : (setS n v r).ss = r.ss := by unfold setS; split; rfl; exact failS_ss _ _
theorem setS_ls (n : Int) (v : Va) (r : Rs) : (setS n v r).ls.length = r.ls.length := by unfold setS; split; simp; rw [failS_ls]
def SlRet (w0 W : World) (b : Nat) (h : Hd8) (r' : Rs) (lA : Option Addr) (sv : Value) (e : Ending) (W' : World) : Prop :=
  e = .returned (.tuple #[]) ∧ ∃ lA' lc' sv', RunSt w0 W' b h r' lA' lc' sv' ∧ Kept W W' b sv ∧ Lies W sv sv' ∧ (lA' = lA ∨ ∀ g o s, lA' = some ⟨g, o, s⟩ → W.heap.size ≤ g)
theorem prow_set : ∀ (L : List Va) (k : Nat) (v : Va), prow (L.set k v) = ((prow L).set (k * 2) (.int .i64 v.1)).set (k * 2 + 1) (.int .i64 v.2)
  | [], k, v => by simp [prow]
  | p :: L, 0, v => rfl
  | p :: L, k + 1, v => by
    have ih := prow_set L k v
    rw [show (k + 1) * 2 = k * 2 + 1 + 1 by omega, List.set_cons_succ]
    show Value.int .i64 p.1 :: Value.int .i64 p.2 :: prow (L.set k v) = _
    rw [ih]; rfl
set_option maxRecDepth 100000 in
set_option maxHeartbeats 1000000 in
theorem setLocal_any {w0 W : World} {b : Nat} {h : Hd8} {r : Rs} {lA : Option Addr} {lc : Nat} {sv : Value} (n x y : Int) (H : RunSt w0 W b h r lA lc sv) (hlb : r.ls.length ≤ 1000000) :
    Calls Try.prog 36 #[.pointer (some ⟨b, 0, none⟩), .int .i64 n, .agg #[.int .i64 x, .int .i64 y]] W (SlRet w0 W b h (setS n (x, y) r) lA sv) := by
  have HH := Lib.hid H
  have hz := lt_heapV H.box
  have hbw := H.bel.size
  have hb1 := below_al (Below.refl W.heap.size W) (.cells #[.int .i64 x, .int .i64 y] 42)
  have HB1 := Lib.hid hb1
  have HF := Lib.hid (fail_any (H.up hb1) 21)
  obtain ⟨c0, c1, c2, c3, c4, c5, c6, c7, c8⟩ := nine_cells H.box
  obtain ⟨m, hm⟩ : ∃ m, r.ls.length = m := ⟨_, rfl⟩
  have HM := Lib.hid hm
  rw [hm] at c3 hlb
  clear hm hb1 H
  by_cases h0 : n < 0
  · have HV := Lib.hid (show setS n (x, y) r = failS 21 r from if_neg (by omega))
    go_enter Try.func36, Try.ntmps36
    go_wp2_with (go_at_call 32; refine HF.out.mono ?_; rintro e w4 ⟨rfl, sv4, hr4, hk4, hl4⟩)
    go_end0
    rw [HV.out]
    exact ⟨rfl, lA, lc, sv4, hr4, (Kept.of_below HB1.out).trans (Lies.refl _ _) hk4, lies_alV hl4, Or.inl rfl⟩
  · obtain ⟨j, rfl⟩ : ∃ j : Nat, n = (j : Int) := ⟨n.toNat, by omega⟩
    by_cases h1 : j < m
    · have HV := Lib.hid (show setS j (x, y) r = { r with ls := r.ls.set j (x, y) } from if_pos (by rw [HM.out]; omega))
      have hj0 : (0 : Int) ≤ (j : Int) := by omega
      have hj1 : (j : Int) < (m : Int) := by omega
      have HCL := Lib.hid (fun (u : World) (hu : Below W.heap.size W u) => clone_any (w := u) (c := lc) (HH.out.loc.up hu) HM.out (by omega) hlb)
      have f3 := frozV HH.out.box 3
      have hnw : sv.ownBlock ≠ some W.heap.size := fun e => by have := (HH.out.own.lt _ e).2; omega
      go_enter Try.func36, Try.ntmps36
      go_upto_region 3 with fail
      go_wp2_with (go_at_call 52; refine (HCL.out _ (by first | exact HB1.out | exact HB1.out.drew)).mono ?_; rintro e w4 ⟨gl, cl, rfl, ho4, hb4⟩; have hbx := (hb4.block b (by simp; omega)).trans ((HB1.out.block b hz).trans HH.out.box); have hbc := (nine_cells hbx).2.2.2.1; have hbf := frozV hbx 3; have hbz := lt_heapV hbx)
      have hset := heap_setCell_same w4 b 3 _ _ (.slice (some ⟨gl, 0, none⟩) m cl) hbx
      have hglw := (ho4.lt gl rfl)
      simp at hglw
      have hx4 := (hb4.block W.heap.size (by simp)).trans (World.alloc_heap_new W (.cells #[.int .i64 x, .int .i64 y] 42))
      have hx5 := (heap_setCell_other w4 ⟨b, 3, none⟩ W.heap.size (.slice (some ⟨gl, 0, none⟩) m cl) (by show W.heap.size ≠ b; omega)).trans hx4
      have ho5 := ho4.kept (grown_setV (w := w4) (g := b) (j := 3) (u := .slice (some ⟨gl, 0, none⟩) m cl)) (Or.inr (fun e => by have e2 : gl = b := Option.some.inj e; omega))
      have hr4 := HH.out.up (below_on HB1.out hb4)
      have hsk := hr4.own.kept (grown_setV (w := w4) (g := b) (j := 3) (u := .slice (some ⟨gl, 0, none⟩) m cl)) (Or.inr hr4.nb)
      have hgr := grown_setV (w := w4) (g := b) (j := 3) (u := .slice (some ⟨gl, 0, none⟩) m cl)
      have hbw4 : Below w0.heap.size w0 (w4.setCell ⟨b, 3, none⟩ (.slice (some ⟨gl, 0, none⟩) m cl)) := below_st hr4.bel HH.out.bb _
      generalize w4.setCell ⟨b, 3, none⟩ (.slice (some ⟨gl, 0, none⟩) m cl) = W5 at hset hx5 ho5 hsk hgr hbw4 ⊢
      have hbc5 := (nine_cells (a := .int .i64 h.cl) (b := .int .i64 h.me) (c := .int .i64 h.pc) (d := .slice (some ⟨gl, 0, none⟩) m cl) (e := sv) (f := .int .i64 h.lk) (g := .bool h.ii) (h := .bool h.dr) (i := .int .i64 r.e) hset).2.2.2.1
      obtain ⟨t0, t1⟩ := two_cellsV hx5
      have hd0 := ho5.cellAt (j * 2) (by omega)
      have hd1 := ho5.cellAt (j * 2 + 1) (by omega)
      obtain ⟨p, hp⟩ := get_someF (l := r.ls) (k := j) (by rw [HM.out]; exact h1)
      rw [(prow_at _ _ _ hp).1] at hd0
      rw [(prow_at _ _ _ hp).2] at hd1
      have hf0 := ho5.frozenAt (j * 2)
      have hf1 := ho5.frozenAt (j * 2 + 1)
      have hgz := (ho5.lt gl rfl).2
      have KS := Lib.hid (And.intro (show W5.drew.cell? ⟨b, 3, none⟩ = some (.slice (some ⟨gl, 0, none⟩) m cl) from hbc5) (And.intro (show W5.drew.cell? ⟨W.heap.size, 0, none⟩ = some (.int .i64 x) from t0) (show W5.drew.cell? ⟨W.heap.size, 1, none⟩ = some (.int .i64 y) from t1)))
      have HSET := Lib.hid hset
      have HO5 := Lib.hid ho5
      have HSK := Lib.hid hsk
      have HGR := Lib.hid hgr
      have HBW4 := Lib.hid hbw4
      have HB4 := Lib.hid hb4
      clear hset hx5 ho5 hsk hgr hbw4 hb4 hr4 hbx hbc hbf hbz hx4 ho4 hp c0 c1 c2 c3 c4 c5 c6 c7 c8 f3 HCL
      refine regN_start (N := 8) (S := (fun w' => w'.cell? ⟨b, 3, none⟩ = some (.slice (some ⟨gl, 0, none⟩) m cl) ∧ w'.cell? ⟨W.heap.size, 0, none⟩ = some (.int .i64 x) ∧ w'.cell? ⟨W.heap.size, 1, none⟩ = some (.int .i64 y))) (by kernel_rfl) ?_
      change wpAnyN _ _ _ _ _ _ _ #[false, false, false, false, false, false, false, false, false] _ (World.drew _)
      have hS0 := KS.out
      refine regN_take (i := 0) (d := (some 30)) (v := ?v4x1) (l2 := #[true, false, false, false, false, false, false, false, false]) rfl rfl rfl (by kernel_rfl) (by kernel_rfl) (by kernel_rfl) (by kernel_rfl) (fun _ _ _ h => h) (by rfl) ?hv4x1 hS0 ?h4x1
      case hv4x1 => intro u hSu; clear hSu; go_simp; (try with_reducible rfl)
      (try simp only [Act.put, List.setIfInBounds_toArray, List.set_cons_zero, List.set_cons_succ])
      refine regN_take (i := 1) (d := (some 31)) (v := ?v4x2) (l2 := #[true, true, false, false, false, false, false, false, false]) rfl rfl rfl (by kernel_rfl) (by kernel_rfl) (by kernel_rfl) (by kernel_rfl) (fun _ _ _ h => h) (by rfl) ?hv4x2 hS0 ?h4x2
      case hv4x2 => intro u hSu; clear hSu; go_simp; (try with_reducible rfl)
      (try simp only [Act.put, List.setIfInBounds_toArray, List.set_cons_zero, List.set_cons_succ])
      refine regN_take (i := 2) (d := (some 32)) (v := ?v4x3) (l2 := #[true, true, true, false, false, false, false, false, false]) rfl rfl rfl (by kernel_rfl) (by kernel_rfl) (by kernel_rfl) (by kernel_rfl) (fun _ _ _ h => h) (by rfl) ?hv4x3 hS0 ?h4x3
      case hv4x3 => intro u hSu; clear hSu; go_simp; (try with_reducible rfl)
      (try simp only [Act.put, List.setIfInBounds_toArray, List.set_cons_zero, List.set_cons_succ])
      refine regN_take (i := 3) (d := (some 33)) (v := ?v4x4) (l2 := #[true, true, true, true, false, false, false, false, false]) rfl rfl rfl (by kernel_rfl) (by kernel_rfl) (by kernel_rfl) (by kernel_rfl) (fun _ _ _ h => h) (by rfl) ?hv4x4 hS0 ?h4x4
      case hv4x4 => intro u hSu; clear hSu; go_simp; (try with_reducible rfl)
      (try simp only [Act.put, List.setIfInBounds_toArray, List.set_cons_zero, List.set_cons_succ])
      refine regN_take (i := 4) (d := (some 34)) (v := ?v4x5) (l2 := #[true, true, true, true, true, false, false, false, false]) rfl rfl rfl (by kernel_rfl) (by kernel_rfl) (by kernel_rfl) (by kernel_rfl) (fun _ _ _ h => h) (by rfl) ?hv4x5 hS0 ?h4x5
      case hv4x5 => intro u hSu; (try dsimp only at hSu); (try go_split_ands); go_simp; (try with_reducible rfl)
      (try simp only [Act.put, List.setIfInBounds_toArray, List.set_cons_zero, List.set_cons_succ])
      refine regN_take (i := 5) (d := (some 35)) (v := ?v4x6) (l2 := #[true, true, true, true, true, true, false, false, false]) rfl rfl rfl (by kernel_rfl) (by kernel_rfl) (by kernel_rfl) (by kernel_rfl) (fun _ _ _ h => h) (by rfl) ?hv4x6 hS0 ?h4x6
      case hv4x6 => intro u hSu; clear hSu; go_simp; (try with_reducible rfl)
      (try simp only [Act.put, List.setIfInBounds_toArray, List.set_cons_zero, List.set_cons_succ])
      refine regN_take (i := 6) (d := (some 36)) (v := ?v4x7) (l2 := #[true, true, true, true, true, true, true, false, false]) rfl rfl rfl (by kernel_rfl) (by kernel_rfl) (by kernel_rfl) (by kernel_rfl) (fun _ _ _ h => h) (by rfl) ?hv4x7 hS0 ?h4x7
      case hv4x7 => intro u hSu; (try dsimp only at hSu); (try go_split_ands); go_simp; (try with_reducible rfl)
      (try simp only [Act.put, List.setIfInBounds_toArray, List.set_cons_zero, List.set_cons_succ])
      refine regN_take (i := 7) (d := (some 37)) (v := ?v4x8) (l2 := #[true, true, true, true, true, true, true, true, false]) rfl rfl rfl (by kernel_rfl) (by kernel_rfl) (by kernel_rfl) (by kernel_rfl) (fun _ _ _ h => h) (by rfl) ?hv4x8 hS0 ?h4x8
      case hv4x8 => intro u hSu; clear hSu; go_simp; (try with_reducible rfl)
      (try simp only [Act.put, List.setIfInBounds_toArray, List.set_cons_zero, List.set_cons_succ])
      refine regN_ready (rs := [8]) (by kernel_rfl) (by simp) ?_
      refine (AllN.cons (i := 8) (l2 := #[true, true, true, true, true, true, true, true, true]) rfl rfl (fun K hK => ?_) AllN.nil)
      go_simp
      refine hK _ _ (fun h => absurd rfl h) ?_
      clear hK K
      (try simp only [Act.put, List.setIfInBounds_toArray, List.set_cons_zero, List.set_cons_succ])
      refine regN_done (by kernel_rfl) ?_ _
      go_end0
      have hs0 := HO5.out.stored (j * 2) (.int .i64 x)
      have hs1 := hs0.1.stored (j * 2 + 1) (.int .i64 y)
      have hg := grown_drw (grown_two hs0.2 hs1.2)
      have ho6 := own_below hs1.1 (Below.refl _ _).drew
      rw [← prow_set r.ls j (x, y)] at ho6
      have hnsv : sv.ownBlock ≠ some gl := fun e => by have := (HH.out.own.lt _ e).2; omega
      have hgb : gl ≠ b := by omega
      have hlen : (r.ls.set j (x, y)).length = m := by rw [List.length_set]; exact HM.out
      obtain ⟨_, _, hv6, hc6, _, _⟩ := own_formV ho6
      injection hv6 with _ _ hv6
      rw [HV.out]
      refine ⟨rfl, some ⟨gl, 0, none⟩, cl, sv, ⟨?_, HSK.out.kept hg (Or.inr hnsv), (VRow.of_own ho6).1, fun g o s hA _ => ?_, ⟨?_, fun h => by cases h⟩, HBW4.out.trans (grown_below hg (fun k hk => by have e2 : gl = k := Option.some.inj hk; omega) HBW4.out.size), HH.out.bb⟩, ?_, Lies.refl _ _, Or.inr (fun g o s hA => ?_)⟩
      · rw [hg.block b (lt_heapV HSET.out) (fun e => hgb (Option.some.inj e).symm), HSET.out]
        show _ = some (Obj.cells #[Value.int IntKind.i64 (Hd8.cl h), Value.int IntKind.i64 (Hd8.me h), Value.int IntKind.i64 (Hd8.pc h), ((.slice (some ⟨gl, 0, none⟩) (r.ls.set j (x, y)).length cl)), sv, Value.int IntKind.i64 (Hd8.lk h), Value.bool (Hd8.ii h), Value.bool (Hd8.dr h), Value.int IntKind.i64 r.e] 48)
        rw [hlen]; rfl
      · injection hA with hA
        injection hA with h1 _ _
        subst h1
        exact ⟨hgb, hnsv⟩
      · show (r.ls.set j (x, y)).length ≤ cl
        rw [hlen]; omega
      · exact (((Kept.of_below (below_on HB1.out HB4.out)).trans (Lies.refl _ _) (Kept.of_grown HGR.out))).aside hg (by omega)
      · injection hA with hA
        injection hA with h1 _ _
        omega
    · have HV := Lib.hid (show setS j (x, y) r = failS 21 r from if_neg (by rw [HM.out]; omega))
      have hj1 : (m : Int) ≤ (j : Int) := by omega
      go_enter Try.func36, Try.ntmps36
      go_wp2_with (go_at_call 32; refine HF.out.mono ?_; rintro e w4 ⟨rfl, sv4, hr4, hk4, hl4⟩)
      go_end0
      rw [HV.out]
      exact ⟨rfl, lA, lc, sv4, hr4, (Kept.of_below HB1.out).trans (Lies.refl _ _) hk4, lies_alV hl4, Or.inl rfl⟩

end Go.Proofs.Ytgiglbjkijlchaa
