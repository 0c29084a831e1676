/- Layer 42: the reference's hand in memory: put, back. -/
import Derived.Test.YtgiglbjkijlchaaRb
namespace Go.Proofs.Ytgiglbjkijlchaa
open Go.ChangeShapes Go.WideShapes Go.ChangeAt Go.RowKit Go.PlainAid
set_option linter.unusedSimpArgs false
set_option linter.unusedVariables false

theorem own_lit0V {w : World} {B : Nat} (hB : B ≤ w.heap.size) : (w.alloc (.cells #[] 42)).ownsRow B 42 2 (.slice (some ⟨w.heap.size, 0, none⟩) 0 0) 0 (prow []) :=
  ⟨rfl, Or.inr ⟨w.heap.size, 0, #[], rfl, hB, World.alloc_heap_new _ _, Nat.zero_le _, Nat.zero_le _, rfl, rfl⟩⟩
theorem wpList_app_any {w : World} {ops : Array Oper} {rest : List Oper} {o : Oper} {a : Act} {Q : Exit → Act → World → Prop} (hg : o.guard = none) (s x : Operand)
    (hop : o.op = Op.call { callee := Callee.builtin Builtin.append, args := #[s, x], argTypes := #[22, 22] })
    (base n m c : Nat) (L M : List Va) (v : Value) (A : Option Addr) (hs : a.eval s = v) (hown : w.ownsRow base 42 2 v n (prow L)) (hx : a.eval x = .slice A m c)
    (hm : M.length = m) (hrow : VRow w A M) (hnil : A = none → c = 0) (hb : n + m ≤ 10000000) (hbase : base ≤ w.heap.size)
    (h : ∀ v' w', w'.ownsRow base 42 2 v' (n + m) (prow (L ++ M)) → w.grownBy w' v.ownBlock → wpList Try.prog ops Q rest (a.put o.dst v') w') : wpList Try.prog ops Q (o :: rest) a w := by
  obtain ⟨i0, hi, hz0, hz1, hz2⟩ := info_partsV infoV
  cases A with
  | none =>
    obtain rfl : c = 0 := hnil rfl
    obtain rfl : M = [] := by
      rcases hrow with h | ⟨g, o, hA, _⟩
      · exact h
      · cases hA
    obtain rfl : m = 0 := hm.symm
    exact wpList_append_own_none hg s x 22 hop base 42 i0 2 Try.underlying22 hi v n (prow L) hs hown hx (h v w (by rw [List.append_nil]; exact hown) (World.grownBy.refl _ _))
  | some ad =>
    refine _root_.Go.wpList_append_own (w := w) hg s x 22 hop base 42 i0 (.agg #[.int .i64 0, .int .i64 0]) 2 16 Try.underlying22 hi hz0 hz1 hz2 rfl (by decide) v n (prow L) hs hown ad m c (prow M) hx (by rw [prow_len, hm]) (fun j u hu => hrow.news j u hu) (prow_one M) (by unfold maxLen; omega) (by omega) hbase ?_
    intro v' w' h1 h2 _
    exact h v' w' (by rw [prow_app]; exact h1) h2
theorem put_e {k n : Int} {r : Rs} (h : r.e = 0) : putS k n r = { r with ss := r.ss ++ [(k, n)] } := if_pos h
set_option maxRecDepth 100000 in
set_option maxHeartbeats 1000000 in
theorem put_any {w0 W : World} {b : Nat} {h : Hd8} {r : Rs} {lA : Option Addr} {lc : Nat} {sA : Option Addr} {sc : Nat} (H : HdSt w0 W b h r lA lc sA sc) (k n : Int) (hl : r.ss.length ≤ 1000000) :
    Calls Try.prog 40 #[.pointer (some ⟨b, 0, none⟩), .int .i64 k, .int .i64 n] W (HdEx w0 W b h r (putS k n r) lA sA (.tuple #[])) := by
  have HH := Lib.hid H
  have hc := nine_cells H.box
  have hc4 := hc.2.2.2.2.1
  have hc8 := hc.2.2.2.2.2.2.2.2
  have hz := lt_heapV H.box
  have hbf := frozV H.box 4
  clear H hc
  by_cases he : r.e = 0
  · obtain ⟨q, hq⟩ : ∃ q, r.ss.length = q := ⟨_, rfl⟩
    rw [hq] at hc4 hl
    rw [he] at hc8
    have HE := Lib.hid (put_e (k := k) (n := n) he)
    have HQ := Lib.hid hq
    have HO0 := Lib.hid (own_lit0V (w := W) (Nat.le_refl _))
    have HST := Lib.hid (HH.out.stk.up (below_al (Below.refl _ _) (.cells #[] 42)))
    have HSN := Lib.hid HH.out.sl.2
    clear hq he
    go_enter Try.func40, Try.ntmps40
    go_wp2_with (first | (at_builtin; refine wpList_app_any (by rfl) _ _ (by rfl) W.heap.size 0 q sc [] r.ss _ _ (by rfl) HO0.out (by rfl) HQ.out HST.out HSN.out (by omega) (by simp) ?_; intro v1 w1 ho1 hg1; rw [Nat.zero_add, List.nil_append] at ho1; have HO1 := Lib.hid ho1; have HB1 := Lib.hid ((below_al (Below.refl W.heap.size W) _).trans (grown_below hg1 (fun k hk => Nat.le_of_eq (Option.some.inj hk)) (by simp))); clear ho1 hg1) | (at_builtin; refine wpList_app (by rfl) _ _ (by rfl) W.heap.size q 1 _ r.ss [(k, n)] _ _ (by rfl) (HO1.out.alloc _) (by rfl) rfl Nat.zero_lt_one (VRow.news (row_new (L := [(k, n)]) (World.alloc_heap_new _ _))) (by omega) (by have := HB1.out.size; simp; omega) ?_; intro A4 c4' w4 ho4 hg4 hl4; have HB4 := Lib.hid ((below_al HB1.out _).trans (grown_below hg4 (fun k hk => (HO1.out.lt k hk).1) (below_al HB1.out _).size)); have hbx := (HB4.out.block b hz).trans HH.out.box; have HO4 := Lib.hid ho4; clear ho4 hg4 hl4; rw [HQ.out] at hbx; have hbc := (nine_cells hbx).2.2.2.2.1; have hbf4 := frozV hbx 4; have hbz := lt_heapV hbx; have HBX := Lib.hid hbx; clear hbx))
    go_end0
    have hset := heap_setCell_same w4 b 4 _ _ (.slice A4 (q + 1) c4') HBX.out
    obtain ⟨A5, c5, e5, h5, _, h6⟩ := own_formV HO4.out
    injection e5 with e5 _ e6
    subst e5 e6
    have hnew : ∀ g o s, A4 = some ⟨g, o, s⟩ → W.heap.size ≤ g := fun g o s hA => by subst hA; exact (HO4.out.lt g rfl).1
    obtain ⟨h1, h2⟩ := HH.out.restack HB4.out (VRow.of_own HO4.out).1 (by rw [List.length_append, HQ.out]; rfl) (fun g o s hA _ e => by have := hnew g o s hA; omega) ⟨h5, h6⟩ grown_setV hset
    rw [HE.out]
    exact ⟨rfl, h2, _, _, _, _, h1, Nz.refl _ _ _, Or.inr hnew⟩
  · have hne : (r.e == 0) = false := by simpa using he
    have HE := Lib.hid (show putS k n r = r from if_neg he)
    clear he
    go_enter Try.func40, Try.ntmps40
    go_wp2
    go_end0
    rw [HE.out]
    exact ⟨rfl, Kb.of_below (Below.refl _ _), _, _, _, _, HH.out, Nz.refl _ _ _, Nz.refl _ _ _⟩
theorem HdEx.under {w0 W W1 W' : World} {b : Nat} {h : Hd8} {r r' : Rs} {lA sA : Option Addr} {v : Value} {e : Ending} (hb : Below W.heap.size W W1) (H : HdEx w0 W1 b h r r' lA sA v e W') : HdEx w0 W b h r r' lA sA v e W' := by
  obtain ⟨h1, h2, x1, x2, x3, x4, h3, h4, h5⟩ := H
  exact ⟨h1, Kb.below_ hb h2, x1, x2, x3, x4, h3, h4.imp id (fun h g o s e => Nat.le_trans hb.size (h g o s e)), h5.imp id (fun h g o s e => Nat.le_trans hb.size (h g o s e))⟩
set_option maxRecDepth 100000 in
theorem back_any {w0 W : World} {b : Nat} {h : Hd8} {r : Rs} {lA : Option Addr} {lc : Nat} {sA : Option Addr} {sc : Nat} (H : HdSt w0 W b h r lA lc sA sc) (k n : Int) (hl : r.ss.length ≤ 1000000) :
    Calls Try.prog 42 #[.pointer (some ⟨b, 0, none⟩), .agg #[.int .i64 k, .int .i64 n]] W (HdEx w0 W b h r (putS k n r) lA sA (.tuple #[])) := by
  have HB := Lib.hid (below_al (Below.refl W.heap.size W) (.cells #[.int .i64 k, .int .i64 n] 42))
  have HP := Lib.hid (put_any (H.up HB.out) k n hl)
  clear H
  go_enter Try.func42, Try.ntmps42
  go_wp2_with (go_at_call 40; refine HP.out.mono ?_; rintro e w4 ⟨rfl, hp⟩)
  go_end0
  exact HdEx.under HB.out ⟨rfl, hp⟩
end Go.Proofs.Ytgiglbjkijlchaa
