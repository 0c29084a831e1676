/- Layer 22: frames compared by the reference. (Written by gen/wa.py.) -/
import Derived.Test.YtdppooflbjlbcaaDoorVs
import Derived.Test.YtdppooflbjlbcaaDoorKit
import Derived.Deep.QuietTactic
import Derived.BigQuiet
namespace Go.Proofs.YtdppooflbjlbcaaDoor.I
open Go.ChangeShapes Go.WideShapes Go.ChangeAt Go.RowKit Go.PlainAid Go.Maps
set_option linter.unusedSimpArgs false
set_option linter.unusedVariables false

theorem two_laid (w : World) (o1 o2 : Obj) : ((w.alloc o1).alloc o2).heap[w.heap.size]? = some o1 ∧ ((w.alloc o1).alloc o2).heap[w.heap.size + 1]? = some o2 ∧ Below w.heap.size w ((w.alloc o1).alloc o2) := by
  have e1 : (w.alloc o1).heap.size = w.heap.size + 1 := by simp
  refine ⟨laid_old (World.alloc_heap_new w o1), ?_, below_al (below_al (Below.refl _ w) o1) o2⟩
  have := World.alloc_heap_new (w.alloc o1) o2
  rw [e1] at this
  exact this
def AllR (R : VT → VT → Bool) (P Q : List VT) : Prop := P.length = Q.length ∧ ∀ (j : Nat) (a b : VT), P[j]? = some a → Q[j]? = some b → R a b = true
noncomputable def allB (R : VT → VT → Bool) (P Q : List VT) : Bool := @decide (AllR R P Q) (Classical.propDecidable _)
theorem allB_iff {R : VT → VT → Bool} {P Q : List VT} : allB R P Q = true ↔ AllR R P Q := @decide_eq_true_iff _ (Classical.propDecidable _)
theorem allB_yes {R : VT → VT → Bool} {P Q : List VT} (h : AllR R P Q) : allB R P Q = true := allB_iff.2 h
theorem allB_no {R : VT → VT → Bool} {P Q : List VT} (h : ¬ AllR R P Q) : allB R P Q = false := by
  cases hh : allB R P Q with
  | false => rfl
  | true => exact absurd (allB_iff.1 hh) h
theorem allB_at {R : VT → VT → Bool} {P Q : List VT} {j : Nat} {a b : VT} (h1 : P[j]? = some a) (h2 : Q[j]? = some b) (h : R a b = false) : allB R P Q = false :=
  allB_no fun hh => by have := hh.2 j a b h1 h2; rw [h] at this; cases this
theorem below_drV {w W : World} (h : Below w.heap.size w W) (q : Nat) : Below w.heap.size w (W.drewN q) := ⟨h.os, h.tape, h.output, h.size, h.block⟩
theorem vt_neF {k n d b p k' n' d' b' p' : Int} {s s' : ByteArray} {v : Bool} (h : vtE ⟨k, n, d, b, s, p⟩ ⟨k', n', d', b', s', p'⟩ = v) (w : World) : (binOp .neq 95 (.agg #[.int .i64 k, .int .i64 n, .int .i64 d, .int .u8 b, .string s, .int .i64 p]) (.agg #[.int .i64 k', .int .i64 n', .int .i64 d', .int .u8 b', .string s', .int .i64 p'])).run Tryd.prog w = .ok (.bool (!v)) w :=
  vt_neP (a := ⟨k, n, d, b, s, p⟩) (b := ⟨k', n', d', b', s', p'⟩) h w
set_option maxRecDepth 100000 in
set_option maxHeartbeats 4000000 in
theorem alike_any (A1 A2 : Option Addr) (m1 c1 m2 c2 : Nat) (P Q : List VT) (w : World) (hm : m1 ≤ 9223372036854775807) (hP : VS w w.heap.size A1 P) (hQ : VS w w.heap.size A2 Q) (lP : P.length = m1) (lQ : Q.length = m2) (k1 : m1 ≤ c1) (k2 : m2 ≤ c2) :
    Calls Tryd.prog 52 #[.slice A1 m1 c1, .slice A2 m2 c2] w fun e w' => e = .returned (.bool (allB vtE P Q)) ∧ Below w.heap.size w w' := by
  have HP := Lib.hid hP
  have HQ := Lib.hid hQ
  have HLP := Lib.hid lP
  have HLQ := Lib.hid lQ
  clear hP hQ lP lQ
  by_cases hl : m1 = m2
  · subst hl
    go_enter Tryd.func52, Tryd.ntmps52
    go_wp2
    go_loopw [5] (fun iv wr => ∃ i : Nat, iv = .int .i64 i ∧ i ≤ m1 ∧ Hid (Below w.heap.size w wr) ∧ Hid (∀ j a b, j < i → P[j]? = some a → Q[j]? = some b → vtE a b = true)) (fun iv _ => m1 - (intOf iv).toNat)
    case atStart => exact ⟨0, rfl, Nat.zero_le _, Lib.hid (Below.refl _ _), Lib.hid fun j a b h => absurd h (Nat.not_lt_zero _)⟩
    case round =>
      obtain ⟨i, rfl, him, HB, HG⟩ := hrel
      by_cases hlt : i < m1
      · obtain ⟨a, ha⟩ : ∃ a, P[i]? = some a := ⟨_, List.getElem?_eq_getElem (by rw [HLP.out]; exact hlt)⟩
        obtain ⟨b, hb⟩ : ∃ b, Q[i]? = some b := ⟨_, List.getElem?_eq_getElem (by rw [HLQ.out]; exact hlt)⟩
        obtain ⟨g1, o1, rfl, hg1, p0, p1, p2, p3, p4, p5⟩ := HP.out.six ha
        obtain ⟨g2, o2, rfl, hg2, q0, q1, q2, q3, q4, q5⟩ := HQ.out.six hb
        have P0 := (HB.out.cell (p := ⟨g1, o1 + i * 6, none⟩) hg1).trans p0
        have P1 := (HB.out.cell (p := ⟨g1, o1 + i * 6 + 1, none⟩) hg1).trans p1
        have P2 := (HB.out.cell (p := ⟨g1, o1 + i * 6 + 2, none⟩) hg1).trans p2
        have P3 := (HB.out.cell (p := ⟨g1, o1 + i * 6 + 3, none⟩) hg1).trans p3
        have P4 := (HB.out.cell (p := ⟨g1, o1 + i * 6 + 4, none⟩) hg1).trans p4
        have P5 := (HB.out.cell (p := ⟨g1, o1 + i * 6 + 5, none⟩) hg1).trans p5
        have Q0 := (HB.out.cell (p := ⟨g2, o2 + i * 6, none⟩) hg2).trans q0
        have Q1 := (HB.out.cell (p := ⟨g2, o2 + i * 6 + 1, none⟩) hg2).trans q1
        have Q2 := (HB.out.cell (p := ⟨g2, o2 + i * 6 + 2, none⟩) hg2).trans q2
        have Q3 := (HB.out.cell (p := ⟨g2, o2 + i * 6 + 3, none⟩) hg2).trans q3
        have Q4 := (HB.out.cell (p := ⟨g2, o2 + i * 6 + 4, none⟩) hg2).trans q4
        have Q5 := (HB.out.cell (p := ⟨g2, o2 + i * 6 + 5, none⟩) hg2).trans q5
        clear p0 p1 p2 p3 p4 p5 q0 q1 q2 q3 q4 q5
        have hc1 : i < c1 := by omega
        have hc2 : i < c2 := by omega
        cases hE : vtE a b with
        | true =>
          have HGN := Lib.hid (show ∀ j a b, j < i + 1 → P[j]? = some a → Q[j]? = some b → vtE a b = true from fun j x y hj hx hy => by
            rcases Nat.lt_or_ge j i with h | h
            · exact HG.out j x y h hx hy
            · obtain rfl : j = i := by omega
              rw [ha] at hx; rw [hb] at hy
              rw [← Option.some.inj hx, ← Option.some.inj hy]; exact hE)
          have e1 := fun w => vt_neP hE w
          clear ha hb
          go_upto_region 6 with fail
          go_quiet (fail)
          have HB2 := Lib.hid (below_drV HB.out nq)
          go_wp2
          go_roundw
          case rel => exact ⟨i + 1, by go_num, by omega, HB2, HGN⟩
          case measure => simp [intOf]; omega
        | false =>
          have HR := Lib.hid (allB_at ha hb hE)
          have e1 := fun w => vt_neP hE w
          clear ha hb
          go_upto_region 6 with fail
          go_quiet (fail)
          have HB2 := Lib.hid (below_drV HB.out nq)
          go_wp2
          go_ret
          exact ⟨ret_bool HR.out.symm, HB2.out⟩
      · obtain rfl : i = m1 := by omega
        have HR := Lib.hid (allB_yes (R := vtE) (P := P) (Q := Q) ⟨by rw [HLP.out, HLQ.out], fun j a b ha hb => HG.out j a b (by have := lt_of_some ha; rw [HLP.out] at this; exact this) ha hb⟩)
        go_wp2
        go_ret
        exact ⟨ret_bool HR.out.symm, HB.out⟩
  · have hne : ((m1 : Int) != (m2 : Int)) = true := by rw [bne_iff_ne]; omega
    have HR := Lib.hid (allB_no (R := vtE) (P := P) (Q := Q) fun h => hl (by rw [← HLP.out, ← HLQ.out]; exact h.1))
    go_enter Tryd.func52, Tryd.ntmps52
    go_wp2
    go_ret
    exact ⟨ret_bool HR.out.symm, Below.refl _ _⟩
set_option maxRecDepth 100000 in
set_option maxHeartbeats 8000000 in
theorem reqf_true_true (A1 A2 A3 A4 : Option Addr) (n1 n2 n3 n4 c1 c2 c3 c4 : Nat) (r1 r2 : Bool) (w : World) (k1 : ∀ W, Below w.heap.size w W → Calls Tryd.prog 52 #[.slice A1 n1 c1, .slice A3 n3 c3] W fun e w' => e = .returned (.bool r1) ∧ Below W.heap.size W w') (k2 : ∀ W, Below w.heap.size w W → Calls Tryd.prog 52 #[.slice A2 n2 c2, .slice A4 n4 c4] W fun e w' => e = .returned (.bool r2) ∧ Below W.heap.size W w') :
    Calls Tryd.prog 32 #[.agg #[.slice A1 n1 c1, .slice A2 n2 c2, .bool true], .agg #[.slice A3 n3 c3, .slice A4 n4 c4, .bool true]] w fun e w' => e = .returned (.bool ((true == true) && (r1 && r2))) ∧ Below w.heap.size w w' := by
  have K1 := Lib.hid k1
  have K2 := Lib.hid k2
  clear k1 k2
  cases r1 <;> cases r2
  all_goals
    go_enter Tryd.func32, Tryd.ntmps32
    go_upto_region 1 with fail
    obtain ⟨H0, H1, hB⟩ := two_laid w (.cells #[.slice A1 n1 c1, .slice A2 n2 c2, .bool true] 49) (.cells #[.slice A3 n3 c3, .slice A4 n4 c4, .bool true] 49)
    generalize (w.alloc (.cells #[.slice A1 n1 c1, .slice A2 n2 c2, .bool true] 49)).alloc (.cells #[.slice A3 n3 c3, .slice A4 n4 c4, .bool true] 49) = W at H0 H1 hB ⊢
    obtain ⟨xa0, xa1, xa2, fa0, fa1, fa2⟩ := three_cells H0; obtain ⟨xb0, xb1, xb2, fb0, fb1, fb2⟩ := three_cells H1
    go_wp2_with (first | (go_at_call 52; (with_reducible refine (K1.out _ hB).mono ?_); rintro e w1 ⟨rfl, hb1⟩; replace H0 := (hb1.block _ (lt_heap H0)).trans H0; replace H1 := (hb1.block _ (lt_heap H1)).trans H1; replace hB := below_on hB hb1; clear hb1 xa0 xa1 xa2 fa0 fa1 fa2 xb0 xb1 xb2 fb0 fb1 fb2; obtain ⟨xa0, xa1, xa2, fa0, fa1, fa2⟩ := three_cells H0; obtain ⟨xb0, xb1, xb2, fb0, fb1, fb2⟩ := three_cells H1) | (go_at_call 52; (with_reducible refine (K2.out _ hB).mono ?_); rintro e w1 ⟨rfl, hb1⟩; replace H0 := (hb1.block _ (lt_heap H0)).trans H0; replace H1 := (hb1.block _ (lt_heap H1)).trans H1; replace hB := below_on hB hb1; clear hb1 xa0 xa1 xa2 fa0 fa1 fa2 xb0 xb1 xb2 fb0 fb1 fb2; obtain ⟨xa0, xa1, xa2, fa0, fa1, fa2⟩ := three_cells H0; obtain ⟨xb0, xb1, xb2, fb0, fb1, fb2⟩ := three_cells H1))
    go_ret
    exact ⟨rfl, hB⟩
set_option maxRecDepth 100000 in
set_option maxHeartbeats 8000000 in
theorem reqf_true_false (A1 A2 A3 A4 : Option Addr) (n1 n2 n3 n4 c1 c2 c3 c4 : Nat) (r1 r2 : Bool) (w : World) (k1 : ∀ W, Below w.heap.size w W → Calls Tryd.prog 52 #[.slice A1 n1 c1, .slice A3 n3 c3] W fun e w' => e = .returned (.bool r1) ∧ Below W.heap.size W w') (k2 : ∀ W, Below w.heap.size w W → Calls Tryd.prog 52 #[.slice A2 n2 c2, .slice A4 n4 c4] W fun e w' => e = .returned (.bool r2) ∧ Below W.heap.size W w') :
    Calls Tryd.prog 32 #[.agg #[.slice A1 n1 c1, .slice A2 n2 c2, .bool true], .agg #[.slice A3 n3 c3, .slice A4 n4 c4, .bool false]] w fun e w' => e = .returned (.bool ((true == false) && (r1 && r2))) ∧ Below w.heap.size w w' := by
  have K1 := Lib.hid k1
  have K2 := Lib.hid k2
  clear k1 k2
  cases r1 <;> cases r2
  all_goals
    go_enter Tryd.func32, Tryd.ntmps32
    go_upto_region 1 with fail
    obtain ⟨H0, H1, hB⟩ := two_laid w (.cells #[.slice A1 n1 c1, .slice A2 n2 c2, .bool true] 49) (.cells #[.slice A3 n3 c3, .slice A4 n4 c4, .bool false] 49)
    generalize (w.alloc (.cells #[.slice A1 n1 c1, .slice A2 n2 c2, .bool true] 49)).alloc (.cells #[.slice A3 n3 c3, .slice A4 n4 c4, .bool false] 49) = W at H0 H1 hB ⊢
    obtain ⟨xa0, xa1, xa2, fa0, fa1, fa2⟩ := three_cells H0; obtain ⟨xb0, xb1, xb2, fb0, fb1, fb2⟩ := three_cells H1
    go_wp2_with (first | (go_at_call 52; (with_reducible refine (K1.out _ hB).mono ?_); rintro e w1 ⟨rfl, hb1⟩; replace H0 := (hb1.block _ (lt_heap H0)).trans H0; replace H1 := (hb1.block _ (lt_heap H1)).trans H1; replace hB := below_on hB hb1; clear hb1 xa0 xa1 xa2 fa0 fa1 fa2 xb0 xb1 xb2 fb0 fb1 fb2; obtain ⟨xa0, xa1, xa2, fa0, fa1, fa2⟩ := three_cells H0; obtain ⟨xb0, xb1, xb2, fb0, fb1, fb2⟩ := three_cells H1) | (go_at_call 52; (with_reducible refine (K2.out _ hB).mono ?_); rintro e w1 ⟨rfl, hb1⟩; replace H0 := (hb1.block _ (lt_heap H0)).trans H0; replace H1 := (hb1.block _ (lt_heap H1)).trans H1; replace hB := below_on hB hb1; clear hb1 xa0 xa1 xa2 fa0 fa1 fa2 xb0 xb1 xb2 fb0 fb1 fb2; obtain ⟨xa0, xa1, xa2, fa0, fa1, fa2⟩ := three_cells H0; obtain ⟨xb0, xb1, xb2, fb0, fb1, fb2⟩ := three_cells H1))
    go_ret
    exact ⟨rfl, hB⟩
set_option maxRecDepth 100000 in
set_option maxHeartbeats 8000000 in
theorem reqf_false_true (A1 A2 A3 A4 : Option Addr) (n1 n2 n3 n4 c1 c2 c3 c4 : Nat) (r1 r2 : Bool) (w : World) (k1 : ∀ W, Below w.heap.size w W → Calls Tryd.prog 52 #[.slice A1 n1 c1, .slice A3 n3 c3] W fun e w' => e = .returned (.bool r1) ∧ Below W.heap.size W w') (k2 : ∀ W, Below w.heap.size w W → Calls Tryd.prog 52 #[.slice A2 n2 c2, .slice A4 n4 c4] W fun e w' => e = .returned (.bool r2) ∧ Below W.heap.size W w') :
    Calls Tryd.prog 32 #[.agg #[.slice A1 n1 c1, .slice A2 n2 c2, .bool false], .agg #[.slice A3 n3 c3, .slice A4 n4 c4, .bool true]] w fun e w' => e = .returned (.bool ((false == true) && (r1 && r2))) ∧ Below w.heap.size w w' := by
  have K1 := Lib.hid k1
  have K2 := Lib.hid k2
  clear k1 k2
  cases r1 <;> cases r2
  all_goals
    go_enter Tryd.func32, Tryd.ntmps32
    go_upto_region 1 with fail
    obtain ⟨H0, H1, hB⟩ := two_laid w (.cells #[.slice A1 n1 c1, .slice A2 n2 c2, .bool false] 49) (.cells #[.slice A3 n3 c3, .slice A4 n4 c4, .bool true] 49)
    generalize (w.alloc (.cells #[.slice A1 n1 c1, .slice A2 n2 c2, .bool false] 49)).alloc (.cells #[.slice A3 n3 c3, .slice A4 n4 c4, .bool true] 49) = W at H0 H1 hB ⊢
    obtain ⟨xa0, xa1, xa2, fa0, fa1, fa2⟩ := three_cells H0; obtain ⟨xb0, xb1, xb2, fb0, fb1, fb2⟩ := three_cells H1
    go_wp2_with (first | (go_at_call 52; (with_reducible refine (K1.out _ hB).mono ?_); rintro e w1 ⟨rfl, hb1⟩; replace H0 := (hb1.block _ (lt_heap H0)).trans H0; replace H1 := (hb1.block _ (lt_heap H1)).trans H1; replace hB := below_on hB hb1; clear hb1 xa0 xa1 xa2 fa0 fa1 fa2 xb0 xb1 xb2 fb0 fb1 fb2; obtain ⟨xa0, xa1, xa2, fa0, fa1, fa2⟩ := three_cells H0; obtain ⟨xb0, xb1, xb2, fb0, fb1, fb2⟩ := three_cells H1) | (go_at_call 52; (with_reducible refine (K2.out _ hB).mono ?_); rintro e w1 ⟨rfl, hb1⟩; replace H0 := (hb1.block _ (lt_heap H0)).trans H0; replace H1 := (hb1.block _ (lt_heap H1)).trans H1; replace hB := below_on hB hb1; clear hb1 xa0 xa1 xa2 fa0 fa1 fa2 xb0 xb1 xb2 fb0 fb1 fb2; obtain ⟨xa0, xa1, xa2, fa0, fa1, fa2⟩ := three_cells H0; obtain ⟨xb0, xb1, xb2, fb0, fb1, fb2⟩ := three_cells H1))
    go_ret
    exact ⟨rfl, hB⟩
set_option maxRecDepth 100000 in
set_option maxHeartbeats 8000000 in
theorem reqf_false_false (A1 A2 A3 A4 : Option Addr) (n1 n2 n3 n4 c1 c2 c3 c4 : Nat) (r1 r2 : Bool) (w : World) (k1 : ∀ W, Below w.heap.size w W → Calls Tryd.prog 52 #[.slice A1 n1 c1, .slice A3 n3 c3] W fun e w' => e = .returned (.bool r1) ∧ Below W.heap.size W w') (k2 : ∀ W, Below w.heap.size w W → Calls Tryd.prog 52 #[.slice A2 n2 c2, .slice A4 n4 c4] W fun e w' => e = .returned (.bool r2) ∧ Below W.heap.size W w') :
    Calls Tryd.prog 32 #[.agg #[.slice A1 n1 c1, .slice A2 n2 c2, .bool false], .agg #[.slice A3 n3 c3, .slice A4 n4 c4, .bool false]] w fun e w' => e = .returned (.bool ((false == false) && (r1 && r2))) ∧ Below w.heap.size w w' := by
  have K1 := Lib.hid k1
  have K2 := Lib.hid k2
  clear k1 k2
  cases r1 <;> cases r2
  all_goals
    go_enter Tryd.func32, Tryd.ntmps32
    go_upto_region 1 with fail
    obtain ⟨H0, H1, hB⟩ := two_laid w (.cells #[.slice A1 n1 c1, .slice A2 n2 c2, .bool false] 49) (.cells #[.slice A3 n3 c3, .slice A4 n4 c4, .bool false] 49)
    generalize (w.alloc (.cells #[.slice A1 n1 c1, .slice A2 n2 c2, .bool false] 49)).alloc (.cells #[.slice A3 n3 c3, .slice A4 n4 c4, .bool false] 49) = W at H0 H1 hB ⊢
    obtain ⟨xa0, xa1, xa2, fa0, fa1, fa2⟩ := three_cells H0; obtain ⟨xb0, xb1, xb2, fb0, fb1, fb2⟩ := three_cells H1
    go_wp2_with (first | (go_at_call 52; (with_reducible refine (K1.out _ hB).mono ?_); rintro e w1 ⟨rfl, hb1⟩; replace H0 := (hb1.block _ (lt_heap H0)).trans H0; replace H1 := (hb1.block _ (lt_heap H1)).trans H1; replace hB := below_on hB hb1; clear hb1 xa0 xa1 xa2 fa0 fa1 fa2 xb0 xb1 xb2 fb0 fb1 fb2; obtain ⟨xa0, xa1, xa2, fa0, fa1, fa2⟩ := three_cells H0; obtain ⟨xb0, xb1, xb2, fb0, fb1, fb2⟩ := three_cells H1) | (go_at_call 52; (with_reducible refine (K2.out _ hB).mono ?_); rintro e w1 ⟨rfl, hb1⟩; replace H0 := (hb1.block _ (lt_heap H0)).trans H0; replace H1 := (hb1.block _ (lt_heap H1)).trans H1; replace hB := below_on hB hb1; clear hb1 xa0 xa1 xa2 fa0 fa1 fa2 xb0 xb1 xb2 fb0 fb1 fb2; obtain ⟨xa0, xa1, xa2, fa0, fa1, fa2⟩ := three_cells H0; obtain ⟨xb0, xb1, xb2, fb0, fb1, fb2⟩ := three_cells H1))
    go_ret
    exact ⟨rfl, hB⟩
theorem reqf (A1 A2 A3 A4 : Option Addr) (n1 n2 n3 n4 c1 c2 c3 c4 : Nat) (u1 u2 r1 r2 : Bool) (w : World) (k1 : ∀ W, Below w.heap.size w W → Calls Tryd.prog 52 #[.slice A1 n1 c1, .slice A3 n3 c3] W fun e w' => e = .returned (.bool r1) ∧ Below W.heap.size W w') (k2 : ∀ W, Below w.heap.size w W → Calls Tryd.prog 52 #[.slice A2 n2 c2, .slice A4 n4 c4] W fun e w' => e = .returned (.bool r2) ∧ Below W.heap.size W w') :
    Calls Tryd.prog 32 #[.agg #[.slice A1 n1 c1, .slice A2 n2 c2, .bool u1], .agg #[.slice A3 n3 c3, .slice A4 n4 c4, .bool u2]] w fun e w' => e = .returned (.bool ((u1 == u2) && (r1 && r2))) ∧ Below w.heap.size w w' := by
  cases u1 <;> cases u2
  · exact reqf_false_false A1 A2 A3 A4 n1 n2 n3 n4 c1 c2 c3 c4 r1 r2 w k1 k2
  · exact reqf_false_true A1 A2 A3 A4 n1 n2 n3 n4 c1 c2 c3 c4 r1 r2 w k1 k2
  · exact reqf_true_false A1 A2 A3 A4 n1 n2 n3 n4 c1 c2 c3 c4 r1 r2 w k1 k2
  · exact reqf_true_true A1 A2 A3 A4 n1 n2 n3 n4 c1 c2 c3 c4 r1 r2 w k1 k2
noncomputable def eqM (f g : FM) : Bool := (f.u == g.u) && (allB vtE f.P g.P && allB vtE f.Q g.Q)
theorem reqM (f g : FM) (w : World) (hf : f.ok w) (hg : g.ok w) : Calls Tryd.prog 32 #[(Value.agg #[Value.slice (FM.A1 f) (FM.n1 f) (FM.c1 f), Value.slice (FM.A2 f) (FM.n2 f) (FM.c2 f), Value.bool (FM.u f)]), (Value.agg #[Value.slice (FM.A1 g) (FM.n1 g) (FM.c1 g), Value.slice (FM.A2 g) (FM.n2 g) (FM.c2 g), Value.bool (FM.u g)])] w fun e w' => e = .returned (.bool (eqM f g)) ∧ Below w.heap.size w w' :=
  reqf f.A1 f.A2 g.A1 g.A2 f.n1 f.n2 g.n1 g.n2 f.c1 f.c2 g.c1 g.c2 f.u g.u _ _ w
    (fun W hW => alike_any f.A1 g.A1 f.n1 f.c1 g.n1 g.c1 f.P g.P W (Nat.le_trans hf.l1 hf.x1) (hf.up hW).vp (hg.up hW).vp hf.lp hg.lp hf.l1 hg.l1)
    (fun W hW => alike_any f.A2 g.A2 f.n2 f.c2 g.n2 g.c2 f.Q g.Q W (Nat.le_trans hf.l2 hf.x2) (hf.up hW).vq (hg.up hW).vq hf.lq hg.lq hf.l2 hg.l2)

end Go.Proofs.YtdppooflbjlbcaaDoor.I
