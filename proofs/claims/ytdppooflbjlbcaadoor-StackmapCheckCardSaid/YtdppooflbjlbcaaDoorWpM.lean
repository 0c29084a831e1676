import Derived.Test.YtdppooflbjlbcaaDoorWdM
import Derived.Test.YtdppooflbjlbcaaDoorWhM
import Derived.BigQuiet

/- Wp -/
/- Layer 22: the comparison of codes by the reference of layer 13, where it answers true. (Written by gen/wp.py.) -/
namespace Go.Proofs.YtdppooflbjlbcaaDoor.I
open Go.ChangeShapes Go.WideShapes Go.ChangeAt Go.RowKit Go.PlainAid
set_option linter.unusedSimpArgs false
set_option linter.unusedVariables false

def Lns (w : World) (A : Option Addr) (L : List (Int × Int)) : Prop :=
  L = [] ∨ ∃ g o, A = some ⟨g, o, none⟩ ∧ g < w.heap.size ∧ ∀ (k : Nat) (p : Int × Int), L[k]? = some p → w.cell? ⟨g, o + k * 2, none⟩ = some (.int .i64 p.1) ∧ w.cell? ⟨g, o + k * 2 + 1, none⟩ = some (.int .i64 p.2)
theorem Lns.up {w w' : World} {A : Option Addr} {L : List (Int × Int)} (h : Lns w A L) (hb : Below w.heap.size w w') : Lns w' A L := by
  rcases h with h | ⟨g, o, hA, hg, hc⟩
  · exact Or.inl h
  · refine Or.inr ⟨g, o, hA, Nat.lt_of_lt_of_le hg hb.size, fun k m hm => ?_⟩
    have e := fun j => hb.cell (p := ⟨g, j, none⟩) hg
    obtain ⟨c0, c1⟩ := hc k m hm
    exact ⟨(e _).trans c0, (e _).trans c1⟩
/-- strings in memory -/
def STs (w : World) (A : Option Addr) (L : List ByteArray) : Prop :=
  L = [] ∨ ∃ g o, A = some ⟨g, o, none⟩ ∧ g < w.heap.size ∧ ∀ (k : Nat) (s : ByteArray), L[k]? = some s → w.cell? ⟨g, o + k, none⟩ = some (.string s)
theorem STs.up {w w' : World} {A : Option Addr} {L : List ByteArray} (h : STs w A L) (hb : Below w.heap.size w w') : STs w' A L := by
  rcases h with h | ⟨g, o, hA, hg, hc⟩
  · exact Or.inl h
  · exact Or.inr ⟨g, o, hA, Nat.lt_of_lt_of_le hg hb.size, fun k s hs => (hb.cell (p := ⟨g, o + k, none⟩) hg).trans (hc k s hs)⟩
set_option maxRecDepth 100000 in
set_option maxHeartbeats 8000000 in
theorem same07_yes {A B : Option Addr} {n c d : Nat} {L : List Int} (w : World) (hn : L.length = n) (hN : n ≤ 9223372036854775807) (hA : Row w w.heap.size A L) (hB : Row w w.heap.size B L) :
    Calls Tryd.prog 107 #[.slice A n c, .slice B n d] w fun e w' => e = .returned (.bool true) ∧ Below w.heap.size w w' := by
  have HA := Lib.hid hA
  have HB := Lib.hid hB
  have HN := Lib.hid hn
  clear hA hB hn
  go_enter Tryd.func107, Tryd.ntmps107
  go_wp2
  go_loopw [5] (fun z wr => ∃ k : Nat, k ≤ n ∧ z = .int .i64 k ∧ Below w.heap.size w wr) (fun z _ => n - (intOf z).toNat)
  case atStart => exact ⟨0, Nat.zero_le _, rfl, Below.refl _ _⟩
  case round =>
    obtain ⟨k, hk, rfl, hbr⟩ := hrel
    have HBR := Lib.hid hbr
    have hP := HA.out.up hbr
    have hQ := HB.out.up hbr
    clear hbr
    by_cases hlt : k < n
    · obtain ⟨x, hx⟩ := get_someF (l := L) (k := k) (by rw [HN.out]; exact hlt)
      obtain ⟨gp, op, rfl, hgp, hcp⟩ := row_get hP hx
      obtain ⟨gq, oq, rfl, hgq, hcq⟩ := row_get hQ hx
      have hj0 : (0 : Int) ≤ (k : Int) := by omega
      have hj1 : (k : Int) < (n : Int) := by omega
      clear hP hQ hx
      go_upto_region 6 with fail
      go_quiet (fail)
      go_wp2
      exact ⟨⟨k + 1, hlt, by go_num, below_drV HBR.out _⟩, by simp [intOf]; omega⟩
    · obtain rfl : n = k := by omega
      clear hP hQ
      go_wp2
      go_ret
      exact ⟨rfl, HBR.out⟩
set_option maxRecDepth 100000 in
set_option maxHeartbeats 8000000 in
theorem texts_yes {A B : Option Addr} {n c d : Nat} {L : List ByteArray} (w : World) (hn : L.length = n) (hN : n ≤ 9223372036854775807) (hA : STs w A L) (hB : STs w B L) :
    Calls Tryd.prog 59 #[.slice A n c, .slice B n d] w fun e w' => e = .returned (.bool true) ∧ Below w.heap.size w w' := by
  have HA := Lib.hid hA
  have HB := Lib.hid hB
  have HN := Lib.hid hn
  clear hA hB hn
  go_enter Tryd.func59, Tryd.ntmps59
  go_wp2
  go_loopw [5] (fun z wr => ∃ k : Nat, k ≤ n ∧ z = .int .i64 k ∧ Below w.heap.size w wr) (fun z _ => n - (intOf z).toNat)
  case atStart => exact ⟨0, Nat.zero_le _, rfl, Below.refl _ _⟩
  case round =>
    obtain ⟨k, hk, rfl, hbr⟩ := hrel
    have HBR := Lib.hid hbr
    have hP := HA.out.up hbr
    have hQ := HB.out.up hbr
    clear hbr
    by_cases hlt : k < n
    · obtain ⟨x, hx⟩ := get_someF (l := L) (k := k) (by rw [HN.out]; exact hlt)
      rcases hP with h0 | ⟨gp, op, rfl, hgp, hc1⟩
      · rw [h0] at hx; simp at hx
      rcases hQ with h0 | ⟨gq, oq, rfl, hgq, hc2⟩
      · rw [h0] at hx; simp at hx
      have hcp := hc1 k x hx
      have hcq := hc2 k x hx
      clear hc1 hc2
      have hj0 : (0 : Int) ≤ (k : Int) := by omega
      have hj1 : (k : Int) < (n : Int) := by omega
      clear hx
      go_upto_region 6 with fail
      go_quiet (fail)
      go_wp2
      exact ⟨⟨k + 1, hlt, by go_num, below_drV HBR.out _⟩, by simp [intOf]; omega⟩
    · obtain rfl : n = k := by omega
      clear hP hQ
      go_wp2
      go_ret
      exact ⟨rfl, HBR.out⟩
set_option maxRecDepth 100000 in
set_option maxHeartbeats 4000000 in
theorem svt_any (A1 A2 : Option Addr) (m1 c1 m2 c2 : Nat) (P Q : List VT) (w : World) (hm : m1 ≤ 9223372036854775807) (hP : VS w w.heap.size A1 P) (hQ : VS w w.heap.size A2 Q) (lP : P.length = m1) (lQ : Q.length = m2) (k1 : m1 ≤ c1) (k2 : m2 ≤ c2) :
    Calls Tryd.prog 132 #[.slice A1 m1 c1, .slice A2 m2 c2] w fun e w' => e = .returned (.bool (allB vtE P Q)) ∧ Below w.heap.size w w' := by
  have HP := Lib.hid hP
  have HQ := Lib.hid hQ
  have HLP := Lib.hid lP
  have HLQ := Lib.hid lQ
  clear hP hQ lP lQ
  by_cases hl : m1 = m2
  · subst hl
    go_enter Tryd.func132, Tryd.ntmps132
    go_wp2
    go_loopw [5] (fun iv wr => ∃ i : Nat, iv = .int .i64 i ∧ i ≤ m1 ∧ Hid (Below w.heap.size w wr) ∧ Hid (∀ j a b, j < i → P[j]? = some a → Q[j]? = some b → vtE a b = true)) (fun iv _ => m1 - (intOf iv).toNat)
    case atStart => exact ⟨0, rfl, Nat.zero_le _, Lib.hid (Below.refl _ _), Lib.hid fun j a b h => absurd h (Nat.not_lt_zero _)⟩
    case round =>
      obtain ⟨i, rfl, him, HB, HG⟩ := hrel
      by_cases hlt : i < m1
      · obtain ⟨a, ha⟩ : ∃ a, P[i]? = some a := ⟨_, List.getElem?_eq_getElem (by rw [HLP.out]; exact hlt)⟩
        obtain ⟨b, hb⟩ : ∃ b, Q[i]? = some b := ⟨_, List.getElem?_eq_getElem (by rw [HLQ.out]; exact hlt)⟩
        obtain ⟨g1, o1, rfl, hg1, p0, p1, p2, p3, p4, p5⟩ := HP.out.six ha
        obtain ⟨g2, o2, rfl, hg2, q0, q1, q2, q3, q4, q5⟩ := HQ.out.six hb
        have P0 := (HB.out.cell (p := ⟨g1, o1 + i * 6, none⟩) hg1).trans p0
        have P1 := (HB.out.cell (p := ⟨g1, o1 + i * 6 + 1, none⟩) hg1).trans p1
        have P2 := (HB.out.cell (p := ⟨g1, o1 + i * 6 + 2, none⟩) hg1).trans p2
        have P3 := (HB.out.cell (p := ⟨g1, o1 + i * 6 + 3, none⟩) hg1).trans p3
        have P4 := (HB.out.cell (p := ⟨g1, o1 + i * 6 + 4, none⟩) hg1).trans p4
        have P5 := (HB.out.cell (p := ⟨g1, o1 + i * 6 + 5, none⟩) hg1).trans p5
        have Q0 := (HB.out.cell (p := ⟨g2, o2 + i * 6, none⟩) hg2).trans q0
        have Q1 := (HB.out.cell (p := ⟨g2, o2 + i * 6 + 1, none⟩) hg2).trans q1
        have Q2 := (HB.out.cell (p := ⟨g2, o2 + i * 6 + 2, none⟩) hg2).trans q2
        have Q3 := (HB.out.cell (p := ⟨g2, o2 + i * 6 + 3, none⟩) hg2).trans q3
        have Q4 := (HB.out.cell (p := ⟨g2, o2 + i * 6 + 4, none⟩) hg2).trans q4
        have Q5 := (HB.out.cell (p := ⟨g2, o2 + i * 6 + 5, none⟩) hg2).trans q5
        clear p0 p1 p2 p3 p4 p5 q0 q1 q2 q3 q4 q5
        have hc1 : i < c1 := by omega
        have hc2 : i < c2 := by omega
        cases hE : vtE a b with
        | true =>
          have HGN := Lib.hid (show ∀ j a b, j < i + 1 → P[j]? = some a → Q[j]? = some b → vtE a b = true from fun j x y hj hx hy => by
            rcases Nat.lt_or_ge j i with h | h
            · exact HG.out j x y h hx hy
            · obtain rfl : j = i := by omega
              rw [ha] at hx; rw [hb] at hy
              rw [← Option.some.inj hx, ← Option.some.inj hy]; exact hE)
          have e1 := fun w => vt_neP hE w
          clear ha hb
          go_upto_region 6 with fail
          go_quiet (fail)
          have HB2 := Lib.hid (below_drV HB.out nq)
          go_wp2
          go_roundw
          case rel => exact ⟨i + 1, by go_num, by omega, HB2, HGN⟩
          case measure => simp [intOf]; omega
        | false =>
          have HR := Lib.hid (allB_at ha hb hE)
          have e1 := fun w => vt_neP hE w
          clear ha hb
          go_upto_region 6 with fail
          go_quiet (fail)
          have HB2 := Lib.hid (below_drV HB.out nq)
          go_wp2
          go_ret
          exact ⟨ret_bool HR.out.symm, HB2.out⟩
      · obtain rfl : i = m1 := by omega
        have HR := Lib.hid (allB_yes (R := vtE) (P := P) (Q := Q) ⟨by rw [HLP.out, HLQ.out], fun j a b ha hb => HG.out j a b (by have := lt_of_some ha; rw [HLP.out] at this; exact this) ha hb⟩)
        go_wp2
        go_ret
        exact ⟨ret_bool HR.out.symm, HB.out⟩
  · have hne : ((m1 : Int) != (m2 : Int)) = true := by rw [bne_iff_ne]; omega
    have HR := Lib.hid (allB_no (R := vtE) (P := P) (Q := Q) fun h => hl (by rw [← HLP.out, ← HLQ.out]; exact h.1))
    go_enter Tryd.func132, Tryd.ntmps132
    go_wp2
    go_ret
    exact ⟨ret_bool HR.out.symm, Below.refl _ _⟩
theorem three_cellsS {W : World} {B : Nat} {x y z : Value} {t : TypeId} (h : W.heap[B]? = some (.cells #[x, y, z] t)) : W.cell? ⟨B, 0, none⟩ = some x ∧ W.cell? ⟨B, 1, none⟩ = some y ∧ W.cell? ⟨B, 2, none⟩ = some z := by
  refine ⟨?_, ?_, ?_⟩ <;> simp [World.cell?, h]
set_option maxRecDepth 100000 in
set_option maxHeartbeats 8000000 in
theorem sfr_yes (f : FM) (w : World) (hf : f.ok w) : Calls Tryd.prog 106 #[(Value.agg #[Value.slice (FM.A1 f) (FM.n1 f) (FM.c1 f), Value.slice (FM.A2 f) (FM.n2 f) (FM.c2 f), Value.bool (FM.u f)]), (Value.agg #[Value.slice (FM.A1 f) (FM.n1 f) (FM.c1 f), Value.slice (FM.A2 f) (FM.n2 f) (FM.c2 f), Value.bool (FM.u f)])] w fun e w' => e = .returned (.bool true) ∧ Below w.heap.size w w' := by
  have K1 := Lib.hid (fun (W : World) (hW : Below w.heap.size w W) => by
    have := svt_any f.A1 f.A1 f.n1 f.c1 f.n1 f.c1 f.P f.P W (Nat.le_trans hf.l1 hf.x1) (hf.up hW).vp (hf.up hW).vp hf.lp hf.lp hf.l1 hf.l1
    rw [vtE_all] at this
    exact this)
  have K2 := Lib.hid (fun (W : World) (hW : Below w.heap.size w W) => by
    have := svt_any f.A2 f.A2 f.n2 f.c2 f.n2 f.c2 f.Q f.Q W (Nat.le_trans hf.l2 hf.x2) (hf.up hW).vq (hf.up hW).vq hf.lq hf.lq hf.l2 hf.l2
    rw [vtE_all] at this
    exact this)
  clear hf
  obtain ⟨A1, n1, c1, A2, n2, c2, u, P, Q⟩ := f
  simp only at K1 K2
  have e1 : ∀ w, (binOp .eql 4 (.bool u) (.bool u)).run Tryd.prog w = .ok (.bool true) w := fun w => by cases u <;> first | kernel_rfl | simp [go_sem]
  go_enter Tryd.func106, Tryd.ntmps106
  go_upto_region 1 with fail
  obtain ⟨H0, H1, hB⟩ := two_laidS w (.cells #[.slice A1 n1 c1, .slice A2 n2 c2, .bool u] 49) (.cells #[.slice A1 n1 c1, .slice A2 n2 c2, .bool u] 49)
  generalize (w.alloc (.cells #[.slice A1 n1 c1, .slice A2 n2 c2, .bool u] 49)).alloc (.cells #[.slice A1 n1 c1, .slice A2 n2 c2, .bool u] 49) = W at H0 H1 hB ⊢
  have HX := Lib.hid H0
  have HY := Lib.hid H1
  have HB := Lib.hid hB
  obtain ⟨xa0, xa1, xa2⟩ := three_cellsS H0
  obtain ⟨xb0, xb1, xb2⟩ := three_cellsS H1
  have ya := lt_heap H0
  have yb := lt_heap H1
  clear H0 H1 hB
  go_wp2_with (first | (go_at_call 132; (with_reducible refine (K1.out W HB.out).mono ?_); rintro e w1 ⟨rfl, hb1⟩; have HB1 := Lib.hid hb1; clear xa0 xa1 xa2 xb0 xb1 xb2; obtain ⟨xa0, xa1, xa2⟩ := three_cellsS ((hb1.block _ ya).trans HX.out); obtain ⟨xb0, xb1, xb2⟩ := three_cellsS ((hb1.block _ yb).trans HY.out); have yc := Nat.lt_of_lt_of_le ya hb1.size; have yd := Nat.lt_of_lt_of_le yb hb1.size; clear hb1) | (go_at_call 132; (with_reducible refine (K2.out _ (below_on HB.out HB1.out)).mono ?_); rintro e w2 ⟨rfl, hb2⟩))
  go_ret
  exact ⟨rfl, below_on (below_on HB.out HB1.out) hb2⟩
set_option maxRecDepth 100000 in
set_option maxHeartbeats 16000000 in
theorem smp_yes {A B : Option Addr} {n c d : Nat} {L : List SM} (w : World) (hn : L.length = n) (hN : n ≤ 9223372036854775807) (hA : SMs w A L) (hB : SMs w B L) :
    Calls Tryd.prog 81 #[.slice A n c, .slice B n d] w fun e w' => e = .returned (.bool true) ∧ Below w.heap.size w w' := by
  have HA := Lib.hid hA
  have HB := Lib.hid hB
  have HN := Lib.hid hn
  clear hA hB hn
  go_enter Tryd.func81, Tryd.ntmps81
  go_wp2
  go_loopw [5] (fun z wr => ∃ k : Nat, k ≤ n ∧ z = .int .i64 k ∧ Below w.heap.size w wr) (fun z _ => n - (intOf z).toNat)
  case atStart => exact ⟨0, Nat.zero_le _, rfl, Below.refl _ _⟩
  case round =>
    obtain ⟨k, hk, rfl, hbr⟩ := hrel
    have HBR := Lib.hid hbr
    have hP := HA.out.up hbr
    have hQ := HB.out.up hbr
    clear hbr
    by_cases hlt : k < n
    · obtain ⟨m, hm⟩ := get_someF (l := L) (k := k) (by rw [HN.out]; exact hlt)
      rcases hP with h0 | ⟨gp, op, rfl, hgp, hcp⟩
      · rw [h0] at hm; simp at hm
      rcases hQ with h0 | ⟨gq, oq, rfl, hgq, hcq⟩
      · rw [h0] at hm; simp at hm
      obtain ⟨fok, a0, a1, a2, a3⟩ := hcp k m hm
      obtain ⟨_, b0, b1, b2, b3⟩ := hcq k m hm
      have KE := Lib.hid (fun (W : World) (hW : Below wr.heap.size wr W) => by
        exact sfr_yes m.f W (fok.up hW))
      have hj0 : (0 : Int) ≤ (k : Int) := by omega
      have hj1 : (k : Int) < (n : Int) := by omega
      clear hcp hcq hm fok
      go_upto_region 6 with fail
      go_region_held3 (fun w' => w'.cell? ⟨gp, op + k * 4, none⟩ = some (.int .i64 m.x) ∧ w'.cell? ⟨gp, op + k * 4 + 1, none⟩ = some (.slice m.f.A1 m.f.n1 m.f.c1) ∧ w'.cell? ⟨gp, op + k * 4 + 2, none⟩ = some (.slice m.f.A2 m.f.n2 m.f.c2) ∧ w'.cell? ⟨gp, op + k * 4 + 3, none⟩ = some (.bool m.f.u) ∧ w'.cell? ⟨gq, oq + k * 4, none⟩ = some (.int .i64 m.x) ∧ w'.cell? ⟨gq, oq + k * 4 + 1, none⟩ = some (.slice m.f.A1 m.f.n1 m.f.c1) ∧ w'.cell? ⟨gq, oq + k * 4 + 2, none⟩ = some (.slice m.f.A2 m.f.n2 m.f.c2) ∧ w'.cell? ⟨gq, oq + k * 4 + 3, none⟩ = some (.bool m.f.u) ∧ gp < w'.heap.size ∧ gq < w'.heap.size ∧ Below wr.heap.size wr w') (((try go_split_ands); (repeat' apply And.intro) <;> (first | assumption | exact (Below.refl _ _).drew | (first | exact below_on (w := wr) (by assumption) hq | exact Below.drew (by assumption) | assumption) | exact (Below.cell hq (by first | omega | (simp; omega))).trans (by assumption) | (have := hq.size; omega) | (simp; omega) | go_keep)))
        (first | (go_at_call 106; (with_reducible refine (KE.out _ (by first | assumption | (go_split_ands; assumption))).mono ?_); rintro e w2 ⟨rfl, hq⟩))
      go_split_ands
      have hend : Below wr.heap.size wr w2 := by assumption
      go_wp2
      exact ⟨⟨k + 1, hlt, by go_num, below_on HBR.out hend⟩, by simp [intOf]; omega⟩
    · obtain rfl : n = k := by omega
      clear hP hQ
      go_wp2
      go_ret
      exact ⟨rfl, HBR.out⟩
theorem ref_self (a b c : ByteArray) (w : World) : (binOp .eql 41 (.agg #[.string a, .string b, .string c]) (.agg #[.string a, .string b, .string c])).run Tryd.prog w = .ok (.bool true) w := by simp [go_sem]
set_option maxRecDepth 100000 in
set_option maxHeartbeats 8000000 in
theorem sin_yes (i : In) (w : World) (hi : i.ok w w.heap.size) : Calls Tryd.prog 82 #[(Value.agg #[Value.int IntKind.i64 (In.op i), Value.int IntKind.i64 (In.a i), Value.int IntKind.i64 (In.b i), Value.int IntKind.i64 (In.t i), Value.slice (In.kA i) (In.kn i) (In.kc i), Value.slice (In.tA i) (In.tn i) (In.tc i), Value.string (In.r1 i), Value.string (In.r2 i), Value.string (In.r3 i), Value.string (In.s i)]), (Value.agg #[Value.int IntKind.i64 (In.op i), Value.int IntKind.i64 (In.a i), Value.int IntKind.i64 (In.b i), Value.int IntKind.i64 (In.t i), Value.slice (In.kA i) (In.kn i) (In.kc i), Value.slice (In.tA i) (In.tn i) (In.tc i), Value.string (In.r1 i), Value.string (In.r2 i), Value.string (In.r3 i), Value.string (In.s i)])] w fun e w' => e = .returned (.bool true) ∧ Below w.heap.size w w' := by
  obtain ⟨k1, k2, k3, k4, k5, k6, k7, k8⟩ := hi
  have K1 := Lib.hid (fun (W : World) (hW : Below w.heap.size w W) => same07_yes (A := i.kA) (B := i.kA) (n := i.kn) (c := i.kc) (d := i.kc) (L := i.ks) W k1 (Nat.le_trans k2 k3) (k4.up hW) (k4.up hW))
  have K2 := Lib.hid (fun (W : World) (hW : Below w.heap.size w W) => same07_yes (A := i.tA) (B := i.tA) (n := i.tn) (c := i.tc) (d := i.tc) (L := i.ts) W k5 (Nat.le_trans k6 k7) (k8.up hW) (k8.up hW))
  clear k1 k2 k3 k4 k5 k6 k7 k8
  obtain ⟨op, a, b, t, kA, kn, kc, ks, tA, tn, tc, ts, r1, r2, r3, s⟩ := i
  simp only at K1 K2
  have e1 := fun w => ref_self r1 r2 r3 w
  go_enter Tryd.func82, Tryd.ntmps82
  go_upto_region 1 with fail
  obtain ⟨H0, H1, hB⟩ := two_laidS w (.cells #[.int .i64 op, .int .i64 a, .int .i64 b, .int .i64 t, .slice kA kn kc, .slice tA tn tc, .string r1, .string r2, .string r3, .string s] 43) (.cells #[.int .i64 op, .int .i64 a, .int .i64 b, .int .i64 t, .slice kA kn kc, .slice tA tn tc, .string r1, .string r2, .string r3, .string s] 43)
  generalize (w.alloc (.cells #[.int .i64 op, .int .i64 a, .int .i64 b, .int .i64 t, .slice kA kn kc, .slice tA tn tc, .string r1, .string r2, .string r3, .string s] 43)).alloc (.cells #[.int .i64 op, .int .i64 a, .int .i64 b, .int .i64 t, .slice kA kn kc, .slice tA tn tc, .string r1, .string r2, .string r3, .string s] 43) = W at H0 H1 hB ⊢
  have HX := Lib.hid H0
  have HY := Lib.hid H1
  have HB := Lib.hid hB
  obtain ⟨xa0, xa1, xa2, xa3, xa4, xa5, xa6, xa7, xa8, xa9⟩ := ten_cells H0
  obtain ⟨xb0, xb1, xb2, xb3, xb4, xb5, xb6, xb7, xb8, xb9⟩ := ten_cells H1
  have ya := lt_heap H0
  have yb := lt_heap H1
  clear H0 H1 hB
  go_wp2_with (first | (go_at_call 107; (with_reducible refine (K1.out W HB.out).mono ?_); rintro e w1 ⟨rfl, hb1⟩; have HB1 := Lib.hid hb1; clear xa0 xa1 xa2 xa3 xa4 xa5 xa6 xa7 xa8 xa9 xb0 xb1 xb2 xb3 xb4 xb5 xb6 xb7 xb8 xb9; obtain ⟨xa0, xa1, xa2, xa3, xa4, xa5, xa6, xa7, xa8, xa9⟩ := ten_cells ((hb1.block _ ya).trans HX.out); obtain ⟨xb0, xb1, xb2, xb3, xb4, xb5, xb6, xb7, xb8, xb9⟩ := ten_cells ((hb1.block _ yb).trans HY.out); have yc := Nat.lt_of_lt_of_le ya hb1.size; have yd := Nat.lt_of_lt_of_le yb hb1.size; clear hb1) | (go_at_call 107; (with_reducible refine (K2.out _ (below_on HB.out HB1.out)).mono ?_); rintro e w2 ⟨rfl, hb2⟩))
  go_ret
  exact ⟨rfl, below_on (below_on HB.out HB1.out) hb2⟩

end Go.Proofs.YtdppooflbjlbcaaDoor.I

/- Wq -/
/- Layer 22: codes compared by the reference of layer 13, where it answers true. (Written by gen/wq.py.) -/
namespace Go.Proofs.YtdppooflbjlbcaaDoor.I
open Go.ChangeShapes Go.WideShapes Go.ChangeAt Go.RowKit Go.PlainAid
set_option linter.unusedSimpArgs false
set_option linter.unusedVariables false

/-- code in memory, with its stack maps and lines, of any size -/
structure Cd.mem (w : World) (c : Cd) (ms : List SM) (ls : List (Int × Int)) : Prop where
  raw : c.raw22 w
  ml : ms.length = c.mn
  mw : SMs w c.mA ms
  mb : c.mn ≤ 9223372036854775807
  ll : ls.length = c.ln
  lw : Lns w c.lA ls
  lb : c.ln ≤ 9223372036854775807
theorem Cd.mem.up {w w' : World} {c : Cd} {ms : List SM} {ls : List (Int × Int)} (h : c.mem w ms ls) (hb : Below w.heap.size w w') : c.mem w' ms ls := ⟨h.raw.up hb, h.ml, h.mw.up hb, h.mb, h.ll, h.lw.up hb, h.lb⟩
theorem hd_self (a b c d : Int) (s : ByteArray) (w : World) : (binOp .neq 46 (.agg #[.int .i64 a, .int .i64 b, .int .i64 c, .int .i64 d, .string s]) (.agg #[.int .i64 a, .int .i64 b, .int .i64 c, .int .i64 d, .string s])).run Tryd.prog w = .ok (.bool false) w := by simp [go_sem]
theorem ln_self (a b : Int) (w : World) : (binOp .neq 53 (.agg #[.int .i64 a, .int .i64 b]) (.agg #[.int .i64 a, .int .i64 b])).run Tryd.prog w = .ok (.bool false) w := by simp [go_sem]
set_option maxRecDepth 100000 in
set_option maxHeartbeats 16000000 in
theorem scd_yes (c : Cd) (mB : Option Addr) (md : Nat) (ms : List SM) (ls : List (Int × Int)) (w : World) (hok : c.mem w ms ls) (hB : SMs w mB ms) :
    Calls Tryd.prog 60 #[(Value.agg #[Value.int IntKind.i64 (Cd.st c), Value.int IntKind.i64 (Cd.lo c), Value.slice (Cd.iA c) (Cd.n c) (Cd.ic c), Value.slice (Cd.hA c) (Cd.hn c) (Cd.hc c), Value.slice (Cd.mA c) (Cd.mn c) (Cd.mc c), Value.slice (Cd.lA c) (Cd.ln c) (Cd.lc c)]), .agg #[.int .i64 c.st, .int .i64 c.lo, .slice c.iA c.n c.ic, .slice c.hA c.hn c.hc, .slice mB c.mn md, .slice c.lA c.ln c.lc]] w fun e w' => e = .returned (.bool true) ∧ Below w.heap.size w w' := by
  obtain ⟨⟨il, iw, ib, hl, hw, hb, _⟩, ml, mw, mb, ll, lw, lb⟩ := hok
  have KM := Lib.hid (fun (W : World) (hW : Below w.heap.size w W) => smp_yes (A := c.mA) (B := mB) (n := c.mn) (c := c.mc) (d := md) (L := ms) W ml mb (mw.up hW) (hB.up hW))
  have HI := Lib.hid iw
  have HIL := Lib.hid il
  have HH := Lib.hid hw
  have HHL := Lib.hid hl
  have HL := Lib.hid lw
  have HLL := Lib.hid ll
  clear il iw hl hw ml mw ll lw hB
  obtain ⟨st, lo, iA, n, ic, is, hA, hn, hc, hs, mA, mn, mc, lA, ln, lc⟩ := c
  simp only at KM HI HIL HH HHL HL HLL ib hb mb lb ⊢
  go_enter Tryd.func60, Tryd.ntmps60
  go_upto_region 1 with fail
  obtain ⟨H0, H1, hB⟩ := two_laidS w (.cells #[.int .i64 st, .int .i64 lo, .slice iA n ic, .slice hA hn hc, .slice mA mn mc, .slice lA ln lc] 27) (.cells #[.int .i64 st, .int .i64 lo, .slice iA n ic, .slice hA hn hc, .slice mB mn md, .slice lA ln lc] 27)
  generalize (w.alloc (.cells #[.int .i64 st, .int .i64 lo, .slice iA n ic, .slice hA hn hc, .slice mA mn mc, .slice lA ln lc] 27)).alloc (.cells #[.int .i64 st, .int .i64 lo, .slice iA n ic, .slice hA hn hc, .slice mB mn md, .slice lA ln lc] 27) = W at H0 H1 hB ⊢
  have HX := Lib.hid H0
  have HY := Lib.hid H1
  have HB := Lib.hid hB
  obtain ⟨xa0, xa1, xa2, xa3, xa4, xa5⟩ := six_cells H0
  obtain ⟨xb0, xb1, xb2, xb3, xb4, xb5⟩ := six_cells H1
  have ya := lt_heap H0
  have yb := lt_heap H1
  clear H0 H1 hB
  go_upto_region 4 with (go_at_call 81; (with_reducible refine (KM.out W HB.out).mono ?_); rintro e w1 ⟨rfl, hb1⟩)
  have HX1 := Lib.hid ((hb1.block _ ya).trans HX.out)
  have HY1 := Lib.hid ((hb1.block _ yb).trans HY.out)
  have HB1 := Lib.hid (below_on HB.out hb1)
  clear xa0 xa1 xa2 xa3 xa4 xa5 xb0 xb1 xb2 xb3 xb4 xb5 ya yb hb1 HX HY HB KM
  obtain ⟨wB, hwB⟩ : ∃ wB, wB = w1 := ⟨_, rfl⟩
  subst hwB
  go_loopw [5] (fun z wr => ∃ k : Nat, k ≤ n ∧ z = .int .i64 k ∧ Below wB.heap.size wB wr) (fun z _ => n - (intOf z).toNat)
  case atStart => exact ⟨0, Nat.zero_le _, rfl, Below.refl _ _⟩
  case round =>
    obtain ⟨k, hk, rfl, hbr⟩ := hrel
    have HBR := Lib.hid hbr
    have hx := (hbr.block _ (lt_heap HX1.out)).trans HX1.out
    have hy := (hbr.block _ (lt_heap HY1.out)).trans HY1.out
    have hib := HI.out.up (below_on HB1.out hbr)
    have HXr := Lib.hid hx
    have HYr := Lib.hid hy
    obtain ⟨xa0, xa1, xa2, xa3, xa4, xa5⟩ := six_cells hx
    obtain ⟨xb0, xb1, xb2, xb3, xb4, xb5⟩ := six_cells hy
    have ya := lt_heap hx
    have yb := lt_heap hy
    clear hx hy hbr
    by_cases hlt : k < n
    · obtain ⟨i, hi⟩ := get_someF (l := is) (k := k) (by rw [HIL.out]; exact hlt)
      rcases hib with h0 | ⟨g, o, rfl, hg, hcell⟩
      · rw [h0] at hi; simp at hi
      obtain ⟨iok, a0, a1, a2, a3, a4, a5, a6, a7, a8, a9⟩ := hcell k _ hi
      have KI := Lib.hid (fun (W : World) (hW : Below wr.heap.size wr W) => sin_yes i W (iok.up hW))
      have hk0 : (0 : Int) ≤ (k : Int) := by omega
      have hk1 : (k : Int) < (n : Int) := by omega
      clear hcell hi iok
      go_upto_region 6 with fail
      go_region_held3 (fun w' => (w'.cell? ⟨w.heap.size, 2, none⟩ = some (.slice (some ⟨g, o, none⟩) n ic) ∧ w'.cell? ⟨w.heap.size + 1, 2, none⟩ = some (.slice (some ⟨g, o, none⟩) n ic)) ∧ (w'.cell? ⟨g, o + k * 10, none⟩ = some (.int .i64 i.op) ∧ w'.cell? ⟨g, o + k * 10 + 1, none⟩ = some (.int .i64 i.a) ∧ w'.cell? ⟨g, o + k * 10 + 2, none⟩ = some (.int .i64 i.b) ∧ w'.cell? ⟨g, o + k * 10 + 3, none⟩ = some (.int .i64 i.t) ∧ w'.cell? ⟨g, o + k * 10 + 4, none⟩ = some (.slice i.kA i.kn i.kc) ∧ w'.cell? ⟨g, o + k * 10 + 5, none⟩ = some (.slice i.tA i.tn i.tc) ∧ w'.cell? ⟨g, o + k * 10 + 6, none⟩ = some (.string i.r1) ∧ w'.cell? ⟨g, o + k * 10 + 7, none⟩ = some (.string i.r2) ∧ w'.cell? ⟨g, o + k * 10 + 8, none⟩ = some (.string i.r3) ∧ w'.cell? ⟨g, o + k * 10 + 9, none⟩ = some (.string i.s)) ∧ w.heap.size < w'.heap.size ∧ w.heap.size + 1 < w'.heap.size ∧ g < w'.heap.size ∧ Below wr.heap.size wr w') (((try go_split_ands); (repeat' apply And.intro) <;> (first | assumption | exact (Below.refl _ _).drew | (first | exact below_on (w := wr) (by assumption) hq | exact Below.drew (by assumption) | assumption) | exact (Below.cell hq (by first | omega | (simp; omega))).trans (by assumption) | (have := hq.size; omega) | (simp; omega) | go_keep)))
        (first | (go_at_call 82; (with_reducible refine (KI.out _ (by first | assumption | (go_split_ands; assumption))).mono ?_); rintro e w2 ⟨rfl, hq⟩))
      go_split_ands
      have hend : Below wr.heap.size wr w2 := by assumption
      go_wp2
      exact ⟨⟨k + 1, hlt, by go_num, below_on HBR.out hend⟩, by simp [intOf]; omega⟩
    · obtain rfl : n = k := by omega
      clear hib
      go_upto_region 9 with fail
      have HB2 := Lib.hid (below_on HB1.out HBR.out)
      clear xa0 xa1 xa2 xa3 xa4 xa5 xb0 xb1 xb2 xb3 xb4 xb5 ya yb HBR HX1 HY1 HB1
      obtain ⟨wC, hwC⟩ : ∃ wC, wC = wr := ⟨_, rfl⟩
      subst hwC
      go_loopw [6] (fun z wr => ∃ k : Nat, k ≤ hn ∧ z = .int .i64 k ∧ Below wC.heap.size wC wr) (fun z _ => hn - (intOf z).toNat)
      case atStart => exact ⟨0, Nat.zero_le _, rfl, Below.refl _ _⟩
      case round =>
        obtain ⟨k, hk, rfl, hbr⟩ := hrel
        have HBR := Lib.hid hbr
        have hx := (hbr.block _ (lt_heap HXr.out)).trans HXr.out
        have hy := (hbr.block _ (lt_heap HYr.out)).trans HYr.out
        have hhb := HH.out.up (below_on HB2.out hbr)
        have HXs := Lib.hid hx
        have HYs := Lib.hid hy
        obtain ⟨xa0, xa1, xa2, xa3, xa4, xa5⟩ := six_cells hx
        obtain ⟨xb0, xb1, xb2, xb3, xb4, xb5⟩ := six_cells hy
        have ya := lt_heap hx
        have yb := lt_heap hy
        clear hx hy hbr
        by_cases hlt : k < hn
        · obtain ⟨h, hh⟩ := get_someF (l := hs) (k := k) (by rw [HHL.out]; exact hlt)
          rcases hhb with h0 | ⟨g, o, rfl, hg, hcell⟩
          · rw [h0] at hh; simp at hh
          obtain ⟨a0, a1, a2, a3, a4⟩ := hcell k _ hh
          have e1 := fun w => hd_self h.f h.t h.g h.k h.s w
          have hk0 : (0 : Int) ≤ (k : Int) := by omega
          have hk1 : (k : Int) < (hn : Int) := by omega
          clear hcell hh
          go_upto_region 11 with fail
          go_quiet (fail)
          go_wp2
          exact ⟨⟨k + 1, hlt, by go_num, below_drV HBR.out _⟩, by simp [intOf]; omega⟩
        · obtain rfl : hn = k := by omega
          clear hhb
          go_upto_region 14 with fail
          have HB3 := Lib.hid (below_on HB2.out HBR.out)
          clear xa0 xa1 xa2 xa3 xa4 xa5 xb0 xb1 xb2 xb3 xb4 xb5 ya yb HBR HXr HYr HB2
          obtain ⟨wD, hwD⟩ : ∃ wD, wD = wr := ⟨_, rfl⟩
          subst hwD
          go_loopw [7] (fun z wr => ∃ k : Nat, k ≤ ln ∧ z = .int .i64 k ∧ Below wD.heap.size wD wr) (fun z _ => ln - (intOf z).toNat)
          case atStart => exact ⟨0, Nat.zero_le _, rfl, Below.refl _ _⟩
          case round =>
            obtain ⟨k, hk, rfl, hbr⟩ := hrel
            have HBR := Lib.hid hbr
            have hx := (hbr.block _ (lt_heap HXs.out)).trans HXs.out
            have hy := (hbr.block _ (lt_heap HYs.out)).trans HYs.out
            have hlb := HL.out.up (below_on HB3.out hbr)
            obtain ⟨xa0, xa1, xa2, xa3, xa4, xa5⟩ := six_cells hx
            obtain ⟨xb0, xb1, xb2, xb3, xb4, xb5⟩ := six_cells hy
            have ya := lt_heap hx
            have yb := lt_heap hy
            clear hx hy hbr
            by_cases hlt : k < ln
            · obtain ⟨h, hh⟩ := get_someF (l := ls) (k := k) (by rw [HLL.out]; exact hlt)
              rcases hlb with h0 | ⟨g, o, rfl, hg, hcell⟩
              · rw [h0] at hh; simp at hh
              obtain ⟨a0, a1⟩ := hcell k _ hh
              have e1 := fun w => ln_self h.1 h.2 w
              have hk0 : (0 : Int) ≤ (k : Int) := by omega
              have hk1 : (k : Int) < (ln : Int) := by omega
              clear hcell hh
              go_upto_region 16 with fail
              go_quiet (fail)
              go_wp2
              exact ⟨⟨k + 1, hlt, by go_num, below_drV HBR.out _⟩, by simp [intOf]; omega⟩
            · obtain rfl : ln = k := by omega
              clear hlb
              go_wp2
              go_ret
              exact ⟨rfl, below_on HB3.out HBR.out⟩

end Go.Proofs.YtdppooflbjlbcaaDoor.I
