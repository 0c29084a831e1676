import Derived.Test.YtdppooflbjlbcaaDoorWpM
import Derived.Test.YtdppooflbjlbcaaDoorReg
import Derived.BigQuiet

/- Wr -/
/- Layer 22: class models in memory; Equal of layer 13's reference where it answers true. (Written by gen/wr.py.) -/
namespace Go.Proofs.YtdppooflbjlbcaaDoor.I
open Go.ChangeShapes Go.WideShapes Go.ChangeAt Go.RowKit Go.PlainAid
set_option linter.unusedSimpArgs false
set_option linter.unusedVariables false

/-- a field of a class model -/
structure Fld where
  fl : Int
  nm : ByteArray
  ds : ByteArray
  k : Int
  n : Int
  s : ByteArray
def Fls (w : World) (A : Option Addr) (L : List Fld) : Prop :=
  L = [] ∨ ∃ g o, A = some ⟨g, o, none⟩ ∧ g < w.heap.size ∧ ∀ (k : Nat) (x : Fld), L[k]? = some x → w.cell? ⟨g, o + k * 6, none⟩ = some (.int .i64 x.fl) ∧ w.cell? ⟨g, o + k * 6 + 1, none⟩ = some (.string x.nm) ∧ w.cell? ⟨g, o + k * 6 + 2, none⟩ = some (.string x.ds) ∧ w.cell? ⟨g, o + k * 6 + 3, none⟩ = some (.int .i64 x.k) ∧ w.cell? ⟨g, o + k * 6 + 4, none⟩ = some (.int .i64 x.n) ∧ w.cell? ⟨g, o + k * 6 + 5, none⟩ = some (.string x.s)
theorem Fls.up {w w' : World} {A : Option Addr} {L : List Fld} (h : Fls w A L) (hb : Below w.heap.size w w') : Fls w' A L := by
  rcases h with h | ⟨g, o, hA, hg, hc⟩
  · exact Or.inl h
  · refine Or.inr ⟨g, o, hA, Nat.lt_of_lt_of_le hg hb.size, fun k x hx => ?_⟩
    have e := fun j => hb.cell (p := ⟨g, j, none⟩) hg
    obtain ⟨c0, c1, c2, c3, c4, c5⟩ := hc k x hx
    exact ⟨(e _).trans c0, (e _).trans c1, (e _).trans c2, (e _).trans c3, (e _).trans c4, (e _).trans c5⟩
/-- a method of a class model -/
structure Me where
  fl : Int
  nm : ByteArray
  ds : ByteArray
  hc : Bool
  c : Cd
  ms : List SM
  ls : List (Int × Int)
  eA : Option Addr
  en : Nat
  ec : Nat
  ex : List ByteArray
structure Me.ok (w : World) (m : Me) : Prop where
  mem : m.c.mem w m.ms m.ls
  el : m.ex.length = m.en
  ew : STs w m.eA m.ex
  eb : m.en ≤ 9223372036854775807
theorem Me.ok.up {w w' : World} {m : Me} (h : m.ok w) (hb : Below w.heap.size w w') : m.ok w' := ⟨h.mem.up hb, h.el, h.ew.up hb, h.eb⟩
def MeAt (w : World) (g o k : Nat) (m : Me) : Prop := w.cell? ⟨g, o + k * 11, none⟩ = some (.int .i64 m.fl) ∧ w.cell? ⟨g, o + k * 11 + 1, none⟩ = some (.string m.nm) ∧ w.cell? ⟨g, o + k * 11 + 2, none⟩ = some (.string m.ds) ∧ w.cell? ⟨g, o + k * 11 + 3, none⟩ = some (.bool m.hc) ∧ w.cell? ⟨g, o + k * 11 + 4, none⟩ = some (.int .i64 m.c.st) ∧ w.cell? ⟨g, o + k * 11 + 5, none⟩ = some (.int .i64 m.c.lo) ∧ w.cell? ⟨g, o + k * 11 + 6, none⟩ = some (.slice m.c.iA m.c.n m.c.ic) ∧ w.cell? ⟨g, o + k * 11 + 7, none⟩ = some (.slice m.c.hA m.c.hn m.c.hc) ∧ w.cell? ⟨g, o + k * 11 + 8, none⟩ = some (.slice m.c.mA m.c.mn m.c.mc) ∧ w.cell? ⟨g, o + k * 11 + 9, none⟩ = some (.slice m.c.lA m.c.ln m.c.lc) ∧ w.cell? ⟨g, o + k * 11 + 10, none⟩ = some (.slice m.eA m.en m.ec)
theorem MeAt.up {w w' : World} {g o k : Nat} {m : Me} (h : MeAt w g o k m) (hg : g < w.heap.size) (hb : Below w.heap.size w w') : MeAt w' g o k m := by
  have e := fun j => hb.cell (p := ⟨g, j, none⟩) hg
  obtain ⟨c0, c1, c2, c3, c4, c5, c6, c7, c8, c9, c10⟩ := h
  exact ⟨(e _).trans c0, (e _).trans c1, (e _).trans c2, (e _).trans c3, (e _).trans c4, (e _).trans c5, (e _).trans c6, (e _).trans c7, (e _).trans c8, (e _).trans c9, (e _).trans c10⟩
def Mes (w : World) (A : Option Addr) (L : List Me) : Prop :=
  L = [] ∨ ∃ g o, A = some ⟨g, o, none⟩ ∧ g < w.heap.size ∧ ∀ (k : Nat) (m : Me), L[k]? = some m → m.ok w ∧ MeAt w g o k m
theorem Mes.up {w w' : World} {A : Option Addr} {L : List Me} (h : Mes w A L) (hb : Below w.heap.size w w') : Mes w' A L := by
  rcases h with h | ⟨g, o, hA, hg, hc⟩
  · exact Or.inl h
  · exact Or.inr ⟨g, o, hA, Nat.lt_of_lt_of_le hg hb.size, fun k x hx => ⟨(hc k x hx).1.up hb, (hc k x hx).2.up hg hb⟩⟩
/-- a class model -/
structure CM where
  fl : Int
  nm : ByteArray
  su : ByteArray
  iA : Option Addr
  inn : Nat
  ic : Nat
  is : List ByteArray
  fA : Option Addr
  fn : Nat
  fc : Nat
  fs : List Fld
  mA : Option Addr
  mn : Nat
  mc : Nat
  mm : List Me
  so : ByteArray
structure CM.ok (w : World) (u : CM) : Prop where
  il : u.is.length = u.inn
  iw : STs w u.iA u.is
  ib : u.inn ≤ 9223372036854775807
  fl : u.fs.length = u.fn
  fw : Fls w u.fA u.fs
  fb : u.fn ≤ 9223372036854775807
  ml : u.mm.length = u.mn
  mw : Mes w u.mA u.mm
  mb : u.mn ≤ 9223372036854775807
theorem CM.ok.up {w w' : World} {u : CM} (h : u.ok w) (hb : Below w.heap.size w w') : u.ok w' := ⟨h.il, h.iw.up hb, h.ib, h.fl, h.fw.up hb, h.fb, h.ml, h.mw.up hb, h.mb⟩
/-- the same method, its maps elsewhere -/
def SameMe (m m' : Me) : Prop := ∃ (B : Option Addr) (d : Nat), m' = { m with c := { m.c with mA := B, mc := d } }
theorem fd_self (a b c : Int) (s t u : ByteArray) (w : World) : (binOp .neq 101 (.agg #[.int .i64 a, .string s, .string t, .int .i64 b, .int .i64 c, .string u]) (.agg #[.int .i64 a, .string s, .string t, .int .i64 b, .int .i64 c, .string u])).run Tryd.prog w = .ok (.bool false) w := by simp [go_sem]
theorem bne_self22 (b : Bool) (w : World) : (binOp .neq 4 (.bool b) (.bool b)).run Tryd.prog w = .ok (.bool false) w := by
  cases b <;> first | kernel_rfl | simp [go_sem]
theorem seven_cellsR {W : World} {B : Nat} {a b c d e f g : Value} {t : TypeId} (hh : W.heap[B]? = some (.cells #[a, b, c, d, e, f, g] t)) :
    W.cell? ⟨B, 0, none⟩ = some a ∧ W.cell? ⟨B, 1, none⟩ = some b ∧ W.cell? ⟨B, 2, none⟩ = some c ∧ W.cell? ⟨B, 3, none⟩ = some d ∧ W.cell? ⟨B, 4, none⟩ = some e ∧ W.cell? ⟨B, 5, none⟩ = some f ∧ W.cell? ⟨B, 6, none⟩ = some g := by
  refine ⟨?_, ?_, ?_, ?_, ?_, ?_, ?_⟩ <;> simp [World.cell?, hh]
theorem eleven_cells {W : World} {B : Nat} {a b c d e f g h i j k : Value} {t : TypeId} (hh : W.heap[B]? = some (.cells #[a, b, c, d, e, f, g, h, i, j, k] t)) :
    W.cell? ⟨B, 0, none⟩ = some a ∧ W.cell? ⟨B, 1, none⟩ = some b ∧ W.cell? ⟨B, 2, none⟩ = some c ∧ W.cell? ⟨B, 3, none⟩ = some d ∧ W.cell? ⟨B, 4, none⟩ = some e ∧ W.cell? ⟨B, 5, none⟩ = some f ∧ W.cell? ⟨B, 6, none⟩ = some g ∧ W.cell? ⟨B, 7, none⟩ = some h ∧ W.cell? ⟨B, 8, none⟩ = some i ∧ W.cell? ⟨B, 9, none⟩ = some j ∧ W.cell? ⟨B, 10, none⟩ = some k := by
  refine ⟨?_, ?_, ?_, ?_, ?_, ?_, ?_, ?_, ?_, ?_, ?_⟩ <;> simp [World.cell?, hh]
set_option maxRecDepth 100000 in
set_option maxHeartbeats 40000000 in
theorem eq_yes (u : CM) (mB : Option Addr) (md : Nat) (L' : List Me) (w : World) (hu : u.ok w) (hL : Mes w mB L') (hl : L'.length = u.mn) (hs : ∀ (k : Nat) (m m' : Me), u.mm[k]? = some m → L'[k]? = some m' → SameMe m m') :
    Calls Tryd.prog 37 #[.agg #[.int .i64 u.fl, .string u.nm, .string u.su, .slice u.iA u.inn u.ic, .slice u.fA u.fn u.fc, .slice u.mA u.mn u.mc, .string u.so], .agg #[.int .i64 u.fl, .string u.nm, .string u.su, .slice u.iA u.inn u.ic, .slice u.fA u.fn u.fc, .slice mB u.mn md, .string u.so]] w fun e w' => e = .returned (.bool true) ∧ Below w.heap.size w w' := by
  obtain ⟨il, iw, ib, fl', fw, fb, ml, mw, mb⟩ := hu
  have KI := Lib.hid (fun (W : World) (hW : Below w.heap.size w W) => texts_yes (A := u.iA) (B := u.iA) (n := u.inn) (c := u.ic) (d := u.ic) (L := u.is) W il ib (iw.up hW) (iw.up hW))
  have HF := Lib.hid fw
  have HFL := Lib.hid fl'
  have HM := Lib.hid mw
  have HML := Lib.hid ml
  have HN := Lib.hid hL
  have HNL := Lib.hid hl
  have HS := Lib.hid hs
  clear il iw fl' fw ml mw hL hl hs
  obtain ⟨fl, nm, su, iA, inn, ic, is, fA, fn, fc, fs, mA, mn, mc, mm, so⟩ := u
  simp only at KI HF HFL HM HML HNL HS ib fb mb ⊢
  go_enter Tryd.func37, Tryd.ntmps37
  go_upto_region 1 with fail
  obtain ⟨H0, H1, hB⟩ := two_laidS w (.cells #[.int .i64 fl, .string nm, .string su, .slice iA inn ic, .slice fA fn fc, .slice mA mn mc, .string so] 69) (.cells #[.int .i64 fl, .string nm, .string su, .slice iA inn ic, .slice fA fn fc, .slice mB mn md, .string so] 69)
  generalize (w.alloc (.cells #[.int .i64 fl, .string nm, .string su, .slice iA inn ic, .slice fA fn fc, .slice mA mn mc, .string so] 69)).alloc (.cells #[.int .i64 fl, .string nm, .string su, .slice iA inn ic, .slice fA fn fc, .slice mB mn md, .string so] 69) = W at H0 H1 hB ⊢
  have HX := Lib.hid H0
  have HY := Lib.hid H1
  have HB := Lib.hid hB
  obtain ⟨xa0, xa1, xa2, xa3, xa4, xa5, xa6⟩ := seven_cellsR H0
  obtain ⟨xb0, xb1, xb2, xb3, xb4, xb5, xb6⟩ := seven_cellsR H1
  have ya := lt_heap H0
  have yb := lt_heap H1
  clear H0 H1 hB
  go_upto_region 4 with (go_at_call 59; (with_reducible refine (KI.out W HB.out).mono ?_); rintro e w1 ⟨rfl, hb1⟩; clear xa0 xa1 xa2 xa3 xa4 xa5 xa6 xb0 xb1 xb2 xb3 xb4 xb5 xb6; obtain ⟨xa0, xa1, xa2, xa3, xa4, xa5, xa6⟩ := seven_cellsR ((hb1.block _ ya).trans HX.out); obtain ⟨xb0, xb1, xb2, xb3, xb4, xb5, xb6⟩ := seven_cellsR ((hb1.block _ yb).trans HY.out); have yc := Nat.lt_of_lt_of_le ya hb1.size; have yd := Nat.lt_of_lt_of_le yb hb1.size)
  have HX1 := Lib.hid ((hb1.block _ ya).trans HX.out)
  have HY1 := Lib.hid ((hb1.block _ yb).trans HY.out)
  have HB1 := Lib.hid (below_on HB.out hb1)
  clear xa0 xa1 xa2 xa3 xa4 xa5 xa6 xb0 xb1 xb2 xb3 xb4 xb5 xb6 ya yb yc yd hb1 HX HY HB KI
  obtain ⟨wB, hwB⟩ : ∃ wB, wB = w1 := ⟨_, rfl⟩
  subst hwB
  go_loopw [5] (fun z wr => ∃ k : Nat, k ≤ fn ∧ z = .int .i64 k ∧ Below wB.heap.size wB wr) (fun z _ => fn - (intOf z).toNat)
  case atStart => exact ⟨0, Nat.zero_le _, rfl, Below.refl _ _⟩
  case round =>
    obtain ⟨k, hk, rfl, hbr⟩ := hrel
    have HBR := Lib.hid hbr
    have hx := (hbr.block _ (lt_heap HX1.out)).trans HX1.out
    have hy := (hbr.block _ (lt_heap HY1.out)).trans HY1.out
    have hfb := HF.out.up (below_on HB1.out hbr)
    have HXr := Lib.hid hx
    have HYr := Lib.hid hy
    obtain ⟨xa0, xa1, xa2, xa3, xa4, xa5, xa6⟩ := seven_cellsR hx
    obtain ⟨xb0, xb1, xb2, xb3, xb4, xb5, xb6⟩ := seven_cellsR hy
    have ya := lt_heap hx
    have yb := lt_heap hy
    clear hx hy hbr
    by_cases hlt : k < fn
    · obtain ⟨x, hx⟩ := get_someF (l := fs) (k := k) (by rw [HFL.out]; exact hlt)
      rcases hfb with h0 | ⟨g, o, rfl, hg, hcell⟩
      · rw [h0] at hx; simp at hx
      obtain ⟨a0, a1, a2, a3, a4, a5⟩ := hcell k _ hx
      have e1 := fun w => fd_self x.fl x.k x.n x.nm x.ds x.s w
      have hk0 : (0 : Int) ≤ (k : Int) := by omega
      have hk1 : (k : Int) < (fn : Int) := by omega
      clear hcell hx
      go_upto_region 6 with fail
      go_quiet (fail)
      go_wp2
      exact ⟨⟨k + 1, hlt, by go_num, below_drV HBR.out _⟩, by simp [intOf]; omega⟩
    · obtain rfl : fn = k := by omega
      clear hfb
      go_upto_region 9 with fail
      have HB2 := Lib.hid (below_on HB1.out HBR.out)
      have HX2 := Lib.hid HXr.out
      have HY2 := Lib.hid HYr.out
      clear xa0 xa1 xa2 xa3 xa4 xa5 xa6 xb0 xb1 xb2 xb3 xb4 xb5 xb6 ya yb HBR HX1 HY1 HB1 HXr HYr
      obtain ⟨wC, hwC⟩ : ∃ wC, wC = wr := ⟨_, rfl⟩
      subst hwC
      go_loopw [6] (fun z wr => ∃ k : Nat, k ≤ mn ∧ z = .int .i64 k ∧ Below wC.heap.size wC wr) (fun z _ => mn - (intOf z).toNat)
      case atStart => exact ⟨0, Nat.zero_le _, rfl, Below.refl _ _⟩
      case round =>
        obtain ⟨k, hk, rfl, hbr⟩ := hrel
        have HBR := Lib.hid hbr
        have hx := (hbr.block _ (lt_heap HX2.out)).trans HX2.out
        have hy := (hbr.block _ (lt_heap HY2.out)).trans HY2.out
        have hmb := HM.out.up (below_on HB2.out hbr)
        have hnb := HN.out.up (below_on HB2.out hbr)
        have HXr := Lib.hid hx
        have HYr := Lib.hid hy
        obtain ⟨xa0, xa1, xa2, xa3, xa4, xa5, xa6⟩ := seven_cellsR hx
        obtain ⟨xb0, xb1, xb2, xb3, xb4, xb5, xb6⟩ := seven_cellsR hy
        have ya := lt_heap hx
        have yb := lt_heap hy
        clear hx hy hbr
        by_cases hlt : k < mn
        · obtain ⟨m, hm⟩ := get_someF (l := mm) (k := k) (by rw [HML.out]; exact hlt)
          obtain ⟨m', hm'⟩ := get_someF (l := L') (k := k) (by rw [HNL.out]; exact hlt)
          obtain ⟨mB2, md2, rfl⟩ := HS.out k m m' hm hm'
          rcases hmb with h0 | ⟨g, o, rfl, hg, hcell⟩
          · rw [h0] at hm; simp at hm
          rcases hnb with h0 | ⟨g2, o2, rfl, hg2, hcell2⟩
          · rw [h0] at hm'; simp at hm'
          obtain ⟨mok, hma⟩ := hcell k _ hm
          obtain ⟨mok2, hmb2⟩ := hcell2 k _ hm'
          have KT := Lib.hid (fun (W : World) (hW : Below wr.heap.size wr W) => texts_yes (A := m.eA) (B := m.eA) (n := m.en) (c := m.ec) (d := m.ec) (L := m.ex) W mok.el mok.eb (mok.ew.up hW) (mok.ew.up hW))
          have KC := Lib.hid (fun (W : World) (hW : Below wr.heap.size wr W) => scd_yes m.c mB2 md2 m.ms m.ls W (mok.mem.up hW) (mok2.mem.mw.up hW))
          have HMA := Lib.hid hma
          have e1 := fun w => bne_self22 m.hc w
          have hk0 : (0 : Int) ≤ (k : Int) := by omega
          have hk1 : (k : Int) < (mn : Int) := by omega
          have HMB := Lib.hid (show MeAt wr g2 o2 k { m with c := { m.c with mA := mB2, mc := md2 } } from hmb2)
          clear hcell hcell2 hm hm' mok mok2 hma hmb2
          go_upto_region 11 with fail
          clear xa0 xa1 xa2 xa3 xa4 xa5 xa6 xb0 xb1 xb2 xb3 xb4 xb5 xb6
          refine regN_start (N := 13) (S := (fun W' : World => Below wr.heap.size wr W')) (by kernel_rfl) ?_
          change wpAnyN _ _ _ _ _ _ _ #[false, false, false, false, false, false, false, false, false, false, false, false, false, false] _ (World.drew _)
          have hS0 := (show (fun W' : World => Below wr.heap.size wr W') wr.drew from (Below.refl _ _).drew)
          refine regN_take (i := 0) (d := (some 86)) (v := ?v11x1) (l2 := #[true, false, false, false, false, false, false, false, false, false, false, false, false, false]) rfl rfl rfl (by kernel_rfl) (by kernel_rfl) (by kernel_rfl) (by kernel_rfl) (fun _ _ _ h => h) (by rfl) ?hv11x1 hS0 ?h11x1
          case hv11x1 => intro u hSu; clear hSu; go_simp; (try with_reducible rfl)
          (try simp only [Act.put, List.setIfInBounds_toArray, List.set_cons_zero, List.set_cons_succ])
          refine regN_take (i := 1) (d := (some 87)) (v := ?v11x2) (l2 := #[true, true, false, false, false, false, false, false, false, false, false, false, false, false]) rfl rfl rfl (by kernel_rfl) (by kernel_rfl) (by kernel_rfl) (by kernel_rfl) (fun _ _ _ h => h) (by rfl) ?hv11x2 hS0 ?h11x2
          case hv11x2 => intro u hSu; have s0 := (Below.block hSu _ ya).trans HXr.out; have s1 := (Below.block hSu _ yb).trans HYr.out; obtain ⟨x0, x1, x2, x3, x4, x5, x6⟩ := seven_cellsR s0; obtain ⟨z0, z1, z2, z3, z4, z5, z6⟩ := seven_cellsR s1; have n0 := lt_heap s0; have n1 := lt_heap s1; obtain ⟨p0, p1, p2, p3, p4, p5, p6, p7, p8, p9, p10⟩ := HMA.out.up hg hSu; obtain ⟨q0, q1, q2, q3, q4, q5, q6, q7, q8, q9, q10⟩ := HMB.out.up hg2 hSu; clear s0 s1; go_simp; (try with_reducible rfl)
          (try simp only [Act.put, List.setIfInBounds_toArray, List.set_cons_zero, List.set_cons_succ])
          refine regN_take (i := 2) (d := (some 88)) (v := ?v11x3) (l2 := #[true, true, true, false, false, false, false, false, false, false, false, false, false, false]) rfl rfl rfl (by kernel_rfl) (by kernel_rfl) (by kernel_rfl) (by kernel_rfl) (fun _ _ _ h => h) (by rfl) ?hv11x3 hS0 ?h11x3
          case hv11x3 => intro u hSu; clear hSu; go_simp; (try with_reducible rfl)
          (try simp only [Act.put, List.setIfInBounds_toArray, List.set_cons_zero, List.set_cons_succ])
          refine regN_take (i := 3) (d := (some 89)) (v := ?v11x4) (l2 := #[true, true, true, true, false, false, false, false, false, false, false, false, false, false]) rfl rfl rfl (by kernel_rfl) (by kernel_rfl) (by kernel_rfl) (by kernel_rfl) (fun _ _ _ h => h) (by rfl) ?hv11x4 hS0 ?h11x4
          case hv11x4 => intro u hSu; clear hSu; go_simp; (try with_reducible rfl)
          (try simp only [Act.put, List.setIfInBounds_toArray, List.set_cons_zero, List.set_cons_succ])
          refine regN_take (i := 4) (d := (some 90)) (v := ?v11x5) (l2 := #[true, true, true, true, true, false, false, false, false, false, false, false, false, false]) rfl rfl rfl (by kernel_rfl) (by kernel_rfl) (by kernel_rfl) (by kernel_rfl) (fun _ _ _ h => h) (by rfl) ?hv11x5 hS0 ?h11x5
          case hv11x5 => intro u hSu; have s0 := (Below.block hSu _ ya).trans HXr.out; have s1 := (Below.block hSu _ yb).trans HYr.out; obtain ⟨x0, x1, x2, x3, x4, x5, x6⟩ := seven_cellsR s0; obtain ⟨z0, z1, z2, z3, z4, z5, z6⟩ := seven_cellsR s1; have n0 := lt_heap s0; have n1 := lt_heap s1; obtain ⟨p0, p1, p2, p3, p4, p5, p6, p7, p8, p9, p10⟩ := HMA.out.up hg hSu; obtain ⟨q0, q1, q2, q3, q4, q5, q6, q7, q8, q9, q10⟩ := HMB.out.up hg2 hSu; clear s0 s1; go_simp; (try with_reducible rfl)
          (try simp only [Act.put, List.setIfInBounds_toArray, List.set_cons_zero, List.set_cons_succ])
          refine regN_take (i := 5) (d := (some 91)) (v := ?v11x6) (l2 := #[true, true, true, true, true, true, false, false, false, false, false, false, false, false]) rfl rfl rfl (by kernel_rfl) (by kernel_rfl) (by kernel_rfl) (by kernel_rfl) (fun _ _ _ h => h) (by rfl) ?hv11x6 hS0 ?h11x6
          case hv11x6 => intro u hSu; clear hSu; go_simp; (try with_reducible rfl)
          (try simp only [Act.put, List.setIfInBounds_toArray, List.set_cons_zero, List.set_cons_succ])
          refine regN_take (i := 6) (d := (some 92)) (v := ?v11x7) (l2 := #[true, true, true, true, true, true, true, false, false, false, false, false, false, false]) rfl rfl rfl (by kernel_rfl) (by kernel_rfl) (by kernel_rfl) (by kernel_rfl) (fun _ _ _ h => h) (by rfl) ?hv11x7 hS0 ?h11x7
          case hv11x7 => intro u hSu; have s0 := (Below.block hSu _ ya).trans HXr.out; have s1 := (Below.block hSu _ yb).trans HYr.out; obtain ⟨x0, x1, x2, x3, x4, x5, x6⟩ := seven_cellsR s0; obtain ⟨z0, z1, z2, z3, z4, z5, z6⟩ := seven_cellsR s1; have n0 := lt_heap s0; have n1 := lt_heap s1; obtain ⟨p0, p1, p2, p3, p4, p5, p6, p7, p8, p9, p10⟩ := HMA.out.up hg hSu; obtain ⟨q0, q1, q2, q3, q4, q5, q6, q7, q8, q9, q10⟩ := HMB.out.up hg2 hSu; clear s0 s1; go_simp; (try with_reducible rfl)
          (try simp only [Act.put, List.setIfInBounds_toArray, List.set_cons_zero, List.set_cons_succ])
          refine regN_take (i := 7) (d := (some 93)) (v := ?v11x8) (l2 := #[true, true, true, true, true, true, true, true, false, false, false, false, false, false]) rfl rfl rfl (by kernel_rfl) (by kernel_rfl) (by kernel_rfl) (by kernel_rfl) (fun _ _ _ h => h) (by rfl) ?hv11x8 hS0 ?h11x8
          case hv11x8 => intro u hSu; clear hSu; go_simp; (try with_reducible rfl)
          (try simp only [Act.put, List.setIfInBounds_toArray, List.set_cons_zero, List.set_cons_succ])
          refine regN_take (i := 8) (d := (some 94)) (v := ?v11x9) (l2 := #[true, true, true, true, true, true, true, true, true, false, false, false, false, false]) rfl rfl rfl (by kernel_rfl) (by kernel_rfl) (by kernel_rfl) (by kernel_rfl) (fun _ _ _ h => h) (by rfl) ?hv11x9 hS0 ?h11x9
          case hv11x9 => intro u hSu; clear hSu; go_simp; (try with_reducible rfl)
          (try simp only [Act.put, List.setIfInBounds_toArray, List.set_cons_zero, List.set_cons_succ])
          refine regN_take (i := 9) (d := (some 95)) (v := ?v11x10) (l2 := #[true, true, true, true, true, true, true, true, true, true, false, false, false, false]) rfl rfl rfl (by kernel_rfl) (by kernel_rfl) (by kernel_rfl) (by kernel_rfl) (fun _ _ _ h => h) (by rfl) ?hv11x10 hS0 ?h11x10
          case hv11x10 => intro u hSu; have s0 := (Below.block hSu _ ya).trans HXr.out; have s1 := (Below.block hSu _ yb).trans HYr.out; obtain ⟨x0, x1, x2, x3, x4, x5, x6⟩ := seven_cellsR s0; obtain ⟨z0, z1, z2, z3, z4, z5, z6⟩ := seven_cellsR s1; have n0 := lt_heap s0; have n1 := lt_heap s1; obtain ⟨p0, p1, p2, p3, p4, p5, p6, p7, p8, p9, p10⟩ := HMA.out.up hg hSu; obtain ⟨q0, q1, q2, q3, q4, q5, q6, q7, q8, q9, q10⟩ := HMB.out.up hg2 hSu; clear s0 s1; go_simp; (try with_reducible rfl)
          (try simp only [Act.put, List.setIfInBounds_toArray, List.set_cons_zero, List.set_cons_succ])
          refine regN_ready (rs := [10, 11]) (by kernel_rfl) (by simp) ?_
          refine (AllN.cons (i := 10) (l2 := #[true, true, true, true, true, true, true, true, true, true, true, false, false, false]) rfl rfl (fun K hK => ?_) (AllN.cons (i := 11) (l2 := #[true, true, true, true, true, true, true, true, true, true, false, true, false, false]) rfl rfl (fun K hK => ?_) AllN.nil))
          · go_simp
            have hS1 : ((fun W' : World => Below wr.heap.size wr W') : World → Prop) _ := (show (fun W' : World => Below wr.heap.size wr W') _ from below_al (Below.refl wr.heap.size wr).drew (.cells #[.int .i64 0, .string ⟨#[]⟩, .string ⟨#[]⟩, .bool false, .int .i64 0, .int .i64 0, .slice none 0 0, .slice none 0 0, .slice none 0 0, .slice none 0 0, .slice none 0 0] 77))
            refine hK _ _ (fun _ => hS1) ?_
            clear hK K
            (try simp only [Act.put, List.setIfInBounds_toArray, List.set_cons_zero, List.set_cons_succ])
            refine regN_ready (rs := [11]) (by kernel_rfl) (by simp) ?_
            refine (AllN.cons (i := 11) (l2 := #[true, true, true, true, true, true, true, true, true, true, true, true, false, false]) rfl rfl (fun K hK => ?_) AllN.nil)
            go_simp
            have hS2 : ((fun W' : World => Below wr.heap.size wr W') : World → Prop) _ := (show (fun W' : World => Below wr.heap.size wr W') _ from below_al (below_al (Below.refl wr.heap.size wr).drew (.cells #[.int .i64 0, .string ⟨#[]⟩, .string ⟨#[]⟩, .bool false, .int .i64 0, .int .i64 0, .slice none 0 0, .slice none 0 0, .slice none 0 0, .slice none 0 0, .slice none 0 0] 77)) (.cells #[.int .i64 0, .string ⟨#[]⟩, .string ⟨#[]⟩, .bool false, .int .i64 0, .int .i64 0, .slice none 0 0, .slice none 0 0, .slice none 0 0, .slice none 0 0, .slice none 0 0] 77))
            refine hK _ _ (fun _ => hS2) ?_
            clear hK K
            (try simp only [Act.put, List.setIfInBounds_toArray, List.set_cons_zero, List.set_cons_succ])
            refine regN_ready (rs := [12]) (by kernel_rfl) (by simp) ?_
            refine (AllN.cons (i := 12) (l2 := #[true, true, true, true, true, true, true, true, true, true, true, true, true, false]) rfl rfl (fun K hK => ?_) AllN.nil)
            go_simp
            have hS3 : ((fun W' : World => Below wr.heap.size wr W') : World → Prop) _ := (show (fun W' : World => Below wr.heap.size wr W') _ from below_al (below_al (Below.refl wr.heap.size wr).drew (.cells #[.int .i64 m.fl, .string m.nm, .string m.ds, .bool m.hc, .int .i64 m.c.st, .int .i64 m.c.lo, .slice m.c.iA m.c.n m.c.ic, .slice m.c.hA m.c.hn m.c.hc, .slice m.c.mA m.c.mn m.c.mc, .slice m.c.lA m.c.ln m.c.lc, .slice m.eA m.en m.ec] 77)) (.cells #[.int .i64 0, .string ⟨#[]⟩, .string ⟨#[]⟩, .bool false, .int .i64 0, .int .i64 0, .slice none 0 0, .slice none 0 0, .slice none 0 0, .slice none 0 0, .slice none 0 0] 77))
            refine hK _ _ (fun _ => hS3) ?_
            clear hK K
            (try simp only [Act.put, List.setIfInBounds_toArray, List.set_cons_zero, List.set_cons_succ])
            refine regN_ready (rs := [13]) (by kernel_rfl) (by simp) ?_
            refine (AllN.cons (i := 13) (l2 := #[true, true, true, true, true, true, true, true, true, true, true, true, true, true]) rfl rfl (fun K hK => ?_) AllN.nil)
            go_simp
            refine hK _ _ (fun h => absurd rfl h) ?_
            clear hK K
            (try simp only [Act.put, List.setIfInBounds_toArray, List.set_cons_zero, List.set_cons_succ])
            refine regN_done (by kernel_rfl) ?_ _
            obtain ⟨hY7, hY8, hbw⟩ := two_laidS wr (.cells #[.int .i64 m.fl, .string m.nm, .string m.ds, .bool m.hc, .int .i64 m.c.st, .int .i64 m.c.lo, .slice m.c.iA m.c.n m.c.ic, .slice m.c.hA m.c.hn m.c.hc, .slice m.c.mA m.c.mn m.c.mc, .slice m.c.lA m.c.ln m.c.lc, .slice m.eA m.en m.ec] 77) (.cells #[.int .i64 m.fl, .string m.nm, .string m.ds, .bool m.hc, .int .i64 m.c.st, .int .i64 m.c.lo, .slice m.c.iA m.c.n m.c.ic, .slice m.c.hA m.c.hn m.c.hc, .slice mB2 m.c.mn md2, .slice m.c.lA m.c.ln m.c.lc, .slice m.eA m.en m.ec] 77)
            replace hbw := hbw.drew
            replace hY7 : (((wr.alloc (.cells #[.int .i64 m.fl, .string m.nm, .string m.ds, .bool m.hc, .int .i64 m.c.st, .int .i64 m.c.lo, .slice m.c.iA m.c.n m.c.ic, .slice m.c.hA m.c.hn m.c.hc, .slice m.c.mA m.c.mn m.c.mc, .slice m.c.lA m.c.ln m.c.lc, .slice m.eA m.en m.ec] 77)).alloc (.cells #[.int .i64 m.fl, .string m.nm, .string m.ds, .bool m.hc, .int .i64 m.c.st, .int .i64 m.c.lo, .slice m.c.iA m.c.n m.c.ic, .slice m.c.hA m.c.hn m.c.hc, .slice mB2 m.c.mn md2, .slice m.c.lA m.c.ln m.c.lc, .slice m.eA m.en m.ec] 77)).drew).heap[wr.heap.size]? = some (.cells #[.int .i64 m.fl, .string m.nm, .string m.ds, .bool m.hc, .int .i64 m.c.st, .int .i64 m.c.lo, .slice m.c.iA m.c.n m.c.ic, .slice m.c.hA m.c.hn m.c.hc, .slice m.c.mA m.c.mn m.c.mc, .slice m.c.lA m.c.ln m.c.lc, .slice m.eA m.en m.ec] 77) := hY7
            replace hY8 : (((wr.alloc (.cells #[.int .i64 m.fl, .string m.nm, .string m.ds, .bool m.hc, .int .i64 m.c.st, .int .i64 m.c.lo, .slice m.c.iA m.c.n m.c.ic, .slice m.c.hA m.c.hn m.c.hc, .slice m.c.mA m.c.mn m.c.mc, .slice m.c.lA m.c.ln m.c.lc, .slice m.eA m.en m.ec] 77)).alloc (.cells #[.int .i64 m.fl, .string m.nm, .string m.ds, .bool m.hc, .int .i64 m.c.st, .int .i64 m.c.lo, .slice m.c.iA m.c.n m.c.ic, .slice m.c.hA m.c.hn m.c.hc, .slice mB2 m.c.mn md2, .slice m.c.lA m.c.ln m.c.lc, .slice m.eA m.en m.ec] 77)).drew).heap[wr.heap.size + 1]? = some (.cells #[.int .i64 m.fl, .string m.nm, .string m.ds, .bool m.hc, .int .i64 m.c.st, .int .i64 m.c.lo, .slice m.c.iA m.c.n m.c.ic, .slice m.c.hA m.c.hn m.c.hc, .slice mB2 m.c.mn md2, .slice m.c.lA m.c.ln m.c.lc, .slice m.eA m.en m.ec] 77) := hY8
            generalize ((wr.alloc (.cells #[.int .i64 m.fl, .string m.nm, .string m.ds, .bool m.hc, .int .i64 m.c.st, .int .i64 m.c.lo, .slice m.c.iA m.c.n m.c.ic, .slice m.c.hA m.c.hn m.c.hc, .slice m.c.mA m.c.mn m.c.mc, .slice m.c.lA m.c.ln m.c.lc, .slice m.eA m.en m.ec] 77)).alloc (.cells #[.int .i64 m.fl, .string m.nm, .string m.ds, .bool m.hc, .int .i64 m.c.st, .int .i64 m.c.lo, .slice m.c.iA m.c.n m.c.ic, .slice m.c.hA m.c.hn m.c.hc, .slice mB2 m.c.mn md2, .slice m.c.lA m.c.ln m.c.lc, .slice m.eA m.en m.ec] 77)).drew = W9 at hY7 hY8 hbw ⊢
            have H7 := Lib.hid hY7
            have H8 := Lib.hid hY8
            obtain ⟨p0, p1, p2, p3, p4, p5, p6, p7, p8, p9, p10⟩ := eleven_cells hY7
            obtain ⟨q0, q1, q2, q3, q4, q5, q6, q7, q8, q9, q10⟩ := eleven_cells hY8
            have y7 := lt_heap hY7
            have y8 := lt_heap hY8
            have HBW := Lib.hid hbw
            clear hY7 hY8 hbw
            go_wp2_with (first | (go_at_call 59; (with_reducible refine (KT.out W9 HBW.out).mono ?_); rintro e w10 ⟨rfl, hb10⟩; have HB10 := Lib.hid hb10; clear p0 q0 p1 q1 p2 q2 p3 q3 p4 q4 p5 q5 p6 q6 p7 q7 p8 q8 p9 q9 p10 q10; obtain ⟨p0, p1, p2, p3, p4, p5, p6, p7, p8, p9, p10⟩ := eleven_cells ((hb10.block _ y7).trans H7.out); obtain ⟨q0, q1, q2, q3, q4, q5, q6, q7, q8, q9, q10⟩ := eleven_cells ((hb10.block _ y8).trans H8.out); have y9 := Nat.lt_of_lt_of_le y7 hb10.size; have y10 := Nat.lt_of_lt_of_le y8 hb10.size; clear hb10) | (go_at_call 60; (with_reducible refine (KC.out _ (below_on HBW.out HB10.out)).mono ?_); rintro e w11 ⟨rfl, hb11⟩))
            exact ⟨⟨k + 1, hlt, by go_num, below_on HBR.out (below_on (below_on HBW.out HB10.out) hb11)⟩, by simp [intOf]; omega⟩
          · go_simp
            have hS1 : ((fun W' : World => Below wr.heap.size wr W') : World → Prop) _ := (show (fun W' : World => Below wr.heap.size wr W') _ from below_al (Below.refl wr.heap.size wr).drew (.cells #[.int .i64 0, .string ⟨#[]⟩, .string ⟨#[]⟩, .bool false, .int .i64 0, .int .i64 0, .slice none 0 0, .slice none 0 0, .slice none 0 0, .slice none 0 0, .slice none 0 0] 77))
            refine hK _ _ (fun _ => hS1) ?_
            clear hK K
            (try simp only [Act.put, List.setIfInBounds_toArray, List.set_cons_zero, List.set_cons_succ])
            refine regN_ready (rs := [10]) (by kernel_rfl) (by simp) ?_
            refine (AllN.cons (i := 10) (l2 := #[true, true, true, true, true, true, true, true, true, true, true, true, false, false]) rfl rfl (fun K hK => ?_) AllN.nil)
            go_simp
            have hS2 : ((fun W' : World => Below wr.heap.size wr W') : World → Prop) _ := (show (fun W' : World => Below wr.heap.size wr W') _ from below_al (below_al (Below.refl wr.heap.size wr).drew (.cells #[.int .i64 0, .string ⟨#[]⟩, .string ⟨#[]⟩, .bool false, .int .i64 0, .int .i64 0, .slice none 0 0, .slice none 0 0, .slice none 0 0, .slice none 0 0, .slice none 0 0] 77)) (.cells #[.int .i64 0, .string ⟨#[]⟩, .string ⟨#[]⟩, .bool false, .int .i64 0, .int .i64 0, .slice none 0 0, .slice none 0 0, .slice none 0 0, .slice none 0 0, .slice none 0 0] 77))
            refine hK _ _ (fun _ => hS2) ?_
            clear hK K
            (try simp only [Act.put, List.setIfInBounds_toArray, List.set_cons_zero, List.set_cons_succ])
            refine regN_ready (rs := [12]) (by kernel_rfl) (by simp) ?_
            refine (AllN.cons (i := 12) (l2 := #[true, true, true, true, true, true, true, true, true, true, true, true, true, false]) rfl rfl (fun K hK => ?_) AllN.nil)
            go_simp
            have hS3 : ((fun W' : World => Below wr.heap.size wr W') : World → Prop) _ := (show (fun W' : World => Below wr.heap.size wr W') _ from below_al (below_al (Below.refl wr.heap.size wr).drew (.cells #[.int .i64 0, .string ⟨#[]⟩, .string ⟨#[]⟩, .bool false, .int .i64 0, .int .i64 0, .slice none 0 0, .slice none 0 0, .slice none 0 0, .slice none 0 0, .slice none 0 0] 77)) (.cells #[.int .i64 m.fl, .string m.nm, .string m.ds, .bool m.hc, .int .i64 m.c.st, .int .i64 m.c.lo, .slice m.c.iA m.c.n m.c.ic, .slice m.c.hA m.c.hn m.c.hc, .slice m.c.mA m.c.mn m.c.mc, .slice m.c.lA m.c.ln m.c.lc, .slice m.eA m.en m.ec] 77))
            refine hK _ _ (fun _ => hS3) ?_
            clear hK K
            (try simp only [Act.put, List.setIfInBounds_toArray, List.set_cons_zero, List.set_cons_succ])
            refine regN_ready (rs := [13]) (by kernel_rfl) (by simp) ?_
            refine (AllN.cons (i := 13) (l2 := #[true, true, true, true, true, true, true, true, true, true, true, true, true, true]) rfl rfl (fun K hK => ?_) AllN.nil)
            go_simp
            refine hK _ _ (fun h => absurd rfl h) ?_
            clear hK K
            (try simp only [Act.put, List.setIfInBounds_toArray, List.set_cons_zero, List.set_cons_succ])
            refine regN_done (by kernel_rfl) ?_ _
            obtain ⟨hY8, hY7, hbw⟩ := two_laidS wr (.cells #[.int .i64 m.fl, .string m.nm, .string m.ds, .bool m.hc, .int .i64 m.c.st, .int .i64 m.c.lo, .slice m.c.iA m.c.n m.c.ic, .slice m.c.hA m.c.hn m.c.hc, .slice mB2 m.c.mn md2, .slice m.c.lA m.c.ln m.c.lc, .slice m.eA m.en m.ec] 77) (.cells #[.int .i64 m.fl, .string m.nm, .string m.ds, .bool m.hc, .int .i64 m.c.st, .int .i64 m.c.lo, .slice m.c.iA m.c.n m.c.ic, .slice m.c.hA m.c.hn m.c.hc, .slice m.c.mA m.c.mn m.c.mc, .slice m.c.lA m.c.ln m.c.lc, .slice m.eA m.en m.ec] 77)
            replace hbw := hbw.drew
            replace hY7 : (((wr.alloc (.cells #[.int .i64 m.fl, .string m.nm, .string m.ds, .bool m.hc, .int .i64 m.c.st, .int .i64 m.c.lo, .slice m.c.iA m.c.n m.c.ic, .slice m.c.hA m.c.hn m.c.hc, .slice mB2 m.c.mn md2, .slice m.c.lA m.c.ln m.c.lc, .slice m.eA m.en m.ec] 77)).alloc (.cells #[.int .i64 m.fl, .string m.nm, .string m.ds, .bool m.hc, .int .i64 m.c.st, .int .i64 m.c.lo, .slice m.c.iA m.c.n m.c.ic, .slice m.c.hA m.c.hn m.c.hc, .slice m.c.mA m.c.mn m.c.mc, .slice m.c.lA m.c.ln m.c.lc, .slice m.eA m.en m.ec] 77)).drew).heap[wr.heap.size + 1]? = some (.cells #[.int .i64 m.fl, .string m.nm, .string m.ds, .bool m.hc, .int .i64 m.c.st, .int .i64 m.c.lo, .slice m.c.iA m.c.n m.c.ic, .slice m.c.hA m.c.hn m.c.hc, .slice m.c.mA m.c.mn m.c.mc, .slice m.c.lA m.c.ln m.c.lc, .slice m.eA m.en m.ec] 77) := hY7
            replace hY8 : (((wr.alloc (.cells #[.int .i64 m.fl, .string m.nm, .string m.ds, .bool m.hc, .int .i64 m.c.st, .int .i64 m.c.lo, .slice m.c.iA m.c.n m.c.ic, .slice m.c.hA m.c.hn m.c.hc, .slice mB2 m.c.mn md2, .slice m.c.lA m.c.ln m.c.lc, .slice m.eA m.en m.ec] 77)).alloc (.cells #[.int .i64 m.fl, .string m.nm, .string m.ds, .bool m.hc, .int .i64 m.c.st, .int .i64 m.c.lo, .slice m.c.iA m.c.n m.c.ic, .slice m.c.hA m.c.hn m.c.hc, .slice m.c.mA m.c.mn m.c.mc, .slice m.c.lA m.c.ln m.c.lc, .slice m.eA m.en m.ec] 77)).drew).heap[wr.heap.size]? = some (.cells #[.int .i64 m.fl, .string m.nm, .string m.ds, .bool m.hc, .int .i64 m.c.st, .int .i64 m.c.lo, .slice m.c.iA m.c.n m.c.ic, .slice m.c.hA m.c.hn m.c.hc, .slice mB2 m.c.mn md2, .slice m.c.lA m.c.ln m.c.lc, .slice m.eA m.en m.ec] 77) := hY8
            generalize ((wr.alloc (.cells #[.int .i64 m.fl, .string m.nm, .string m.ds, .bool m.hc, .int .i64 m.c.st, .int .i64 m.c.lo, .slice m.c.iA m.c.n m.c.ic, .slice m.c.hA m.c.hn m.c.hc, .slice mB2 m.c.mn md2, .slice m.c.lA m.c.ln m.c.lc, .slice m.eA m.en m.ec] 77)).alloc (.cells #[.int .i64 m.fl, .string m.nm, .string m.ds, .bool m.hc, .int .i64 m.c.st, .int .i64 m.c.lo, .slice m.c.iA m.c.n m.c.ic, .slice m.c.hA m.c.hn m.c.hc, .slice m.c.mA m.c.mn m.c.mc, .slice m.c.lA m.c.ln m.c.lc, .slice m.eA m.en m.ec] 77)).drew = W9 at hY7 hY8 hbw ⊢
            have H7 := Lib.hid hY7
            have H8 := Lib.hid hY8
            obtain ⟨p0, p1, p2, p3, p4, p5, p6, p7, p8, p9, p10⟩ := eleven_cells hY7
            obtain ⟨q0, q1, q2, q3, q4, q5, q6, q7, q8, q9, q10⟩ := eleven_cells hY8
            have y7 := lt_heap hY7
            have y8 := lt_heap hY8
            have HBW := Lib.hid hbw
            clear hY7 hY8 hbw
            go_wp2_with (first | (go_at_call 59; (with_reducible refine (KT.out W9 HBW.out).mono ?_); rintro e w10 ⟨rfl, hb10⟩; have HB10 := Lib.hid hb10; clear p0 q0 p1 q1 p2 q2 p3 q3 p4 q4 p5 q5 p6 q6 p7 q7 p8 q8 p9 q9 p10 q10; obtain ⟨p0, p1, p2, p3, p4, p5, p6, p7, p8, p9, p10⟩ := eleven_cells ((hb10.block _ y7).trans H7.out); obtain ⟨q0, q1, q2, q3, q4, q5, q6, q7, q8, q9, q10⟩ := eleven_cells ((hb10.block _ y8).trans H8.out); have y9 := Nat.lt_of_lt_of_le y7 hb10.size; have y10 := Nat.lt_of_lt_of_le y8 hb10.size; clear hb10) | (go_at_call 60; (with_reducible refine (KC.out _ (below_on HBW.out HB10.out)).mono ?_); rintro e w11 ⟨rfl, hb11⟩))
            exact ⟨⟨k + 1, hlt, by go_num, below_on HBR.out (below_on (below_on HBW.out HB10.out) hb11)⟩, by simp [intOf]; omega⟩
        · obtain rfl : mn = k := by omega
          clear hmb hnb
          go_wp2
          go_ret
          exact ⟨rfl, below_on HB2.out HBR.out⟩

end Go.Proofs.YtdppooflbjlbcaaDoor.I
