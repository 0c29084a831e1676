/- Layer 42: the reference's hand in memory: fail, take, put, back. -/
import Derived.Test.YtgiglbjkijlchaaExr
namespace Go.Proofs.Ytgiglbjkijlchaa
open Go.ChangeShapes Go.WideShapes Go.ChangeAt Go.RowKit Go.PlainAid
set_option linter.unusedSimpArgs false
set_option linter.unusedVariables false

structure HdSt (w0 W : World) (b : Nat) (h : Hd8) (r : Rs) (lA : Option Addr) (lc : Nat) (sA : Option Addr) (sc : Nat) : Prop where
  box : W.heap[b]? = some (Obj.cells #[Value.int IntKind.i64 (Hd8.cl h), Value.int IntKind.i64 (Hd8.me h), Value.int IntKind.i64 (Hd8.pc h), ((.slice lA r.ls.length lc)), ((.slice sA r.ss.length sc)), Value.int IntKind.i64 (Hd8.lk h), Value.bool (Hd8.ii h), Value.bool (Hd8.dr h), Value.int IntKind.i64 r.e] 56)
  loc : VRow W lA r.ls
  stk : VRow W sA r.ss
  ol : ∀ g o s, lA = some ⟨g, o, s⟩ → r.ls ≠ [] → g ≠ b
  os : ∀ g o s, sA = some ⟨g, o, s⟩ → r.ss ≠ [] → g ≠ b
  ll : r.ls.length ≤ lc ∧ (lA = none → lc = 0)
  sl : r.ss.length ≤ sc ∧ (sA = none → sc = 0)
  bel : Below w0.heap.size w0 W
  bb : w0.heap.size ≤ b
structure Kb (W W' : World) (b : Nat) : Prop where
  size : W.heap.size ≤ W'.heap.size
  block : ∀ k, k < W.heap.size → k ≠ b → W'.heap[k]? = W.heap[k]?
theorem Kb.of_below {W W' : World} {b : Nat} (h : Below W.heap.size W W') : Kb W W' b := ⟨h.size, fun k hk _ => h.block k hk⟩
theorem Kb.of_grown {W W' : World} {b : Nat} (h : W.grownBy W' (some b)) : Kb W W' b := ⟨h.size, fun k hk hb => h.block k hk (fun e => hb (Option.some.inj e))⟩
theorem Kb.trans {W W1 W2 : World} {b : Nat} (h : Kb W W1 b) (k : Kb W1 W2 b) : Kb W W2 b :=
  ⟨Nat.le_trans h.size k.size, fun j hj hb => (k.block j (Nat.lt_of_lt_of_le hj h.size) hb).trans (h.block j hj hb)⟩
theorem Kb.below_ {W W1 W' : World} {b : Nat} (hb : Below W.heap.size W W1) (k : Kb W1 W' b) : Kb W W' b := (Kb.of_below hb).trans k
/-- the rows lie where they lay -/
def HdRet (w0 W : World) (b : Nat) (h : Hd8) (r' : Rs) (lA : Option Addr) (lc : Nat) (sA : Option Addr) (sc : Nat) (v : Value) (e : Ending) (W' : World) : Prop :=
  e = .returned v ∧ HdSt w0 W' b h r' lA lc sA sc ∧ Kb W W' b
/-- where a row lies: where it lay, or in a new block -/
def Nz (W : World) (A : Option Addr) (L : List Va) (A' : Option Addr) (L' : List Va) : Prop := (A' = A ∧ (L = [] → L' = [])) ∨ ∀ g o s, A' = some ⟨g, o, s⟩ → W.heap.size ≤ g
theorem Nz.refl (W : World) (A : Option Addr) (L : List Va) : Nz W A L A L := Or.inl ⟨rfl, id⟩
theorem Nz.trans {W W1 : World} {A A1 A2 : Option Addr} {L L1 L2 : List Va} (h : Nz W A L A1 L1) (hs : W.heap.size ≤ W1.heap.size) (k : Nz W1 A1 L1 A2 L2) : Nz W A L A2 L2 := by
  rcases k with ⟨k1, k2⟩ | k
  · subst k1
    rcases h with ⟨h1, h2⟩ | h
    · exact Or.inl ⟨h1, fun e => k2 (h2 e)⟩
    · exact Or.inr h
  · exact Or.inr fun g o s e => Nat.le_trans hs (k g o s e)
theorem Nz.ne {W : World} {A A' : Option Addr} {L L' : List Va} {B : Nat} (h : Nz W A L A' L') (hA : ∀ g o s, A = some ⟨g, o, s⟩ → L ≠ [] → g ≠ B) (hB : B < W.heap.size) : ∀ g o s, A' = some ⟨g, o, s⟩ → L' ≠ [] → g ≠ B := by
  intro g o s e h0
  rcases h with ⟨h1, h2⟩ | h
  · exact hA g o s (h1.symm.trans e) (fun e2 => h0 (h2 e2))
  · have := h g o s e; omega
def HdEx (w0 W : World) (b : Nat) (h : Hd8) (r r' : Rs) (lA sA : Option Addr) (v : Value) (e : Ending) (W' : World) : Prop :=
  e = .returned v ∧ Kb W W' b ∧ ∃ lA' lc' sA' sc', HdSt w0 W' b h r' lA' lc' sA' sc' ∧ Nz W lA r.ls lA' r'.ls ∧ Nz W sA r.ss sA' r'.ss
theorem HdRet.ex {w0 W W' : World} {b : Nat} {h : Hd8} {r r' : Rs} {lA : Option Addr} {lc : Nat} {sA : Option Addr} {sc : Nat} {v : Value} {e : Ending} (H : HdRet w0 W b h r' lA lc sA sc v e W') (hl : r.ls = [] → r'.ls = []) (hs : r.ss = [] → r'.ss = []) : HdEx w0 W b h r r' lA sA v e W' :=
  ⟨H.1, H.2.2, lA, lc, sA, sc, H.2.1, Or.inl ⟨rfl, hl⟩, Or.inl ⟨rfl, hs⟩⟩
theorem HdSt.up {w0 W W' : World} {b : Nat} {h : Hd8} {r : Rs} {lA : Option Addr} {lc : Nat} {sA : Option Addr} {sc : Nat} (H : HdSt w0 W b h r lA lc sA sc) (hb : Below W.heap.size W W') : HdSt w0 W' b h r lA lc sA sc :=
  ⟨(hb.block b (lt_heapV H.box)).trans H.box, H.loc.up hb, H.stk.up hb, H.ol, H.os, H.ll, H.sl, below_on H.bel hb, H.bb⟩
theorem HdSt.lb {w0 W : World} {b : Nat} {h : Hd8} {r : Rs} {lA : Option Addr} {lc : Nat} {sA : Option Addr} {sc : Nat} (H : HdSt w0 W b h r lA lc sA sc) : (∀ g o s, lA = some ⟨g, o, s⟩ → r.ls ≠ [] → g < W.heap.size) ∧ (∀ g o s, sA = some ⟨g, o, s⟩ → r.ss ≠ [] → g < W.heap.size) := by
  constructor
  · intro g o s hA h0
    rcases H.loc with h3 | ⟨g3, o3, hA3, hg3, _⟩
    · exact absurd h3 h0
    · rw [hA] at hA3
      injection hA3 with hA3
      injection hA3 with hA3
      omega
  · intro g o s hA h0
    rcases H.stk with h3 | ⟨g3, o3, hA3, hg3, _⟩
    · exact absurd h3 h0
    · rw [hA] at hA3
      injection hA3 with hA3
      injection hA3 with hA3
      omega
/-- a block of the call's own is written -/
theorem HdSt.aside {w0 W W' : World} {b x : Nat} {h : Hd8} {r : Rs} {lA : Option Addr} {lc : Nat} {sA : Option Addr} {sc : Nat} (H : HdSt w0 W b h r lA lc sA sc) (hg : W.grownBy W' (some x)) (hxb : x ≠ b) (hxl : ∀ g o s, lA = some ⟨g, o, s⟩ → r.ls ≠ [] → g ≠ x) (hxs : ∀ g o s, sA = some ⟨g, o, s⟩ → r.ss ≠ [] → g ≠ x) (hx0 : w0.heap.size ≤ x) : HdSt w0 W' b h r lA lc sA sc :=
  ⟨(hg.block b (lt_heapV H.box) (fun e => hxb (Option.some.inj e).symm)).trans H.box, H.loc.kept hg (fun g o s hA h0 e => hxl g o s hA h0 (Option.some.inj e).symm), H.stk.kept hg (fun g o s hA h0 e => hxs g o s hA h0 (Option.some.inj e).symm), H.ol, H.os, H.ll, H.sl, H.bel.trans (grown_below hg (fun k hk => by injection hk with hk; rw [← hk]; exact hx0) H.bel.size), H.bb⟩
theorem Kb.aside {W W1 W2 : World} {b x : Nat} (h : Kb W W1 b) (hg : W1.grownBy W2 (some x)) (hx : W.heap.size ≤ x) : Kb W W2 b :=
  ⟨Nat.le_trans h.size hg.size, fun k hk hb => (hg.block k (Nat.lt_of_lt_of_le hk h.size) (fun e => by injection e with e; omega)).trans (h.block k hk hb)⟩
/-- the box is written: the error -/
theorem HdSt.rebox {w0 W W' : World} {b : Nat} {h : Hd8} {r : Rs} {lA : Option Addr} {lc : Nat} {sA : Option Addr} {sc : Nat} {x : Int} (H : HdSt w0 W b h r lA lc sA sc) (hg : W.grownBy W' (some b)) (hb : W'.heap[b]? = some (Obj.cells #[Value.int IntKind.i64 (Hd8.cl h), Value.int IntKind.i64 (Hd8.me h), Value.int IntKind.i64 (Hd8.pc h), ((.slice lA r.ls.length lc)), ((.slice sA r.ss.length sc)), Value.int IntKind.i64 (Hd8.lk h), Value.bool (Hd8.ii h), Value.bool (Hd8.dr h), Value.int IntKind.i64 x] 56)) : HdSt w0 W' b h { r with e := x } lA lc sA sc :=
  ⟨hb, H.loc.kept hg (fun g o s hA h0 e => H.ol g o s hA h0 (Option.some.inj e).symm), H.stk.kept hg (fun g o s hA h0 e => H.os g o s hA h0 (Option.some.inj e).symm), H.ol, H.os, H.ll, H.sl, H.bel.trans (grown_below hg (fun k hk => by injection hk with hk; rw [← hk]; exact H.bb) H.bel.size), H.bb⟩
/-- a new stack, and then its place in the box -/
theorem HdSt.restack {w0 W w4 W' : World} {b : Nat} {h : Hd8} {r : Rs} {ss : List Va} {lA : Option Addr} {lc n2 : Nat} {sA sA' : Option Addr} {sc sc' : Nat} (H : HdSt w0 W b h r lA lc sA sc) (hb4 : Below W.heap.size W w4) (hs : VRow w4 sA' ss) (hn : ss.length = n2) (ho : ∀ g o s, sA' = some ⟨g, o, s⟩ → ss ≠ [] → g ≠ b) (hsl : n2 ≤ sc' ∧ (sA' = none → sc' = 0))
    (hg2 : w4.grownBy W' (some b)) (hb : W'.heap[b]? = some (Obj.cells #[Value.int IntKind.i64 (Hd8.cl h), Value.int IntKind.i64 (Hd8.me h), Value.int IntKind.i64 (Hd8.pc h), ((.slice lA r.ls.length lc)), ((.slice sA' n2 sc')), Value.int IntKind.i64 (Hd8.lk h), Value.bool (Hd8.ii h), Value.bool (Hd8.dr h), Value.int IntKind.i64 r.e] 56)) : HdSt w0 W' b h { r with ss := ss } lA lc sA' sc' ∧ Kb W W' b := by
  subst hn
  have hb0 := below_on H.bel hb4
  exact ⟨⟨hb, (H.loc.up hb4).kept hg2 (fun g o s hA h0 e => H.ol g o s hA h0 (Option.some.inj e).symm), hs.kept hg2 (fun g o s hA h0 e => ho g o s hA h0 (Option.some.inj e).symm), H.ol, ho, H.ll, hsl, hb0.trans (grown_below hg2 (fun k hk => by injection hk with hk; rw [← hk]; exact H.bb) hb0.size), H.bb⟩, (Kb.of_below hb4).trans (Kb.of_grown hg2)⟩
/-- new locals -/
theorem HdSt.reloc {w0 W w4 W' : World} {b : Nat} {h : Hd8} {r : Rs} {ls : List Va} {lA lA' : Option Addr} {lc lc' n1 : Nat} {sA : Option Addr} {sc : Nat} (H : HdSt w0 W b h r lA lc sA sc) (hb4 : Below W.heap.size W w4) (hs : VRow w4 lA' ls) (hn : ls.length = n1) (ho : ∀ g o s, lA' = some ⟨g, o, s⟩ → ls ≠ [] → g ≠ b) (hll : n1 ≤ lc' ∧ (lA' = none → lc' = 0))
    (hg2 : w4.grownBy W' (some b)) (hb : W'.heap[b]? = some (Obj.cells #[Value.int IntKind.i64 (Hd8.cl h), Value.int IntKind.i64 (Hd8.me h), Value.int IntKind.i64 (Hd8.pc h), ((.slice lA' n1 lc')), ((.slice sA r.ss.length sc)), Value.int IntKind.i64 (Hd8.lk h), Value.bool (Hd8.ii h), Value.bool (Hd8.dr h), Value.int IntKind.i64 r.e] 56)) : HdSt w0 W' b h { r with ls := ls } lA' lc' sA sc ∧ Kb W W' b := by
  subst hn
  have hb0 := below_on H.bel hb4
  exact ⟨⟨hb, hs.kept hg2 (fun g o s hA h0 e => ho g o s hA h0 (Option.some.inj e).symm), (H.stk.up hb4).kept hg2 (fun g o s hA h0 e => H.os g o s hA h0 (Option.some.inj e).symm), ho, H.os, hll, H.sl, hb0.trans (grown_below hg2 (fun k hk => by injection hk with hk; rw [← hk]; exact H.bb) hb0.size), H.bb⟩, (Kb.of_below hb4).trans (Kb.of_grown hg2)⟩
theorem VRow.init {w : World} {A : Option Addr} {L : List Va} (h : VRow w A L) : VRow w A L.dropLast := by
  rcases h with h | ⟨g, o, hA, hg, hc⟩
  · exact Or.inl (by rw [h]; rfl)
  · refine Or.inr ⟨g, o, hA, hg, fun k p hp => hc k p ?_⟩
    have hk := get_ltF hp
    rw [List.length_dropLast] at hk
    rw [List.getElem?_dropLast, if_pos hk] at hp
    exact hp
set_option maxRecDepth 100000 in
theorem hfail_any {w0 W : World} {b : Nat} {h : Hd8} {r : Rs} {lA : Option Addr} {lc : Nat} {sA : Option Addr} {sc : Nat} (H : HdSt w0 W b h r lA lc sA sc) (x : Int) :
    Calls Try.prog 39 #[.pointer (some ⟨b, 0, none⟩), .int .i64 x] W (HdRet w0 W b h (failS x r) lA lc sA sc (.tuple #[])) := by
  have HH := Lib.hid H
  obtain ⟨c0, c1, c2, c3, c4, c5, c6, c7, c8⟩ := nine_cells H.box
  have hz := lt_heapV H.box
  have hf := frozV H.box 8
  have hset := heap_setCell_same W b 8 _ _ (.int .i64 x) H.box
  have HS := Lib.hid hset
  clear H hset
  by_cases h0 : r.e = 0
  · have HE := Lib.hid (show failS x r = { r with e := x } from if_pos h0)
    rw [h0] at c8
    go_enter Try.func39, Try.ntmps39
    go_wp2
    go_end0
    rw [HE.out]
    exact ⟨rfl, HH.out.rebox grown_setV HS.out, Kb.of_grown grown_setV⟩
  · have HE := Lib.hid (show failS x r = r from if_neg h0)
    have hne : (r.e == 0) = false := by simpa using h0
    go_enter Try.func39, Try.ntmps39
    go_wp2
    go_end0
    rw [HE.out]
    exact ⟨rfl, HH.out, Kb.of_below (Below.refl _ _)⟩
set_option maxRecDepth 100000 in
theorem take_nil {w0 W : World} {b : Nat} {h : Hd8} {r : Rs} {lA : Option Addr} {lc : Nat} {sA : Option Addr} {sc : Nat} (H : HdSt w0 W b h r lA lc sA sc) (k : Int) (h0 : r.ss = []) :
    Calls Try.prog 37 #[.pointer (some ⟨b, 0, none⟩), .int .i64 k] W (HdRet w0 W b h (failS 20 r) lA lc sA sc (.agg #[.int .i64 0, .int .i64 0])) := by
  have HH := Lib.hid H
  have hc4 := (nine_cells H.box).2.2.2.2.1
  have hz := lt_heapV H.box
  have hbw := H.bel.size
  rw [h0] at hc4
  have HLB := Lib.hid H.lb
  have HB := Lib.hid (below_al (Below.refl W.heap.size W) (.cells #[.int .i64 0, .int .i64 0] 42))
  have HF := Lib.hid (hfail_any (HH.out.up HB.out) 20)
  have HZ := Lib.hid h0
  clear H h0
  go_enter Try.func37, Try.ntmps37
  go_upto_region 4 with (go_at_call 39; refine HF.out.mono ?_; rintro e w3 ⟨rfl, hr3, hk3⟩)
  have hx3 := (hk3.block W.heap.size (by simp) (by omega)).trans (World.alloc_heap_new W _)
  have hs3 := hk3.size
  simp at hs3
  have hc8 := (nine_cells hr3.box).2.2.2.2.2.2.2.2
  have he8 : ((failS 20 r).e != 0) = true := by
    unfold failS
    split
    · rfl
    · rename_i g; simpa using g
  obtain ⟨d0, d1⟩ := two_cellsV hx3
  have hf0 := frozV hx3 0
  have hf1 := frozV hx3 1
  have hz3 := lt_heapV hr3.box
  have HR3 := Lib.hid hr3
  have HK3 := Lib.hid hk3
  have HX3 := Lib.hid hx3
  clear hr3 hk3 hx3 hc4
  go_wp2
  have hs1 := heap_setCell_same w3 W.heap.size 0 _ _ (.int .i64 0) HX3.out
  have hs2 := heap_setCell_same _ W.heap.size 1 _ _ (.int .i64 0) hs1
  have hg2 : w3.grownBy ((w3.setCell ⟨W.heap.size, 0, none⟩ (.int .i64 0)).setCell ⟨W.heap.size, 1, none⟩ (.int .i64 0)) (some W.heap.size) := grown_two grown_setV grown_setV
  obtain ⟨e0, e1⟩ := two_cellsV hs2
  refine bodyPost_ret (v := .agg #[.int .i64 0, .int .i64 0]) ?_ rfl ⟨rfl, HR3.out.aside hg2 (by omega) (fun g o s hA hn => by have := HLB.out.1 g o s hA (by rw [failS_ls] at hn; exact hn); omega) (fun g o s hA hn => by have := HLB.out.2 g o s hA (by rw [failS_ss] at hn; exact hn); omega) hbw, ((Kb.of_below HB.out).trans HK3.out).aside hg2 (Nat.le_refl _)⟩
  simp [results, Try.f37, go_sem, *]
end Go.Proofs.Ytgiglbjkijlchaa
