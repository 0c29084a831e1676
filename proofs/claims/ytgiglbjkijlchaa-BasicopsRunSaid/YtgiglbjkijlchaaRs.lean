/- Layer 42: an activation in the course of an instruction. -/
import Derived.Test.YtgiglbjkijlchaaVa
namespace Go.Proofs.Ytgiglbjkijlchaa
open Go.ChangeShapes Go.WideShapes Go.ChangeAt Go.RowKit Go.PlainAid
set_option linter.unusedSimpArgs false
set_option linter.unusedVariables false

structure Hd8 where
  cl : Int
  me : Int
  pc : Int
  lk : Int
  ii : Bool
  dr : Bool
structure Rs where
  ls : List Va
  ss : List Va
  e : Int
def failS (x : Int) (r : Rs) : Rs := if r.e = 0 then { r with e := x } else r
def pushS (k n : Int) (r : Rs) : Rs := { r with ss := r.ss ++ [(k, n)] }
def topV (ss : List Va) : Va := ss.getLast?.getD (0, 0)
def popAnyS (r : Rs) : Rs := if r.ss = [] then failS 20 r else { r with ss := r.ss.dropLast }
def popS (k : Int) (r : Rs) : Rs := if (topV r.ss).1 = k then popAnyS r else failS 22 (popAnyS r)
structure RunSt (w0 W : World) (b : Nat) (h : Hd8) (r : Rs) (lA : Option Addr) (lc : Nat) (sv : Value) : Prop where
  box : W.heap[b]? = some (Obj.cells #[Value.int IntKind.i64 (Hd8.cl h), Value.int IntKind.i64 (Hd8.me h), Value.int IntKind.i64 (Hd8.pc h), ((.slice lA r.ls.length lc)), sv, Value.int IntKind.i64 (Hd8.lk h), Value.bool (Hd8.ii h), Value.bool (Hd8.dr h), Value.int IntKind.i64 r.e] 48)
  own : W.ownsRow w0.heap.size 42 2 sv r.ss.length (prow r.ss)
  loc : VRow W lA r.ls
  off : ∀ g o s, lA = some ⟨g, o, s⟩ → r.ls ≠ [] → g ≠ b ∧ sv.ownBlock ≠ some g
  ll : r.ls.length ≤ lc ∧ (lA = none → lc = 0)
  bel : Below w0.heap.size w0 W
  bb : w0.heap.size ≤ b
structure Kept (W W' : World) (b : Nat) (sv : Value) : Prop where
  size : W.heap.size ≤ W'.heap.size
  block : ∀ k, k < W.heap.size → k ≠ b → sv.ownBlock ≠ some k → W'.heap[k]? = W.heap[k]?
theorem Kept.of_below {W W' : World} {b : Nat} {sv : Value} (h : Below W.heap.size W W') : Kept W W' b sv := ⟨h.size, fun k hk _ _ => h.block k hk⟩
theorem Kept.trans {W W1 W2 : World} {b : Nat} {sv sv1 : Value} (h : Kept W W1 b sv) (hl : Lies W sv sv1) (k : Kept W1 W2 b sv1) : Kept W W2 b sv := by
  refine ⟨Nat.le_trans h.size k.size, fun j hj hb hs => ?_⟩
  rw [k.block j (Nat.lt_of_lt_of_le hj h.size) hb ?_]
  · exact h.block j hj hb hs
  · rcases hl with e | ⟨g, e, hg⟩
    · rw [e]; exact hs
    · rw [e]; intro e2; injection e2 with e2; omega
theorem Lies.trans {W W1 : World} {v v1 v2 : Value} (h : Lies W v v1) (hs : W.heap.size ≤ W1.heap.size) (k : Lies W1 v1 v2) : Lies W v v2 := by
  rcases k with k | ⟨g, k, hg⟩
  · rcases h with h | ⟨g, h, hg⟩
    · exact Or.inl (k.trans h)
    · exact Or.inr ⟨g, k.trans h, hg⟩
  · exact Or.inr ⟨g, k, Nat.le_trans hs hg⟩
def StRet (w0 W : World) (b : Nat) (h : Hd8) (r' : Rs) (lA : Option Addr) (lc : Nat) (sv : Value) (e : Ending) (W' : World) : Prop :=
  e = .returned (.tuple #[]) ∧ ∃ sv', RunSt w0 W' b h r' lA lc sv' ∧ Kept W W' b sv ∧ Lies W sv sv'
def VlRet (w0 W : World) (b : Nat) (h : Hd8) (r' : Rs) (lA : Option Addr) (lc : Nat) (sv v : Value) (e : Ending) (W' : World) : Prop :=
  e = .returned v ∧ ∃ sv', RunSt w0 W' b h r' lA lc sv' ∧ Kept W W' b sv ∧ Lies W sv sv'
theorem nine_cells {W : World} {B : Nat} {a b c d e f g h i : Value} {t : TypeId} (hh : W.heap[B]? = some (.cells #[a, b, c, d, e, f, g, h, i] t)) :
    W.cell? ⟨B, 0, none⟩ = some a ∧ W.cell? ⟨B, 1, none⟩ = some b ∧ W.cell? ⟨B, 2, none⟩ = some c ∧ W.cell? ⟨B, 3, none⟩ = some d ∧ W.cell? ⟨B, 4, none⟩ = some e ∧ W.cell? ⟨B, 5, none⟩ = some f ∧ W.cell? ⟨B, 6, none⟩ = some g ∧ W.cell? ⟨B, 7, none⟩ = some h ∧ W.cell? ⟨B, 8, none⟩ = some i := by
  refine ⟨?_, ?_, ?_, ?_, ?_, ?_, ?_, ?_, ?_⟩ <;> simp [World.cell?, hh]
theorem two_cellsV {W : World} {B : Nat} {a b : Value} {t : TypeId} (hh : W.heap[B]? = some (.cells #[a, b] t)) : W.cell? ⟨B, 0, none⟩ = some a ∧ W.cell? ⟨B, 1, none⟩ = some b := by constructor <;> simp [World.cell?, hh]
theorem frozV {W : World} {B : Nat} {cs : Array Value} {t : TypeId} (h : W.heap[B]? = some (.cells cs t)) (j : Nat) : W.frozen? ⟨B, j, none⟩ = false := by simp [World.frozen?, h]
theorem neVR : 42 ≠ 48 := by decide
/-- a row's block is no block of another element type -/
theorem own_no {w : World} {B e k n b : Nat} {v : Value} {xs : List Value} {cs : Array Value} {t : TypeId} {fr : Nat × Nat} (h : w.ownsRow B e k v n xs) (hb : w.heap[b]? = some (.cells cs t fr)) (hne : e ≠ t) : v.ownBlock ≠ some b := by
  intro h2
  rcases h.2 with ⟨rfl, _⟩ | ⟨g, cap, cur, rfl, _, hg, _⟩
  · cases h2
  · have e1 : g = b := Option.some.inj h2
    subst e1
    rw [hb] at hg
    have := Option.some.inj hg
    injection this with _ h5 _
    exact hne h5.symm
theorem grown_setV {w : World} {g j : Nat} {u : Value} : w.grownBy (w.setCell ⟨g, j, none⟩ u) (some g) :=
  ⟨rfl, rfl, rfl, by simp, fun k hk hne => heap_setCell_other w ⟨g, j, none⟩ k u (fun e => hne (by rw [e]))⟩
theorem VRow.kept {w w' : World} {A : Option Addr} {L : List Va} {r : Option Nat} (h : VRow w A L) (hg : w.grownBy w' r) (ho : ∀ g o s, A = some ⟨g, o, s⟩ → L ≠ [] → r ≠ some g) : VRow w' A L := by
  rcases h with h | ⟨g, o, hA, hgl, hc⟩
  · exact Or.inl h
  · rcases Classical.em (L = []) with h0 | h0
    · exact Or.inl h0
    · refine Or.inr ⟨g, o, hA, Nat.lt_of_lt_of_le hgl hg.size, fun k p hp => ?_⟩
      have hb := hg.block g hgl (Ne.symm (ho g o none hA h0))
      have hcell : ∀ j, w'.cell? ⟨g, j, none⟩ = w.cell? ⟨g, j, none⟩ := fun j => by simp [World.cell?, hb]
      obtain ⟨c0, c1⟩ := hc k p hp
      exact ⟨(hcell _).trans c0, (hcell _).trans c1⟩
theorem RunSt.nb {w0 W : World} {b : Nat} {h : Hd8} {r : Rs} {lA : Option Addr} {lc : Nat} {sv : Value} (H : RunSt w0 W b h r lA lc sv) : sv.ownBlock ≠ some b := own_no H.own H.box neVR
theorem RunSt.up {w0 W W' : World} {b : Nat} {h : Hd8} {r : Rs} {lA : Option Addr} {lc : Nat} {sv : Value} (H : RunSt w0 W b h r lA lc sv) (hb : Below W.heap.size W W') : RunSt w0 W' b h r lA lc sv :=
  ⟨(hb.block b (lt_heapV H.box)).trans H.box, own_below H.own hb, H.loc.up hb, H.off, H.ll, below_on H.bel hb, H.bb⟩
/-- the box is written, nothing else -/
theorem RunSt.rebox {w0 W W' : World} {b : Nat} {h : Hd8} {r : Rs} {lA : Option Addr} {lc : Nat} {sv : Value} {x : Int} (H : RunSt w0 W b h r lA lc sv) (hg : W.grownBy W' (some b)) (hb : W'.heap[b]? = some (Obj.cells #[Value.int IntKind.i64 (Hd8.cl h), Value.int IntKind.i64 (Hd8.me h), Value.int IntKind.i64 (Hd8.pc h), ((.slice lA r.ls.length lc)), sv, Value.int IntKind.i64 (Hd8.lk h), Value.bool (Hd8.ii h), Value.bool (Hd8.dr h), Value.int IntKind.i64 x] 48)) : RunSt w0 W' b h { r with e := x } lA lc sv :=
  ⟨hb, H.own.kept hg (Or.inr H.nb), H.loc.kept hg (fun g o s hA h0 e => (H.off g o s hA h0).1 (Option.some.inj e).symm), H.off, H.ll, H.bel.trans (grown_below hg (fun k hk => by injection hk with hk; rw [← hk]; exact H.bb) H.bel.size), H.bb⟩
/-- the stack's row is written and then its place in the box -/
theorem RunSt.restack {w0 W w4 W' : World} {b : Nat} {h : Hd8} {r : Rs} {ss : List Va} {lA : Option Addr} {lc : Nat} {sv sv' : Value} (H : RunSt w0 W b h r lA lc sv) (ho : w4.ownsRow w0.heap.size 42 2 sv' ss.length (prow ss)) (hg : W.grownBy w4 sv.ownBlock) (hl : Lies W sv sv')
    (hg2 : w4.grownBy W' (some b)) (hb : W'.heap[b]? = some (Obj.cells #[Value.int IntKind.i64 (Hd8.cl h), Value.int IntKind.i64 (Hd8.me h), Value.int IntKind.i64 (Hd8.pc h), ((.slice lA r.ls.length lc)), sv', Value.int IntKind.i64 (Hd8.lk h), Value.bool (Hd8.ii h), Value.bool (Hd8.dr h), Value.int IntKind.i64 r.e] 48)) : RunSt w0 W' b h { r with ss := ss } lA lc sv' ∧ Kept W W' b sv := by
  have hbw := lt_heapV H.box
  have hnb4 : sv'.ownBlock ≠ some b := by
    rcases hl with e | ⟨g, e, hge⟩
    · rw [e]; exact H.nb
    · rw [e]; intro e2; injection e2 with e2; omega
  have hoff' : ∀ g o s, lA = some ⟨g, o, s⟩ → r.ls ≠ [] → g ≠ b ∧ sv'.ownBlock ≠ some g := fun g o s hA h0 => by
    obtain ⟨h1, h2⟩ := H.off g o s hA h0
    refine ⟨h1, ?_⟩
    rcases hl with e | ⟨g', e, hge⟩
    · rw [e]; exact h2
    · rw [e]; intro e2; injection e2 with e2
      rcases H.loc with h3 | ⟨g3, o3, hA3, hg3, _⟩
      · exact h0 h3
      · rw [hA] at hA3
        injection hA3 with hA3
        injection hA3 with hA3
        omega
  have hb4 : Below w0.heap.size w0 w4 := H.bel.trans (grown_below hg (fun k hk => (H.own.lt k hk).1) H.bel.size)
  refine ⟨⟨hb, ho.kept hg2 (Or.inr hnb4), (H.loc.kept hg (fun g o s hA h0 => (H.off g o s hA h0).2)).kept hg2 (fun g o s hA h0 e => (H.off g o s hA h0).1 (Option.some.inj e).symm), hoff', H.ll, hb4.trans (grown_below hg2 (fun k hk => by injection hk with hk; rw [← hk]; exact H.bb) hb4.size), H.bb⟩, Nat.le_trans hg.size hg2.size, fun k hk hkb hks => ?_⟩
  rw [hg2.block k (Nat.lt_of_lt_of_le hk hg.size) (fun e => hkb (Option.some.inj e))]
  exact hg.block k hk (Ne.symm hks)
/-- a block of the call's own is written -/
theorem RunSt.aside {w0 W W' : World} {b x : Nat} {h : Hd8} {r : Rs} {lA : Option Addr} {lc : Nat} {sv : Value} (H : RunSt w0 W b h r lA lc sv) (hg : W.grownBy W' (some x)) (hxb : x ≠ b) (hxs : sv.ownBlock ≠ some x) (hxl : ∀ g o s, lA = some ⟨g, o, s⟩ → r.ls ≠ [] → g ≠ x) (hx0 : w0.heap.size ≤ x) : RunSt w0 W' b h r lA lc sv :=
  ⟨(hg.block b (lt_heapV H.box) (fun e => hxb (Option.some.inj e).symm)).trans H.box, H.own.kept hg (Or.inr hxs), H.loc.kept hg (fun g o s hA h0 e => hxl g o s hA h0 (Option.some.inj e).symm), H.off, H.ll, H.bel.trans (grown_below hg (fun k hk => by injection hk with hk; rw [← hk]; exact hx0) H.bel.size), H.bb⟩
theorem RunSt.lb {w0 W : World} {b : Nat} {h : Hd8} {r : Rs} {lA : Option Addr} {lc : Nat} {sv : Value} (H : RunSt w0 W b h r lA lc sv) : ∀ g o s, lA = some ⟨g, o, s⟩ → r.ls ≠ [] → g < W.heap.size := fun g o s hA h0 => by
  rcases H.loc with h3 | ⟨g3, o3, hA3, hg3, _⟩
  · exact absurd h3 h0
  · rw [hA] at hA3
    injection hA3 with hA3
    injection hA3 with hA3
    omega
theorem Kept.aside {W W1 W2 : World} {b x : Nat} {sv : Value} (h : Kept W W1 b sv) (hg : W1.grownBy W2 (some x)) (hx : W.heap.size ≤ x) : Kept W W2 b sv :=
  ⟨Nat.le_trans h.size hg.size, fun k hk hb hs => (hg.block k (Nat.lt_of_lt_of_le hk h.size) (fun e => by injection e with e; omega)).trans (h.block k hk hb hs)⟩
theorem Kept.of_grown {W W' : World} {b : Nat} {sv : Value} (hg : W.grownBy W' (some b)) : Kept W W' b sv := ⟨hg.size, fun k hk hb _ => hg.block k hk (fun e => hb (Option.some.inj e))⟩
theorem grown_two {W W1 W2 : World} {r : Option Nat} (h : W.grownBy W1 r) (k : W1.grownBy W2 r) : W.grownBy W2 r := h.trans k
theorem grown_drw {W W' : World} {r : Option Nat} (h : W.grownBy W' r) : W.grownBy W'.drew r := ⟨h.os, h.tape, h.output, h.size, h.block⟩

end Go.Proofs.Ytgiglbjkijlchaa
