/- Layer 42: Run. -/
import Derived.Test.YtgiglbjkijlchaaExl
namespace Go.Proofs.Ytgiglbjkijlchaa
open Go.ChangeShapes Go.WideShapes Go.ChangeAt Go.RowKit Go.PlainAid
set_option linter.unusedSimpArgs false
set_option linter.unusedVariables false

def Ac.sp (a : Ac) : Sp := ⟨a.h, a.ls, a.ss⟩
def addN (k : Nat) (r : Sp × Nat × Int) : Sp × Nat × Int := (r.1, r.2.1 + k, r.2.2)
theorem addN_addN (j k : Nat) (r : Sp × Nat × Int) : addN j (addN k r) = addN (k + j) r := by unfold addN; simp; omega
def insAt (l : List In) (pc : Int) : Option In := if 0 ≤ pc then l[pc.toNat]? else none
/-- what Run makes of an activation: the activation, the count, the error -/
def runS (l : List In) : Nat → Sp → Sp × Nat × Int
  | 0, a => (a, 0, 0)
  | k + 1, a => match insAt l a.h.pc with
    | none => (a, 0, 0)
    | some i => if ownI i = true then (if execE i a = 0 then addN 1 (runS l k (execS i a)) else (a, 0, execE i a)) else (a, 0, 0)
theorem runS_none {l : List In} {k : Nat} {a : Sp} (h : insAt l a.h.pc = none) : runS l k a = (a, 0, 0) := by
  cases k with
  | zero => rfl
  | succ k => unfold runS; rw [h]
theorem runS_not {l : List In} {k : Nat} {a : Sp} {i : In} (h : insAt l a.h.pc = some i) (ho : ownI i = false) : runS l k a = (a, 0, 0) := by
  cases k with
  | zero => rfl
  | succ k => unfold runS; rw [h]; dsimp only; rw [ho]; rfl
theorem runS_err {l : List In} {k : Nat} {a : Sp} {i : In} (h : insAt l a.h.pc = some i) (ho : ownI i = true) (he : execE i a ≠ 0) : runS l (k + 1) a = (a, 0, execE i a) := by
  unfold runS; rw [h]; dsimp only; rw [if_pos ho, if_neg he]
theorem runS_ok {l : List In} {k : Nat} {a : Sp} {i : In} (h : insAt l a.h.pc = some i) (ho : ownI i = true) (he : execE i a = 0) : runS l (k + 1) a = addN 1 (runS l k (execS i a)) := by
  conv => lhs; unfold runS
  rw [h]; dsimp only; rw [if_pos ho, if_pos he]
/-- the three results of Run -/
def RuRet (a : Ac) (w : World) (r : Sp × Nat × Int) (en : Ending) (w' : World) : Prop :=
  ∃ a' : Ac, en = .returned (.tuple #[a'.val, .int .i64 r.2.1, .int .i64 r.2.2]) ∧ a'.ok w' ∧ a'.h = r.1.h ∧ a'.ls = r.1.ls ∧ a'.ss = r.1.ss ∧ Below w.heap.size w w' ∧ Nr w a.lA a'.lA ∧ Ns w a a'
theorem exec_at {cl me pc lk : Int} {ii dr : Bool} {ls ss : List Va} {lA sA : Option Addr} {lc sc n1 n2 : Nat} {i : In} {w : World} (hn1 : ls.length = n1) (hn2 : ss.length = n2)
    (ha : Ac.ok w ⟨⟨cl, me, pc, lk, ii, dr⟩, ls, ss, lA, lc, sA, sc⟩) (hi : i.ok w w.heap.size) (hl1 : n1 ≤ 100000) (hl2 : n2 ≤ 100000) (h1 : i.kn ≤ 9223372036854775807) (h2 : i.tn ≤ 9223372036854775807) (hra : Rg i.a) (hv : VsIn ss) :
    Calls Try.prog 10 #[.agg #[.int .i64 cl, .int .i64 me, .int .i64 pc, .slice lA n1 lc, .slice sA n2 sc, .int .i64 lk, .bool ii, .bool dr], (Value.agg #[Value.int IntKind.i64 (In.op i), Value.int IntKind.i64 (In.a i), Value.int IntKind.i64 (In.b i), Value.int IntKind.i64 (In.t i), Value.slice (In.kA i) (In.kn i) (In.kc i), Value.slice (In.tA i) (In.tn i) (In.tc i), Value.string (In.r1 i), Value.string (In.r2 i), Value.string (In.r3 i), Value.string (In.s i)])] w (ExRet ⟨⟨cl, me, pc, lk, ii, dr⟩, ls, ss, lA, lc, sA, sc⟩ w (execS i ⟨⟨cl, me, pc, lk, ii, dr⟩, ls, ss⟩) (execE i ⟨⟨cl, me, pc, lk, ii, dr⟩, ls, ss⟩)) := by
  subst hn1 hn2
  exact exec_any ⟨⟨cl, me, pc, lk, ii, dr⟩, ls, ss, lA, lc, sA, sc⟩ i w ha hi hl1 hl2 h1 h2 hra hv
/-- an activation's box -/
def Ac.obj (a : Ac) : Obj := .cells #[.int .i64 a.h.cl, .int .i64 a.h.me, .int .i64 a.h.pc, .slice a.lA a.ls.length a.lc, .slice a.sA a.ss.length a.sc, .int .i64 a.h.lk, .bool a.h.ii, .bool a.h.dr] 24
/-- a row of an activation lies where the first one lay, or behind the run's two boxes -/
def Nq (w : World) (A A' : Option Addr) : Prop := A' = A ∨ ∀ g o s, A' = some ⟨g, o, s⟩ → w.heap.size + 2 ≤ g
structure RunInv (w wr : World) (l : List In) (a0 : Ac) (m k : Nat) (a : Ac) : Prop where
  box : wr.heap[w.heap.size]? = some a.obj
  res : ∃ x0 x1 x2 x3 x4 x5 x6 x7, wr.heap[w.heap.size + 1]? = some (.cells #[x0, x1, x2, x3, x4, x5, x6, x7] 24)
  ok : a.ok wr
  bel : Below w.heap.size w wr
  v1 : VsIn a.ls
  v2 : VsIn a.ss
  l1 : a.ls.length ≤ 100000
  l2 : a.ss.length + 3 * (m - k) ≤ 100000
  nl : Nq w a0.lA a.lA
  ns : (a.sA = a0.sA ∧ a.ss = a0.ss) ∨ ∀ g o s, a.sA = some ⟨g, o, s⟩ → w.heap.size + 2 ≤ g
  ll : a.ls.length = a0.ls.length
  run : runS l m a0.sp = addN k (runS l (m - k) a.sp)
theorem results_three {fn : Func} {p u v : Tmp} {ty : TypeId} (h : fn.results = #[.cell p ty, .tmp u, .tmp v]) (tmps : Array Value) (P : Program) (w : World) :
    (results fn tmps).run P w =
      ((asAddr (tmps.getD p undef)).run P w).andThen fun a w₁ => ((loadVar ty a).run P w₁).andThen fun x w₂ => .ok (.tuple #[x, tmps.getD u undef, tmps.getD v undef]) w₂ := by
  simp only [results, h]
  simp [Sem.run_bind, Result.andThen]
theorem ru_ret {fn : Func} (hf : fn.results = #[.cell 6 24, .tmp 7, .tmp 8]) {a : Act} {w : World} {B : Nat} {cs : Array Value} (ht : a.tmps.getD 6 undef = .pointer (some ⟨B, 0, none⟩)) (hg : w.heap[B]? = some (.cells cs 24)) (hs : cs.size = 8) :
    (results fn a.tmps).run Try.prog w = .ok (.tuple #[.agg cs, a.tmps.getD 7 undef, a.tmps.getD 8 undef]) w := by
  obtain ⟨fs, hu⟩ := ac_under
  have hl := run_loadVar_row (P := Try.prog) w B 24 24 cs (0, 0) _ hg hu rfl (by rw [hs]; exact ac_size)
  rw [results_three hf, ht]
  simp [asAddr, Result.andThen, hl]
/-- a row off a block: below the run's boxes or behind them -/
theorem nq_off {w : World} {A A' : Option Addr} {L L' : List Va} {B : Nat} (h0 : VRow w A L) (h : Nq w A A') (hL : L = [] → L' = []) (hB : w.heap.size ≤ B ∧ B < w.heap.size + 2) : ∀ g o s, A' = some ⟨g, o, s⟩ → L' ≠ [] → g ≠ B := by
  intro g o s hA hn
  rcases h with e | h
  · rw [e] at hA
    rcases h0 with h0 | ⟨g2, o2, hA2, hg2, _⟩
    · exact absurd (hL h0) hn
    · rw [hA2] at hA
      injection hA with hA
      injection hA with e1 _ _
      omega
  · have := h g o s hA; omega
theorem VRow.off {w w' : World} {A : Option Addr} {L : List Va} {B : Nat} (h : VRow w A L) (hg : w.grownBy w' (some B)) (ho : ∀ g o s, A = some ⟨g, o, s⟩ → L ≠ [] → g ≠ B) : VRow w' A L :=
  h.kept hg (fun g o s hA h0 e => ho g o s hA h0 (Option.some.inj e).symm)
/-- the instructions' own bounds -/
structure InsFit (l : List In) : Prop where
  k : ∀ i ∈ l, i.kn ≤ 9223372036854775807
  t : ∀ i ∈ l, i.tn ≤ 9223372036854775807
  a : ∀ i ∈ l, Rg i.a
theorem RunInv.offl {w wr : World} {l : List In} {a0 a : Ac} {m k B : Nat} (H : RunInv w wr l a0 m k a) (ha : a0.ok w) (hB : w.heap.size ≤ B ∧ B < w.heap.size + 2) : ∀ g o s, a.lA = some ⟨g, o, s⟩ → a.ls ≠ [] → g ≠ B :=
  nq_off ha.l H.nl (fun h => List.length_eq_zero_iff.1 (by rw [H.ll, h]; rfl)) hB
theorem RunInv.offs {w wr : World} {l : List In} {a0 a : Ac} {m k B : Nat} (H : RunInv w wr l a0 m k a) (ha : a0.ok w) (hB : w.heap.size ≤ B ∧ B < w.heap.size + 2) : ∀ g o s, a.sA = some ⟨g, o, s⟩ → a.ss ≠ [] → g ≠ B := by
  rcases H.ns with ⟨e1, e2⟩ | h
  · exact nq_off (A' := a.sA) ha.s (Or.inl e1) (fun h => by rw [e2, h]) hB
  · intro g o s hA _
    have := h g o s hA
    omega
theorem RunInv.end {w wr w9 : World} {l : List In} {a0 a : Ac} {m k : Nat} {e : Int} (H : RunInv w wr l a0 m k a) (ha : a0.ok w) (hg : wr.grownBy w9 (some (w.heap.size + 1))) (hr : runS l (m - k) a.sp = (a.sp, 0, e)) :
    RuRet a0 w (runS l m a0.sp) (.returned (.tuple #[a.val, .int .i64 k, .int .i64 e])) w9 := by
  rw [H.run, hr]
  have hb := H.bel.trans (grown_below hg (fun k hk => by have := Option.some.inj hk; omega) H.bel.size)
  refine ⟨a, by simp [addN], ⟨H.ok.l.off hg (H.offl ha ⟨by omega, by omega⟩), H.ok.s.off hg (H.offs ha ⟨by omega, by omega⟩), H.ok.ll, H.ok.sl⟩, rfl, rfl, rfl, hb, ?_, ?_⟩
  · exact H.nl.imp id (fun h g o s hA => by have := h g o s hA; omega)
  · exact H.ns.imp id (fun h g o s hA => by have := h g o s hA; omega)
theorem RunInv.up {w wr wr' : World} {l : List In} {a0 a : Ac} {m k : Nat} (H : RunInv w wr l a0 m k a) (hb : Below wr.heap.size wr wr') : RunInv w wr' l a0 m k a := by
  obtain ⟨x0, x1, x2, x3, x4, x5, x6, x7, hx⟩ := H.res
  exact ⟨(hb.block _ (lt_heapV H.box)).trans H.box, ⟨_, _, _, _, _, _, _, _, (hb.block _ (lt_heapV hx)).trans hx⟩, ⟨H.ok.l.up hb, H.ok.s.up hb, H.ok.ll, H.ok.sl⟩, below_on H.bel hb, H.v1, H.v2, H.l1, H.l2, H.nl, H.ns, H.ll, H.run⟩
theorem insAt_mem {l : List In} {pc : Int} {i : In} (h : insAt l pc = some i) : i ∈ l := by
  unfold insAt at h
  split at h
  · exact List.mem_of_getElem? h
  · cases h
theorem RunInv.step {w wr w2 w3 w5 w6 : World} {l : List In} {a0 a a' : Ac} {m k : Nat} {i : In} (H : RunInv w wr l a0 m k a) (ha : a0.ok w) (hk : k < m) (hf : InsFit l) (hi : insAt l a.h.pc = some i) (ho : ownI i = true) (he : execE i a.sp = 0)
    (hb2 : Below wr.heap.size wr w2) (hb3 : Below w2.heap.size w2 w3) (hok : a'.ok w3) (e1 : a'.h = (execS i a.sp).h) (e2 : a'.ls = (execS i a.sp).ls) (e3 : a'.ss = (execS i a.sp).ss) (hn : Nr w2 a.lA a'.lA) (hs : Ns w2 a a')
    (hb5 : Below w3.heap.size w3 w5) (hg : w5.grownBy w6 (some w.heap.size)) (hbox : w6.heap[w.heap.size]? = some a'.obj) (hw : w.heap.size + 2 ≤ wr.heap.size) : RunInv w w6 l a0 m (k + 1) a' := by
  have hsp : a'.sp = execS i a.sp := by show Sp.mk a'.h a'.ls a'.ss = _; rw [e1, e2, e3]
  have hlen := exec_len i a.sp
  have hin := exec_in (i := i) (a := a.sp) H.v1 H.v2 (hf.a i (insAt_mem hi))
  have hw2 : w.heap.size + 2 ≤ w2.heap.size := Nat.le_trans hw hb2.size
  have hbel5 := below_on (below_on (below_on H.bel hb2) hb3) hb5
  have hbel := hbel5.trans (grown_below hg (fun k hk => by have := Option.some.inj hk; omega) hbel5.size)
  have hll : a'.ls.length = a0.ls.length := by rw [e2, hlen.1]; exact H.ll
  have hnl : Nq w a0.lA a'.lA := by
    rcases hn with e | h
    · rw [e]; exact H.nl
    · exact Or.inr fun g o s hA => by have := h g o s hA; omega
  have hns : (a'.sA = a0.sA ∧ a'.ss = a0.ss) ∨ ∀ g o s, a'.sA = some ⟨g, o, s⟩ → w.heap.size + 2 ≤ g := by
    rcases hs with ⟨e, f⟩ | h
    · rw [e, f]; exact H.ns
    · exact Or.inr fun g o s hA => by have := h g o s hA; omega
  obtain ⟨x0, x1, x2, x3, x4, x5, x6, x7, hx⟩ := H.res
  have l1 := lt_heapV hx
  have hx6 : w6.heap[w.heap.size + 1]? = some (.cells #[x0, x1, x2, x3, x4, x5, x6, x7] 24) := by
    have s2 := hb2.size
    have s3 := hb3.size
    have s5 := hb5.size
    rw [hg.block _ (by omega) (fun e => by have := Option.some.inj e; omega), hb5.block _ (by omega), hb3.block _ (by omega), hb2.block _ (by omega)]
    exact hx
  have o1 : ∀ g o s, a'.lA = some ⟨g, o, s⟩ → a'.ls ≠ [] → g ≠ w.heap.size := nq_off ha.l hnl (fun h => List.length_eq_zero_iff.1 (by rw [hll, h]; rfl)) ⟨by omega, by omega⟩
  have o2 : ∀ g o s, a'.sA = some ⟨g, o, s⟩ → a'.ss ≠ [] → g ≠ w.heap.size := by
    rcases hns with ⟨f1, f2⟩ | h
    · exact nq_off (A' := a'.sA) ha.s (Or.inl f1) (fun h => by rw [f2, h]) ⟨by omega, by omega⟩
    · intro g o s hA _
      have := h g o s hA
      omega
  refine ⟨hbox, ⟨_, _, _, _, _, _, _, _, hx6⟩, ⟨(hok.l.up hb5).off hg o1, (hok.s.up hb5).off hg o2, hok.ll, hok.sl⟩, hbel, by rw [e2]; exact hin.1, by rw [e3]; exact hin.2, by rw [hll, ← H.ll]; exact H.l1, ?_, hnl, hns, hll, ?_⟩
  · have h2 := H.l2
    have h3 := hlen.2
    rw [e3]
    have : a.sp.ss.length = a.ss.length := rfl
    omega
  · rw [H.run, show m - k = (m - (k + 1)) + 1 by omega, runS_ok hi ho he, hsp, addN_addN]
    congr 1
    omega
end Go.Proofs.Ytgiglbjkijlchaa
