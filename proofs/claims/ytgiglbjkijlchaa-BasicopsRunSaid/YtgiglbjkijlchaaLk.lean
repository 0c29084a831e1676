/- Layer 42: the reference's Run: what its rounds keep. -/
import Derived.Test.YtgiglbjkijlchaaRu
import Derived.Test.YtgiglbjkijlchaaRyd
namespace Go.Proofs.Ytgiglbjkijlchaa
open Go.ChangeShapes Go.WideShapes Go.ChangeAt Go.RowKit Go.PlainAid
set_option linter.unusedSimpArgs false
set_option linter.unusedVariables false

/-- the three results of the reference's Run -/
def RzRet (a : Ac) (w : World) (r : Sp × Nat × Int) (en : Ending) (w' : World) : Prop :=
  ∃ a' : Ac, en = .returned (.tuple #[a'.val, .int .i64 r.2.1, .int .i64 r.2.2]) ∧ a'.ok w' ∧ a'.h = r.1.h ∧ a'.ls = r.1.ls ∧ a'.ss = r.1.ss ∧ Below w.heap.size w w'
def Ny (w : World) (A : Option Addr) (L : List Va) (A' : Option Addr) (L' : List Va) : Prop := (A' = A ∧ (L = [] → L' = [])) ∨ ∀ g o s, A' = some ⟨g, o, s⟩ → w.heap.size + 2 ≤ g
theorem ny_off {w : World} {A A' : Option Addr} {L L' : List Va} {B : Nat} (h0 : VRow w A L) (h : Ny w A L A' L') (hB : w.heap.size ≤ B ∧ B < w.heap.size + 2) : ∀ g o s, A' = some ⟨g, o, s⟩ → L' ≠ [] → g ≠ B := by
  intro g o s hA hn
  rcases h with ⟨e, hL⟩ | h
  · rw [e] at hA
    rcases h0 with h0 | ⟨g2, o2, hA2, hg2, _⟩
    · exact absurd (hL h0) hn
    · rw [hA2] at hA
      injection hA with hA
      injection hA with e1 _ _
      omega
  · have := h g o s hA; omega
theorem ny_nz {w w2 : World} {A A1 A2 : Option Addr} {L L1 L2 : List Va} (h : Ny w A L A1 L1) (hs : w.heap.size + 2 ≤ w2.heap.size) (k : Nz w2 A1 L1 A2 L2) : Ny w A L A2 L2 := by
  rcases k with ⟨k1, k2⟩ | k
  · subst k1
    rcases h with ⟨h1, h2⟩ | h
    · exact Or.inl ⟨h1, fun e => k2 (h2 e)⟩
    · exact Or.inr h
  · exact Or.inr fun g o s e => Nat.le_trans hs (k g o s e)
theorem exec_atR {cl me pc lk : Int} {ii dr : Bool} {ls ss : List Va} {lA sA : Option Addr} {lc sc n1 n2 : Nat} {i : In} {w : World} (hn1 : ls.length = n1) (hn2 : ss.length = n2)
    (ha : Ac.ok w ⟨⟨cl, me, pc, lk, ii, dr⟩, ls, ss, lA, lc, sA, sc⟩) (hi : i.ok w w.heap.size) (hl1 : n1 ≤ 100000) (hl2 : n2 ≤ 100000) (h1 : i.kn ≤ 9223372036854775807) (h2 : i.tn ≤ 9223372036854775807) (hra : Rg i.a) (hv1 : VsIn ls) (hv : VsIn ss) :
    Calls Try.prog 11 #[.agg #[.int .i64 cl, .int .i64 me, .int .i64 pc, .slice lA n1 lc, .slice sA n2 sc, .int .i64 lk, .bool ii, .bool dr], (Value.agg #[Value.int IntKind.i64 (In.op i), Value.int IntKind.i64 (In.a i), Value.int IntKind.i64 (In.b i), Value.int IntKind.i64 (In.t i), Value.slice (In.kA i) (In.kn i) (In.kc i), Value.slice (In.tA i) (In.tn i) (In.tc i), Value.string (In.r1 i), Value.string (In.r2 i), Value.string (In.r3 i), Value.string (In.s i)])] w (RxRet ⟨⟨cl, me, pc, lk, ii, dr⟩, ls, ss, lA, lc, sA, sc⟩ w (execS i ⟨⟨cl, me, pc, lk, ii, dr⟩, ls, ss⟩) (execE i ⟨⟨cl, me, pc, lk, ii, dr⟩, ls, ss⟩)) := by
  subst hn1 hn2
  exact rexec_any ⟨⟨cl, me, pc, lk, ii, dr⟩, ls, ss, lA, lc, sA, sc⟩ i w ha hi hl1 hl2 h1 h2 hra hv1 hv
structure RunIz (w wr : World) (l : List In) (a0 : Ac) (m k : Nat) (a : Ac) : Prop where
  box : wr.heap[w.heap.size]? = some a.obj
  res : ∃ x0 x1 x2 x3 x4 x5 x6 x7, wr.heap[w.heap.size + 1]? = some (.cells #[x0, x1, x2, x3, x4, x5, x6, x7] 24)
  ok : a.ok wr
  bel : Below w.heap.size w wr
  v1 : VsIn a.ls
  v2 : VsIn a.ss
  l1 : a.ls.length ≤ 100000
  l2 : a.ss.length + 3 * (m - k) ≤ 100000
  nl : Ny w a0.lA a0.ls a.lA a.ls
  ns : Ny w a0.sA a0.ss a.sA a.ss
  ll : a.ls.length = a0.ls.length
  run : runS l m a0.sp = addN k (runS l (m - k) a.sp)
theorem RunIz.offl {w wr : World} {l : List In} {a0 a : Ac} {m k B : Nat} (H : RunIz w wr l a0 m k a) (ha : a0.ok w) (hB : w.heap.size ≤ B ∧ B < w.heap.size + 2) : ∀ g o s, a.lA = some ⟨g, o, s⟩ → a.ls ≠ [] → g ≠ B := ny_off ha.l H.nl hB
theorem RunIz.offs {w wr : World} {l : List In} {a0 a : Ac} {m k B : Nat} (H : RunIz w wr l a0 m k a) (ha : a0.ok w) (hB : w.heap.size ≤ B ∧ B < w.heap.size + 2) : ∀ g o s, a.sA = some ⟨g, o, s⟩ → a.ss ≠ [] → g ≠ B := ny_off ha.s H.ns hB
theorem RunIz.end {w wr w9 : World} {l : List In} {a0 a : Ac} {m k : Nat} {e : Int} (H : RunIz w wr l a0 m k a) (ha : a0.ok w) (hg : wr.grownBy w9 (some (w.heap.size + 1))) (hr : runS l (m - k) a.sp = (a.sp, 0, e)) :
    RzRet a0 w (runS l m a0.sp) (.returned (.tuple #[a.val, .int .i64 k, .int .i64 e])) w9 := by
  rw [H.run, hr]
  have hb := H.bel.trans (grown_below hg (fun k hk => by have := Option.some.inj hk; omega) H.bel.size)
  exact ⟨a, by simp [addN], ⟨H.ok.l.off hg (H.offl ha ⟨by omega, by omega⟩), H.ok.s.off hg (H.offs ha ⟨by omega, by omega⟩), H.ok.ll, H.ok.sl⟩, rfl, rfl, rfl, hb⟩
theorem RunIz.up {w wr wr' : World} {l : List In} {a0 a : Ac} {m k : Nat} (H : RunIz w wr l a0 m k a) (hb : Below wr.heap.size wr wr') : RunIz w wr' l a0 m k a := by
  obtain ⟨x0, x1, x2, x3, x4, x5, x6, x7, hx⟩ := H.res
  exact ⟨(hb.block _ (lt_heapV H.box)).trans H.box, ⟨_, _, _, _, _, _, _, _, (hb.block _ (lt_heapV hx)).trans hx⟩, ⟨H.ok.l.up hb, H.ok.s.up hb, H.ok.ll, H.ok.sl⟩, below_on H.bel hb, H.v1, H.v2, H.l1, H.l2, H.nl, H.ns, H.ll, H.run⟩
theorem RunIz.step {w wr w2 w5 w6 : World} {l : List In} {a0 a a' : Ac} {m k : Nat} {i : In} (H : RunIz w wr l a0 m k a) (ha : a0.ok w) (hk : k < m) (hf : InsFit l) (hi : insAt l a.h.pc = some i) (ho : ownI i = true) (he : execE i a.sp = 0)
    (hw2 : wr.heap.size ≤ w2.heap.size) (hok : a'.ok w5) (e1 : a'.h = (execS i a.sp).h) (e2 : a'.ls = (execS i a.sp).ls) (e3 : a'.ss = (execS i a.sp).ss) (hn : Nz w2 a.lA a.ls a'.lA a'.ls) (hs : Nz w2 a.sA a.ss a'.sA a'.ss)
    (hbel5 : Below w.heap.size w w5) (hblk : w5.heap[w.heap.size + 1]? = wr.heap[w.heap.size + 1]?) (hg : w5.grownBy w6 (some w.heap.size)) (hbox : w6.heap[w.heap.size]? = some a'.obj) (hw : w.heap.size + 2 ≤ wr.heap.size) : RunIz w w6 l a0 m (k + 1) a' := by
  have hsp : a'.sp = execS i a.sp := by show Sp.mk a'.h a'.ls a'.ss = _; rw [e1, e2, e3]
  have hlen := exec_len i a.sp
  have hin := exec_in (i := i) (a := a.sp) H.v1 H.v2 (hf.a i (insAt_mem hi))
  have hbel := hbel5.trans (grown_below hg (fun k hk => by have := Option.some.inj hk; omega) hbel5.size)
  have hll : a'.ls.length = a0.ls.length := by rw [e2, hlen.1]; exact H.ll
  have hnl := ny_nz H.nl (Nat.le_trans hw hw2) hn
  have hns := ny_nz H.ns (Nat.le_trans hw hw2) hs
  obtain ⟨x0, x1, x2, x3, x4, x5, x6, x7, hx⟩ := H.res
  have hx5 := hblk.trans hx
  have l1 := lt_heapV hx5
  have hx6 : w6.heap[w.heap.size + 1]? = some (.cells #[x0, x1, x2, x3, x4, x5, x6, x7] 24) :=
    (hg.block _ l1 (fun e => by have := Option.some.inj e; omega)).trans hx5
  refine ⟨hbox, ⟨_, _, _, _, _, _, _, _, hx6⟩, ⟨hok.l.off hg (ny_off ha.l hnl ⟨by omega, by omega⟩), hok.s.off hg (ny_off ha.s hns ⟨by omega, by omega⟩), hok.ll, hok.sl⟩, hbel, by rw [e2]; exact hin.1, by rw [e3]; exact hin.2, by rw [hll, ← H.ll]; exact H.l1, ?_, hnl, hns, hll, ?_⟩
  · have h2 := H.l2
    have h3 := hlen.2
    rw [e3]
    have : a.sp.ss.length = a.ss.length := rfl
    omega
  · rw [H.run, show m - k = (m - (k + 1)) + 1 by omega, runS_ok hi ho he, hsp, addN_addN]
    congr 1
    omega
end Go.Proofs.Ytgiglbjkijlchaa
