/- Layer 42: which instructions are executed. -/
import Derived.Test.YtgiglbjkijlchaaRj
import Derived.Laws.ResultCell
import Derived.Laws.Rows
namespace Go.Proofs.Ytgiglbjkijlchaa
open Go.ChangeShapes Go.WideShapes Go.ChangeAt Go.RowKit Go.PlainAid
set_option linter.unusedSimpArgs false
set_option linter.unusedVariables false

def hdl (op : Int) : Bool := decide ((0 ≤ op ∧ op ≤ 35) ∨ (36 ≤ op ∧ op ≤ 54))
def ownI (i : In) : Bool := hdl i.op && (i.op != 3 || i.b == 3 || i.b == 5)
set_option maxRecDepth 100000 in
theorem handles_any (op : Int) (w : World) :
    Calls Try.prog 13 #[.int .i64 op] w fun e w' => e = .returned (.bool (hdl op)) ∧ w = w' := by
  rcases (by omega : op < 0 ∨ op = 0 ∨ op = 1 ∨ op = 2 ∨ op = 3 ∨ (4 ≤ op ∧ op ≤ 35) ∨ (36 ≤ op ∧ op ≤ 54) ∨ 54 < op) with e | e | e | e | e | e | e | e
  · have hh : hdl op = false := by unfold hdl; simp; omega
    rw [hh]
    have h0 : op ≠ 0 := by omega
    have h1 : op ≠ 1 := by omega
    have h2 : op ≠ 2 := by omega
    have h3 : op ≠ 3 := by omega
    have h4 : op < 4 := by omega
    have h5 : op < 36 := by omega
    go_enter Try.func13, Try.ntmps13
    go_wp2
    go_ret
    exact ⟨rfl, rfl⟩
  · subst e
    go_enter Try.func13, Try.ntmps13
    go_wp2
    go_ret
    exact ⟨rfl, rfl⟩
  · subst e
    go_enter Try.func13, Try.ntmps13
    go_wp2
    go_ret
    exact ⟨rfl, rfl⟩
  · subst e
    go_enter Try.func13, Try.ntmps13
    go_wp2
    go_ret
    exact ⟨rfl, rfl⟩
  · subst e
    go_enter Try.func13, Try.ntmps13
    go_wp2
    go_ret
    exact ⟨rfl, rfl⟩
  · have hh : hdl op = true := by unfold hdl; simp; omega
    rw [hh]
    have h0 : op ≠ 0 := by omega
    have h1 : op ≠ 1 := by omega
    have h2 : op ≠ 2 := by omega
    have h3 : op ≠ 3 := by omega
    have h4 : 4 ≤ op := by omega
    have h5 : op ≤ 35 := by omega
    clear e
    go_enter Try.func13, Try.ntmps13
    go_wp2
    go_ret
    exact ⟨rfl, rfl⟩
  · have hh : hdl op = true := by unfold hdl; simp; omega
    rw [hh]
    have h0 : op ≠ 0 := by omega
    have h1 : op ≠ 1 := by omega
    have h2 : op ≠ 2 := by omega
    have h3 : op ≠ 3 := by omega
    have h4 : 4 ≤ op := by omega
    have h5 : 35 < op := by omega
    have h6 : 36 ≤ op := by omega
    have h7 : op ≤ 54 := by omega
    clear e
    go_enter Try.func13, Try.ntmps13
    go_wp2
    go_ret
    exact ⟨rfl, rfl⟩
  · have hh : hdl op = false := by unfold hdl; simp; omega
    rw [hh]
    have h0 : op ≠ 0 := by omega
    have h1 : op ≠ 1 := by omega
    have h2 : op ≠ 2 := by omega
    have h3 : op ≠ 3 := by omega
    have h4 : 4 ≤ op := by omega
    have h5 : 35 < op := by omega
    have h6 : 36 ≤ op := by omega
    have h7 : 54 < op := by omega
    clear e
    go_enter Try.func13, Try.ntmps13
    go_wp2
    go_ret
    refine ⟨?_, rfl⟩
    show Ending.returned (Value.bool (decide (op ≤ 35) || decide (op ≤ 54))) = _
    rw [decide_eq_false (by omega), decide_eq_false (by omega)]; rfl

theorem step_app_any {w : World} {ops : Array Oper} {o : Oper} {a : Act} {K : Act → World → Prop} {Q : Exit → Act → World → Prop} {E : Prop} (hg : o.guard = none) (s x : Operand)
    (hop : o.op = Op.call { callee := Callee.builtin Builtin.append, args := #[s, x], argTypes := #[22, 22] })
    (base n m c : Nat) (L M : List Va) (v : Value) (A : Option Addr) (hs : a.eval s = v) (hown : w.ownsRow base 42 2 v n (prow L)) (hx : a.eval x = .slice A m c)
    (hm : M.length = m) (hrow : VRow w A M) (hnil : A = none → c = 0) (hb : n + m ≤ 10000000) (hbase : base ≤ w.heap.size)
    (h : ∀ v' w', w'.ownsRow base 42 2 v' (n + m) (prow (L ++ M)) → w.grownBy w' v.ownBlock → K (a.put o.dst v') w') : if Region.wanted o (yielded ops a.tmps) = true then Oper.wp Try.prog o a w K Q else E := by
  cases A with
  | some ad =>
    have hw : Region.wanted o (yielded ops a.tmps) = true := by simp [Region.wanted, hg]
    rw [if_pos hw]
    obtain ⟨i0, hi, hz0, hz1, hz2⟩ := info_partsV infoV
    exact wp_append_own w s x 22 hop base 42 i0 (.agg #[.int .i64 0, .int .i64 0]) 2 16 Try.underlying22 hi hz0 hz1 hz2 rfl (by decide) v n (prow L) hs hown ad m c (prow M) hx (by rw [prow_len, hm]) (fun j u hu => hrow.news j u hu) (prow_one M) (by unfold maxLen; omega) (by omega) hbase fun v' w' h1 h2 _ => h v' w' (by rw [prow_app]; exact h1) h2
  | none =>
    have hw : Region.wanted o (yielded ops a.tmps) = true := by simp [Region.wanted, hg]
    rw [if_pos hw]
    obtain rfl : c = 0 := hnil rfl
    obtain rfl : M = [] := by
      rcases hrow with h | ⟨g, o, hA, _⟩
      · exact h
      · cases hA
    obtain rfl : m = 0 := hm.symm
    obtain ⟨i0, hi, hz0, hz1, hz2⟩ := info_partsV infoV
    have hrun := run_append_owned_none (P := Try.prog) (w := w) base 22 o.type 42 i0 2 Try.underlying22 hi v n (prow L) hown
    unfold Oper.wp
    simp [execOp, hop, resolve, invoke, builtin, hs, hx, hrun, Result.andThen]
    exact h v w (by rw [List.append_nil]; exact hown) (World.grownBy.refl _ _)

/-- an activation's value -/
structure Ac where
  h : Hd8
  ls : List Va
  ss : List Va
  lA : Option Addr
  lc : Nat
  sA : Option Addr
  sc : Nat
structure Ac.ok (w : World) (a : Ac) : Prop where
  l : VRow w a.lA a.ls
  s : VRow w a.sA a.ss
  ll : a.ls.length ≤ a.lc ∧ (a.lA = none → a.lc = 0)
  sl : a.ss.length ≤ a.sc ∧ (a.sA = none → a.sc = 0)
def Ac.val (a : Ac) : Value := (Value.agg #[Value.int IntKind.i64 (Hd8.cl a.h), Value.int IntKind.i64 (Hd8.me a.h), Value.int IntKind.i64 (Hd8.pc a.h), ((.slice a.lA a.ls.length a.lc)), ((.slice a.sA a.ss.length a.sc)), Value.int IntKind.i64 (Hd8.lk a.h), Value.bool (Hd8.ii a.h), Value.bool (Hd8.dr a.h)])
structure Sp where
  h : Hd8
  ls : List Va
  ss : List Va
/-- what execution makes of an activation -/
def runI (i : In) (r : Rs) : Rs := if 36 ≤ i.op then brS i r else if 15 ≤ i.op then compS i.op r else if 11 ≤ i.op then shufS i.op r else if 4 ≤ i.op then accessS i r else constS i r
def nextI (i : In) (r : Rs) (pc : Int) : Int := if 36 ≤ i.op ∧ brY i r = true then brT i r else wrap64 (pc + 1)
def execE (i : In) (a : Sp) : Int := if ownI i = true then (runI i ⟨a.ls, a.ss, 0⟩).e else 15
def execS (i : In) (a : Sp) : Sp :=
  if execE i a ≠ 0 then a else ⟨{ a.h with pc := nextI i ⟨a.ls, a.ss, 0⟩ a.h.pc }, (runI i ⟨a.ls, a.ss, 0⟩).ls, (runI i ⟨a.ls, a.ss, 0⟩).ss⟩
/-- a row where one of the call's arguments lay, or new -/
def Nr (w : World) (A A' : Option Addr) : Prop := A' = A ∨ ∀ g o s, A' = some ⟨g, o, s⟩ → w.heap.size ≤ g
/-- the stack lies where it lay, unchanged, or is new -/
def Ns (w : World) (a a' : Ac) : Prop := (a'.sA = a.sA ∧ a'.ss = a.ss) ∨ ∀ g o s, a'.sA = some ⟨g, o, s⟩ → w.heap.size ≤ g
/-- the two results of Execute -/
def ExRet (a : Ac) (w : World) (s : Sp) (e : Int) (en : Ending) (w' : World) : Prop :=
  ∃ a' : Ac, en = .returned (.tuple #[a'.val, .int .i64 e]) ∧ a'.ok w' ∧ a'.h = s.h ∧ a'.ls = s.ls ∧ a'.ss = s.ss ∧ Below w.heap.size w w' ∧ Nr w a.lA a'.lA ∧ Ns w a a'

theorem three_new (w : World) (o1 o2 o3 : Obj) : (((w.alloc o1).alloc o2).alloc o3).heap[w.heap.size]? = some o1 ∧ (((w.alloc o1).alloc o2).alloc o3).heap[w.heap.size + 1]? = some o2 ∧ (((w.alloc o1).alloc o2).alloc o3).heap[w.heap.size + 1 + 1]? = some o3 ∧ (((w.alloc o1).alloc o2).alloc o3).heap.size = w.heap.size + 3 ∧ Below w.heap.size w (((w.alloc o1).alloc o2).alloc o3) := by
  have b1 := below_al (Below.refl (w.alloc o1).heap.size (w.alloc o1)) o2
  have b2 := below_al (Below.refl ((w.alloc o1).alloc o2).heap.size ((w.alloc o1).alloc o2)) o3
  have h1 := World.alloc_heap_new w o1
  have h2 := World.alloc_heap_new (w.alloc o1) o2
  have h3 := World.alloc_heap_new ((w.alloc o1).alloc o2) o3
  have s1 : (w.alloc o1).heap.size = w.heap.size + 1 := by simp
  have s2 : ((w.alloc o1).alloc o2).heap.size = w.heap.size + 1 + 1 := by simp
  rw [s1] at h2
  rw [s2] at h3
  exact ⟨(b2.block _ (by omega)).trans ((b1.block _ (by omega)).trans h1), (b2.block _ (by omega)).trans h2, h3, by simp, below_al (below_al (below_al (Below.refl _ _) o1) o2) o3⟩
theorem eight_cells {W : World} {B : Nat} {a b c d e f g h : Value} {t : TypeId} (hh : W.heap[B]? = some (.cells #[a, b, c, d, e, f, g, h] t)) :
    W.cell? ⟨B, 0, none⟩ = some a ∧ W.cell? ⟨B, 1, none⟩ = some b ∧ W.cell? ⟨B, 2, none⟩ = some c ∧ W.cell? ⟨B, 3, none⟩ = some d ∧ W.cell? ⟨B, 4, none⟩ = some e ∧ W.cell? ⟨B, 5, none⟩ = some f ∧ W.cell? ⟨B, 6, none⟩ = some g ∧ W.cell? ⟨B, 7, none⟩ = some h := by
  refine ⟨?_, ?_, ?_, ?_, ?_, ?_, ?_, ?_⟩ <;> simp [World.cell?, hh]

/-- eight cells stored at a block -/
theorem set_eight {w : World} {B : Nat} {o : Array Value} {t : TypeId} {a b c d e f g h : Value} (hs : ∃ x0 x1 x2 x3 x4 x5 x6 x7, o = #[x0, x1, x2, x3, x4, x5, x6, x7]) (hh : w.heap[B]? = some (.cells o t)) :
    ((((((((w.setCell ⟨B, 0, none⟩ a).setCell ⟨B, 1, none⟩ b).setCell ⟨B, 2, none⟩ c).setCell ⟨B, 3, none⟩ d).setCell ⟨B, 4, none⟩ e).setCell ⟨B, 5, none⟩ f).setCell ⟨B, 6, none⟩ g).setCell ⟨B, 7, none⟩ h).heap[B]? = some (.cells #[a, b, c, d, e, f, g, h] t) ∧
    w.grownBy ((((((((w.setCell ⟨B, 0, none⟩ a).setCell ⟨B, 1, none⟩ b).setCell ⟨B, 2, none⟩ c).setCell ⟨B, 3, none⟩ d).setCell ⟨B, 4, none⟩ e).setCell ⟨B, 5, none⟩ f).setCell ⟨B, 6, none⟩ g).setCell ⟨B, 7, none⟩ h) (some B) := by
  obtain ⟨x0, x1, x2, x3, x4, x5, x6, x7, rfl⟩ := hs
  have st : ∀ (w : World) (v : Value) (j : Nat), w.grownBy (w.setCell ⟨B, j, none⟩ v) (some B) := fun _ _ _ => grown_setV
  have h0 : (w.setCell ⟨B, 0, none⟩ a).heap[B]? = some (.cells #[a, x1, x2, x3, x4, x5, x6, x7] t) := heap_setCell_same w B 0 _ _ a hh
  have g0 := st w a 0
  generalize w.setCell ⟨B, 0, none⟩ a = w0 at h0 g0 ⊢
  have h1 : (w0.setCell ⟨B, 1, none⟩ b).heap[B]? = some (.cells #[a, b, x2, x3, x4, x5, x6, x7] t) := heap_setCell_same w0 B 1 _ _ b h0
  have g1 := g0.trans (st w0 b 1)
  generalize w0.setCell ⟨B, 1, none⟩ b = w1 at h1 g1 ⊢
  have h2 : (w1.setCell ⟨B, 2, none⟩ c).heap[B]? = some (.cells #[a, b, c, x3, x4, x5, x6, x7] t) := heap_setCell_same w1 B 2 _ _ c h1
  have g2 := g1.trans (st w1 c 2)
  generalize w1.setCell ⟨B, 2, none⟩ c = w2 at h2 g2 ⊢
  have h3 : (w2.setCell ⟨B, 3, none⟩ d).heap[B]? = some (.cells #[a, b, c, d, x4, x5, x6, x7] t) := heap_setCell_same w2 B 3 _ _ d h2
  have g3 := g2.trans (st w2 d 3)
  generalize w2.setCell ⟨B, 3, none⟩ d = w3 at h3 g3 ⊢
  have h4 : (w3.setCell ⟨B, 4, none⟩ e).heap[B]? = some (.cells #[a, b, c, d, e, x5, x6, x7] t) := heap_setCell_same w3 B 4 _ _ e h3
  have g4 := g3.trans (st w3 e 4)
  generalize w3.setCell ⟨B, 4, none⟩ e = w4 at h4 g4 ⊢
  have h5 : (w4.setCell ⟨B, 5, none⟩ f).heap[B]? = some (.cells #[a, b, c, d, e, f, x6, x7] t) := heap_setCell_same w4 B 5 _ _ f h4
  have g5 := g4.trans (st w4 f 5)
  generalize w4.setCell ⟨B, 5, none⟩ f = w5 at h5 g5 ⊢
  have h6 : (w5.setCell ⟨B, 6, none⟩ g).heap[B]? = some (.cells #[a, b, c, d, e, f, g, x7] t) := heap_setCell_same w5 B 6 _ _ g h5
  have g6 := g5.trans (st w5 g 6)
  generalize w5.setCell ⟨B, 6, none⟩ g = w6 at h6 g6 ⊢
  have h7 : (w6.setCell ⟨B, 7, none⟩ h).heap[B]? = some (.cells #[a, b, c, d, e, f, g, h] t) := heap_setCell_same w6 B 7 _ _ h h6
  have g7 := g6.trans (st w6 h 7)
  exact ⟨h7, g7⟩
theorem ac_size : (Try.prog.info? 24).map (·.size) = some 8 := by kernel_rfl
theorem ac_under : ∃ fs, Try.prog.underlying 24 = some (.struct fs) := ⟨_, Try.underlying24⟩
theorem ex_ret {fn : Func} (hf : fn.results = #[.cell 4 24, .tmp 5]) {a : Act} {w : World} {B : Nat} {cs : Array Value} (ht : a.tmps.getD 4 undef = .pointer (some ⟨B, 0, none⟩)) (hg : w.heap[B]? = some (.cells cs 24)) (hs : cs.size = 8) :
    (results fn a.tmps).run Try.prog w = .ok (.tuple #[.agg cs, a.tmps.getD 5 undef]) w := by
  rw [results_cell_tmp hf, ht]
  obtain ⟨fs, hu⟩ := ac_under
  have hl := run_loadVar_row (P := Try.prog) w B 24 24 cs (0, 0) _ hg hu rfl (by rw [hs]; exact ac_size)
  simp [asAddr, Result.andThen, hl]

set_option maxRecDepth 100000 in
set_option maxHeartbeats 1000000 in
theorem exec_bad (a : Ac) (i : In) (w : World) (ha : a.ok w) (ho : ownI i = false) :
    Calls Try.prog 10 #[(Value.agg #[Value.int IntKind.i64 (Hd8.cl a.h), Value.int IntKind.i64 (Hd8.me a.h), Value.int IntKind.i64 (Hd8.pc a.h), ((.slice a.lA a.ls.length a.lc)), ((.slice a.sA a.ss.length a.sc)), Value.int IntKind.i64 (Hd8.lk a.h), Value.bool (Hd8.ii a.h), Value.bool (Hd8.dr a.h)]), (Value.agg #[Value.int IntKind.i64 (In.op i), Value.int IntKind.i64 (In.a i), Value.int IntKind.i64 (In.b i), Value.int IntKind.i64 (In.t i), Value.slice (In.kA i) (In.kn i) (In.kc i), Value.slice (In.tA i) (In.tn i) (In.tc i), Value.string (In.r1 i), Value.string (In.r2 i), Value.string (In.r3 i), Value.string (In.s i)])] w (ExRet a w ⟨a.h, a.ls, a.ss⟩ 15) := by
  have HA := Lib.hid ha
  clear ha
  obtain ⟨n1, hn1⟩ : ∃ n, a.ls.length = n := ⟨_, rfl⟩
  obtain ⟨n2, hn2⟩ : ∃ n, a.ss.length = n := ⟨_, rfl⟩
  have HN := Lib.hid (And.intro hn1 hn2)
  rw [hn1, hn2]
  clear hn1 hn2
  go_enter Try.func10, Try.ntmps10
  go_upto_region 1 with fail
  have h3 := three_new w (.cells #[.int .i64 a.h.cl, .int .i64 a.h.me, .int .i64 a.h.pc, .slice a.lA n1 a.lc, .slice a.sA n2 a.sc, .int .i64 a.h.lk, .bool a.h.ii, .bool a.h.dr] 24) (.cells #[.int .i64 i.op, .int .i64 i.a, .int .i64 i.b, .int .i64 i.t, .slice i.kA i.kn i.kc, .slice i.tA i.tn i.tc, .string i.r1, .string i.r2, .string i.r3, .string i.s] 29) (.cells #[.int .i64 0, .int .i64 0, .int .i64 0, .slice none 0 0, .slice none 0 0, .int .i64 0, .bool false, .bool false] 24)
  generalize ((w.alloc (.cells #[.int .i64 a.h.cl, .int .i64 a.h.me, .int .i64 a.h.pc, .slice a.lA n1 a.lc, .slice a.sA n2 a.sc, .int .i64 a.h.lk, .bool a.h.ii, .bool a.h.dr] 24)).alloc (.cells #[.int .i64 i.op, .int .i64 i.a, .int .i64 i.b, .int .i64 i.t, .slice i.kA i.kn i.kc, .slice i.tA i.tn i.tc, .string i.r1, .string i.r2, .string i.r3, .string i.s] 29)).alloc (.cells #[.int .i64 0, .int .i64 0, .int .i64 0, .slice none 0 0, .slice none 0 0, .int .i64 0, .bool false, .bool false] 24) = w3 at h3 ⊢
  obtain ⟨R0, R1, R2, hsz, hb3⟩ := h3
  obtain ⟨a0, a1, a2, a3, a4, a5, a6, a7⟩ := eight_cells R0
  obtain ⟨r0, r1, r2, r3, r4, r5, r6, r7, r8, r9⟩ := ten_cells R1
  obtain ⟨z0, z1, z2, z3, z4, z5, z6, z7⟩ := eight_cells R2
  have y0 := lt_heapV R0
  have y1 := lt_heapV R1
  have y2 := lt_heapV R2
  have f2 := fun j => frozV R2 j
  have HR2 := Lib.hid R2
  have HB3 := Lib.hid hb3
  unfold ownI at ho
  cases hh : hdl i.op with
  | false =>
    clear ho
    go_upto_region 2 with (go_at_call 13; refine (handles_any _ _).mono ?_; rintro e w4 ⟨rfl, rfl⟩; rw [hh])
    go_wp2
    (try simp only [Exit.inBlock, Exit.then])
    obtain ⟨hs8, hg8⟩ := set_eight (a := .int .i64 a.h.cl) (b := .int .i64 a.h.me) (c := .int .i64 a.h.pc) (d := .slice a.lA n1 a.lc) (e := .slice a.sA n2 a.sc) (f := .int .i64 a.h.lk) (g := .bool a.h.ii) (h := .bool a.h.dr) ⟨_, _, _, _, _, _, _, _, rfl⟩ HR2.out
    refine bodyPost_ret (ex_ret rfl rfl hs8 rfl) rfl ?_
    have hb8 := HB3.out.trans (grown_below hg8 (fun k hk => by have := Option.some.inj hk; omega) HB3.out.size)
    refine ⟨a, by rw [← HN.out.1, ← HN.out.2]; rfl, ⟨HA.out.l.up hb8, HA.out.s.up hb8, HA.out.ll, HA.out.sl⟩, rfl, rfl, rfl, hb8, Or.inl rfl, Or.inl ⟨rfl, rfl⟩⟩
  | true =>
    rw [hh] at ho
    have h3 : i.op = 3 ∧ i.b ≠ 3 ∧ i.b ≠ 5 := by
      simp at ho
      exact ⟨by omega, by omega, by omega⟩
    obtain ⟨e3, hb1, hb2⟩ := h3
    rw [e3] at r0 hh
    clear ho
    have hq1 : (i.b != 3) = true := by simpa using hb1
    have hq2 : (i.b != 5) = true := by simpa using hb2
    go_wp2_with (go_at_call 13; refine (handles_any _ _).mono ?_; rintro e w4 ⟨rfl, rfl⟩; rw [hh])
    (try simp only [Exit.inBlock, Exit.then])
    obtain ⟨hs8, hg8⟩ := set_eight (a := .int .i64 a.h.cl) (b := .int .i64 a.h.me) (c := .int .i64 a.h.pc) (d := .slice a.lA n1 a.lc) (e := .slice a.sA n2 a.sc) (f := .int .i64 a.h.lk) (g := .bool a.h.ii) (h := .bool a.h.dr) ⟨_, _, _, _, _, _, _, _, rfl⟩ HR2.out
    refine bodyPost_ret (ex_ret rfl rfl hs8 rfl) rfl ?_
    have hb8 := HB3.out.trans (grown_below hg8 (fun k hk => by have := Option.some.inj hk; omega) HB3.out.size)
    refine ⟨a, by rw [← HN.out.1, ← HN.out.2]; rfl, ⟨HA.out.l.up hb8, HA.out.s.up hb8, HA.out.ll, HA.out.sl⟩, rfl, rfl, rfl, hb8, Or.inl rfl, Or.inl ⟨rfl, rfl⟩⟩
end Go.Proofs.Ytgiglbjkijlchaa
