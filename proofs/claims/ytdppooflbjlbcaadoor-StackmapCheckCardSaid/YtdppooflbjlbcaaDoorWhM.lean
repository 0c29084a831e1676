import Derived.Test.YtdppooflbjlbcaaDoorDsM
import Derived.Test.YtdppooflbjlbcaaDoorVs
import Derived.Test.YtdppooflbjlbcaaDoorCd
import Derived.Test.YtdppooflbjlbcaaDoorWdM
import Derived.Test.YtdppooflbjlbcaaDoorReg

/- Wb -/
/- Layer 22: verification types checked. (Written by gen/wa.py.) -/
namespace Go.Proofs.YtdppooflbjlbcaaDoor.I
open Go.ChangeShapes Go.WideShapes Go.ChangeAt Go.RowKit Go.PlainAid Go.Maps
set_option linter.unusedSimpArgs false
set_option linter.unusedVariables false

def vvB (k n d b : Int) (s : ByteArray) (p : Int) : Bool :=
  decide (p = 0) && (decide (k = 5) || decide (n = 0)) && decide (0 ≤ n) && (if 0 ≤ k ∧ k ≤ 3 then decide (d = 0) && decide (b = 0) && s.toList.isEmpty else if k = 4 then validB d b s && (decide (0 < d) || (b == 76)) else if k = 5 ∨ k = 6 then validB d b s && (b == 76) && (d == 0) else false)
theorem isref_any (d b : Int) (s : ByteArray) (w : World) :
    Calls Tryd.prog 78 #[.agg #[.int .i64 d, .int .u8 b, .string s]] w fun e w' => e = .returned (.bool (decide (0 < d) || (b == 76))) ∧ Below w.heap.size w w' := by
  have hB : Below w.heap.size w w := Below.refl _ _
  go_enter Tryd.func78, Tryd.ntmps78
  go_wp2
  all_goals (go_ret; refine ⟨?_, (by repeat (first | with_reducible exact hB | with_reducible exact Below.refl _ _ | with_reducible refine below_al ?_ _ | with_reducible refine below_st ?_ (by first | exact Nat.le_refl _ | exact Nat.le_add_right _ _ | (simp; omega)) _))⟩; simp_all)
  all_goals (try trace_state)
set_option maxHeartbeats 2000000 in
theorem vvalid_any (k n d b : Int) (s : ByteArray) (p : Int) (w : World) :
    Calls Tryd.prog 56 #[.agg #[.int .i64 k, .int .i64 n, .int .i64 d, .int .u8 b, .string s, .int .i64 p]] w fun e w' => e = .returned (.bool (vvB k n d b s p)) ∧ Below w.heap.size w w' := by
  have hB : Below w.heap.size w w := Below.refl _ _
  go_enter Tryd.func56, Tryd.ntmps56
  go_wp2_with (first | (go_at_call 77; refine (valid_any _ _ _ _).mono ?_; rintro e w1 ⟨rfl, hb1⟩; obtain ⟨hc1, hf1⟩ := bcell hb1; have hz1 := hb1.size; (try simp only [World.size_alloc, World.size_setCell] at hz1); (try have hza : w.heap.size < w1.heap.size := by omega); (try have hzb : w.heap.size + 1 < w1.heap.size := by omega); (try have hzc : w.heap.size + 1 + 1 < w1.heap.size := by omega); (try have hzd : wa.heap.size < w1.heap.size := by omega); (try replace hR := (hb1.block w.heap.size (by first | exact lt_heap hR | (have := lt_heap hR; simp; omega))).trans (by first | with_reducible exact hR | with_reducible exact laid_old hR)); replace hB := below_on (w := w) ((by repeat (first | with_reducible exact hB | with_reducible exact Below.refl _ _ | with_reducible refine below_al ?_ _ | with_reducible refine below_st ?_ (by first | exact Nat.le_refl _ | exact Nat.le_add_right _ _ | (simp; omega)) _))) hb1; clear hb1) | (go_at_call 78; refine (isref_any _ _ _ _).mono ?_; rintro e w1 ⟨rfl, hb1⟩; obtain ⟨hc1, hf1⟩ := bcell hb1; have hz1 := hb1.size; (try simp only [World.size_alloc, World.size_setCell] at hz1); (try have hza : w.heap.size < w1.heap.size := by omega); (try have hzb : w.heap.size + 1 < w1.heap.size := by omega); (try have hzc : w.heap.size + 1 + 1 < w1.heap.size := by omega); (try have hzd : wa.heap.size < w1.heap.size := by omega); (try replace hR := (hb1.block w.heap.size (by first | exact lt_heap hR | (have := lt_heap hR; simp; omega))).trans (by first | with_reducible exact hR | with_reducible exact laid_old hR)); replace hB := below_on (w := w) ((by repeat (first | with_reducible exact hB | with_reducible exact Below.refl _ _ | with_reducible refine below_al ?_ _ | with_reducible refine below_st ?_ (by first | exact Nat.le_refl _ | exact Nat.le_add_right _ _ | (simp; omega)) _))) hb1; clear hb1))
  all_goals go_ret
  all_goals refine ⟨?_, (by repeat (first | with_reducible exact hB | with_reducible exact Below.refl _ _ | with_reducible refine below_al ?_ _ | with_reducible refine below_st ?_ (by first | exact Nat.le_refl _ | exact Nat.le_add_right _ _ | (simp; omega)) _))⟩
  all_goals (unfold vvB; simp_all)
  all_goals (first | omega | (intros; omega) | grind)
def wrB (v : VT) : Bool := !vvB v.k v.n v.d v.b v.s v.p
set_option maxRecDepth 100000 in
set_option maxHeartbeats 8000000 in
theorem wrc_any (v : VT) (w : World) : Calls Tryd.prog 55 #[(Value.agg #[Value.int IntKind.i64 (VT.k v), Value.int IntKind.i64 (VT.n v), Value.int IntKind.i64 (VT.d v), Value.int IntKind.u8 (VT.b v), Value.string (VT.s v), Value.int IntKind.i64 (VT.p v)])] w fun e w' => e = .returned (.bool (wrB v)) ∧ Below w.heap.size w w' := by
  have K := Lib.hid (fun (W : World) => vvalid_any v.k v.n v.d v.b v.s v.p W)
  have hB : Below w.heap.size w w := Below.refl _ _
  unfold wrB
  obtain ⟨r, hr⟩ : ∃ r, vvB v.k v.n v.d v.b v.s v.p = r := ⟨_, rfl⟩
  rw [hr] at K ⊢
  clear hr
  go_enter Tryd.func55, Tryd.ntmps55
  go_upto_region 1 with fail
  have hX := World.alloc_heap_new w (.cells #[.int .i64 v.k, .int .i64 v.n, .int .i64 v.d, .int .u8 v.b, .string v.s, .int .i64 v.p] 95)
  replace hB := below_al hB (.cells #[.int .i64 v.k, .int .i64 v.n, .int .i64 v.d, .int .u8 v.b, .string v.s, .int .i64 v.p] 95)
  generalize w.alloc (.cells #[.int .i64 v.k, .int .i64 v.n, .int .i64 v.d, .int .u8 v.b, .string v.s, .int .i64 v.p] 95) = W at hX hB ⊢
  obtain ⟨b0, b1, b2, b3, b4, b5⟩ := six_cells hX
  have yb := lt_heap hX
  go_wp2_with (go_at_call 56; (with_reducible refine (K.out _).mono ?_); rintro e w2 ⟨rfl, hb2⟩)
  go_ret
  exact ⟨rfl, below_on hB hb2⟩
set_option maxRecDepth 100000 in
set_option maxHeartbeats 8000000 in
theorem ixw_any {A2 : Option Addr} {m c2 : Nat} {P : List VT} (w : World) (hv : VS w w.heap.size A2 P) (hm : P.length = m) (hM : m ≤ 9223372036854775807) :
    Calls Tryd.prog 79 #[.slice A2 m c2, .func (.func 55) #[] #[]] w (IxRet (P.any wrB) w) := by
  have K := Lib.hid (fun (v : VT) (W : World) (hW : Below w.heap.size w W) => wrc_any v W)
  have HP := Lib.hid hv
  have HN := Lib.hid hm
  have hen : Enters Tryd.prog 55 := enters_of Tryd.func55 (by kernel_rfl) rfl
  have he2 : ∀ (args : Array Value) (w : World), (callFunc 55 args).run Tryd.prog w = .ok (.enter 55 args) w := hen
  clear hv hm
  go_enter Tryd.func79, Tryd.ntmps79
  go_wp2
  go_loopw [8] (fun z wr => ∃ k : Nat, k ≤ m ∧ z = .int .i64 k ∧ (P.take k).any wrB = false ∧ Below w.heap.size w wr) (fun z _ => m - (intOf z).toNat)
  case atStart => exact ⟨0, Nat.zero_le _, rfl, rfl, Below.refl _ _⟩
  case round =>
    obtain ⟨k, hk, rfl, hall, hb⟩ := hrel
    have HALL := Lib.hid hall
    have HB := Lib.hid hb
    have HPr := Lib.hid (HP.out.up hb)
    clear hall hb
    by_cases hlt : k < m
    · obtain ⟨v, hi⟩ := get_someF (l := P) (k := k) (by rw [HN.out]; exact hlt)
      obtain ⟨g, o, rfl, hg, a0, a1, a2, a3, a4, a5⟩ := HPr.out.six hi
      have HAT := Lib.hid (any_take (p := wrB) hi)
      have HOF := Lib.hid (any_of (p := wrB) hi)
      have hk0 : (0 : Int) ≤ (k : Int) := by omega
      have hk1 : (k : Int) < (m : Int) := by omega
      clear hi
      cases hc : wrB v with
      | true =>
        have HC := Lib.hid hc
        clear hc
        go_wp2_with (first | (go_at_call 55; refine (K.out v _ HB.out).mono ?_; rintro e w2 ⟨rfl, hb2⟩; rw [HC.out]) | (go_at_fn 55; refine (K.out v _ HB.out).mono ?_; rintro e w2 ⟨rfl, hb2⟩; rw [HC.out]))
        go_ret
        exact ⟨k, rfl, by rw [HOF.out HC.out]; simp, below_on HB.out hb2⟩
      | false =>
        have HC := Lib.hid hc
        clear hc
        go_wp2_with (first | (go_at_call 55; refine (K.out v _ HB.out).mono ?_; rintro e w2 ⟨rfl, hb2⟩; rw [HC.out]) | (go_at_fn 55; refine (K.out v _ HB.out).mono ?_; rintro e w2 ⟨rfl, hb2⟩; rw [HC.out]))
        exact ⟨⟨k + 1, hlt, by go_num, by rw [HAT.out, HALL.out, HC.out]; rfl, below_on HB.out hb2⟩, by simp [intOf]; omega⟩
    · obtain rfl : m = k := by omega
      go_wp2
      go_ret
      exact ⟨-1, rfl, by have h9 := HALL.out; rw [List.take_of_length_le (by rw [HN.out]; exact Nat.le_refl _)] at h9; rw [h9]; decide, HB.out⟩
set_option maxRecDepth 100000 in
set_option maxHeartbeats 4000000 in
theorem cfw_any {A2 : Option Addr} {m c2 : Nat} {P : List VT} (w : World) (hv : VS w w.heap.size A2 P) (hm : P.length = m) (hM : m ≤ 9223372036854775807) :
    Calls Tryd.prog 57 #[.slice A2 m c2, .func (.func 55) #[] #[]] w fun e w' => e = .returned (.bool (P.any wrB)) ∧ Below w.heap.size w w' := by
  have K := Lib.hid (ixw_any (c2 := c2) w hv hm hM)
  clear hv hm
  generalize P.any wrB = b at K ⊢
  go_enter Tryd.func57, Tryd.ntmps57
  go_wp2_with (go_at_call 79; refine K.out.mono ?_; rintro e w2 ⟨r, rfl, hr, hb2⟩)
  go_ret
  exact ⟨by rw [← hr]; first | rfl | simp, hb2⟩

end Go.Proofs.YtdppooflbjlbcaaDoor.I

/- Wh -/
/- Layer 22: Check. (Written by gen/wh.py.) -/
namespace Go.Proofs.YtdppooflbjlbcaaDoor.I
open Go.ChangeShapes Go.WideShapes Go.ChangeAt Go.RowKit Go.PlainAid
set_option linter.unusedSimpArgs false
set_option linter.unusedVariables false

theorem below_dr9S {w W : World} (h : Below w.heap.size w W) (q : Nat) : Below w.heap.size w (W.drewN q) := ⟨h.os, h.tape, h.output, h.size, h.block⟩
/-- a map is wrong by itself -/
def ckR (c : Cd) (m : SM) : Bool := !exB c.n m.x || (((m.f.n1 : Int) != c.lo) || (decide (c.st < (m.f.n2 : Int)) || (m.f.P.any wrB || m.f.Q.any wrB)))
/-- map j is wrong -/
def ckP (c : Cd) (ms : List SM) (j : Nat) : Bool :=
  match ms[j]? with
  | some m => (match j with | 0 => false | q + 1 => (match ms[q]? with | some p => decide (m.x ≤ p.x) | none => false)) || ckR c m
  | none => false
def ckQ (c : Cd) (ms : List SM) : Int := if (List.range ms.length).any (ckP c ms) = true then 25 else 0
theorem ckP_0 {c : Cd} {ms : List SM} {m : SM} (h : ms[0]? = some m) : ckP c ms 0 = ckR c m := by unfold ckP; rw [h]; rfl
theorem ckP_s {c : Cd} {ms : List SM} {m p : SM} {q : Nat} (h : ms[q + 1]? = some m) (hp : ms[q]? = some p) : ckP c ms (q + 1) = (decide (m.x ≤ p.x) || ckR c m) := by unfold ckP; rw [h]; simp only [hp]
theorem ckQ_bad {c : Cd} {ms : List SM} {j n : Nat} (hn : ms.length = n) (hj : j < n) (h : ckP c ms j = true) : ckQ c ms = 25 := by
  unfold ckQ; rw [if_pos (List.any_eq_true.2 ⟨j, List.mem_range.2 (by omega), h⟩)]
theorem ckQ_ok {c : Cd} {ms : List SM} {n : Nat} (hn : ms.length = n) (h : (List.range n).any (ckP c ms) = false) : ckQ c ms = 0 := by
  unfold ckQ; rw [hn, h, if_neg (by decide)]
theorem rk_succ {p : Nat → Bool} {k : Nat} (h : (List.range k).any p = false) (hx : p k = false) : (List.range (k + 1)).any p = false := by
  rw [List.range_succ, List.any_append, h]; simp [hx]
theorem ckR_x {c : Cd} {m : SM} (h : exB c.n m.x = false) : ckR c m = true := by unfold ckR; rw [h]; rfl
theorem ckR_d {c : Cd} {m : SM} (h : ((m.f.n1 : Int) != c.lo) = true) : ckR c m = true := by unfold ckR; rw [h]; simp
theorem ckR_e {c : Cd} {m : SM} (h : c.st < (m.f.n2 : Int)) : ckR c m = true := by unfold ckR; rw [decide_eq_true h]; simp
theorem ckR_o {c : Cd} {m : SM} {r1 r2 : Bool} (h : exB c.n m.x = true) (h1 : ((m.f.n1 : Int) != c.lo) = false) (h2 : ¬ c.st < (m.f.n2 : Int)) (h3 : m.f.P.any wrB = r1) (h4 : m.f.Q.any wrB = r2) : ckR c m = (r1 || r2) := by
  unfold ckR; rw [h, h1, decide_eq_false h2, h3, h4]; simp
theorem two_laidS (w : World) (o1 o2 : Obj) : ((w.alloc o1).alloc o2).heap[w.heap.size]? = some o1 ∧ ((w.alloc o1).alloc o2).heap[w.heap.size + 1]? = some o2 ∧ Below w.heap.size w ((w.alloc o1).alloc o2) := by
  refine ⟨laid_old (World.alloc_heap_new _ _), ?_, below_al (below_al (Below.refl _ _) _) _⟩
  have := World.alloc_heap_new (w.alloc o1) o2
  simpa using this
set_option maxRecDepth 100000 in
set_option maxHeartbeats 40000000 in
theorem ck_any {A : Option Addr} {n cap : Nat} {ms : List SM} (c : Cd) (w : World) (hn : ms.length = n) (hN : n ≤ 9223372036854775807) (hp : SMs w A ms) :
    Calls Tryd.prog 35 #[(Value.agg #[Value.int IntKind.i64 (Cd.st c), Value.int IntKind.i64 (Cd.lo c), Value.slice (Cd.iA c) (Cd.n c) (Cd.ic c), Value.slice (Cd.hA c) (Cd.hn c) (Cd.hc c), Value.slice (Cd.mA c) (Cd.mn c) (Cd.mc c), Value.slice (Cd.lA c) (Cd.ln c) (Cd.lc c)]), .slice A n cap] w fun e w' => e = .returned (.int .i64 (ckQ c ms)) ∧ Below w.heap.size w w' := by
  have hB : Below w.heap.size w w := Below.refl _ _
  have HP := Lib.hid hp
  have HN := Lib.hid hn
  clear hp hn
  obtain ⟨E, hE⟩ : ∃ E, ckQ c ms = E := ⟨_, rfl⟩
  have HE := Lib.hid hE
  rw [hE]
  clear hE
  go_enter Tryd.func35, Tryd.ntmps35
  go_upto_region 1 with fail
  have R := World.alloc_heap_new w (.cells #[.int .i64 c.st, .int .i64 c.lo, .slice c.iA c.n c.ic, .slice c.hA c.hn c.hc, .slice c.mA c.mn c.mc, .slice c.lA c.ln c.lc] 27)
  replace hB := below_al hB (.cells #[.int .i64 c.st, .int .i64 c.lo, .slice c.iA c.n c.ic, .slice c.hA c.hn c.hc, .slice c.mA c.mn c.mc, .slice c.lA c.ln c.lc] 27)
  generalize w.alloc (.cells #[.int .i64 c.st, .int .i64 c.lo, .slice c.iA c.n c.ic, .slice c.hA c.hn c.hc, .slice c.mA c.mn c.mc, .slice c.lA c.ln c.lc] 27) = W1 at R hB ⊢
  obtain ⟨r0, r1, r2, r3, r4, r5⟩ := six_cells R
  have y1 := lt_heap R
  replace R := Lib.hid R
  go_upto_region 3 with fail
  have HP1 := Lib.hid (HP.out.up hB)
  have HB := Lib.hid hB
  clear r0 r1 r2 r3 r4 r5 hB HP
  go_loopw [11] (fun z wr => ∃ j : Nat, j ≤ n ∧ z = .int .i64 j ∧ (List.range j).any (ckP c ms) = false ∧ Below W1.heap.size W1 wr) (fun z _ => n - (intOf z).toNat)
  case atStart => exact ⟨0, Nat.zero_le _, rfl, rfl, Below.refl _ _⟩
  case round =>
    obtain ⟨j, hj, rfl, hall, hbr⟩ := hrel
    have HALL := Lib.hid hall
    have HBR := Lib.hid hbr
    have RBr := Lib.hid ((hbr.block _ y1).trans R.out)
    have hPr := HP1.out.up hbr
    clear hall hbr
    obtain ⟨r0, r1, r2, r3, r4, r5⟩ := six_cells RBr.out
    have yr := lt_heap RBr.out
    by_cases hlt : j < n
    · obtain ⟨m, hm⟩ := get_someF (l := ms) (k := j) (by rw [HN.out]; exact hlt)
      rcases hPr with h0 | ⟨g, o, rfl, hg, hcell⟩
      · rw [h0] at hm; simp at hm
      · obtain ⟨fok, a0, a1, a2, a3⟩ := hcell j m hm
        have hj0 : (0 : Int) ≤ (j : Int) := by omega
        have hj1 : (j : Int) < (n : Int) := by omega
        have FOK := Lib.hid fok
        have HCELL := Lib.hid hcell
        clear hcell fok
        go_upto_region 6 with fail
        obtain ⟨hX2, hY2, hbl⟩ := two_laidS wr (.cells #[.int .i64 m.x, .slice m.f.A1 m.f.n1 m.f.c1, .slice m.f.A2 m.f.n2 m.f.c2, .bool m.f.u] 51) (.cells #[.slice m.f.A1 m.f.n1 m.f.c1, .slice m.f.A2 m.f.n2 m.f.c2, .bool m.f.u] 49)
        generalize hbb : wr.heap.size = b at hX2 hY2 ⊢
        generalize (wr.alloc (.cells #[.int .i64 m.x, .slice m.f.A1 m.f.n1 m.f.c1, .slice m.f.A2 m.f.n2 m.f.c2, .bool m.f.u] 51)).alloc (.cells #[.slice m.f.A1 m.f.n1 m.f.c1, .slice m.f.A2 m.f.n2 m.f.c2, .bool m.f.u] 49) = W2 at hX2 hY2 hbl ⊢
        have XB := Lib.hid hX2
        have YB := Lib.hid hY2
        have HBL := Lib.hid hbl
        have RB2 := Lib.hid ((HBL.out.block _ yr).trans RBr.out)
        have HBR2 := Lib.hid (below_on HBR.out HBL.out)
        have HCW := Lib.hid (fun (a : Addr) (ha : a.block < wr.heap.size) => HBL.out.cell (p := a) ha)
        have hgg : g < W2.heap.size := Nat.lt_of_lt_of_le hg HBL.out.size
        have FOK2 := Lib.hid (FOK.out.up HBL.out)
        obtain ⟨r1v, hr1⟩ : ∃ r, m.f.P.any wrB = r := ⟨_, rfl⟩
        obtain ⟨r2v, hr2⟩ : ∃ r, m.f.Q.any wrB = r := ⟨_, rfl⟩
        have K1 := Lib.hid (fun (W : World) (hW : Below W2.heap.size W2 W) => by
            have := cfw_any (c2 := m.f.c1) W (FOK2.out.up hW).vp FOK.out.lp (Nat.le_trans FOK.out.l1 FOK.out.x1)
            rw [hr1] at this
            exact this)
        have K2 := Lib.hid (fun (W : World) (hW : Below W2.heap.size W2 W) => by
            have := cfw_any (c2 := m.f.c2) W (FOK2.out.up hW).vq FOK.out.lq (Nat.le_trans FOK.out.l2 FOK.out.x2)
            rw [hr2] at this
            exact this)
        have HRR1 := Lib.hid hr1
        have HRR2 := Lib.hid hr2
        clear hr1 hr2 a0 a1 a2 a3 r0 r1 r2 r3 r4 r5 yr hX2 hY2 hbl
        have yb := lt_heap XB.out
        have yf := lt_heap YB.out
        have yr := lt_heap RB2.out
        cases j with
        | zero =>
          have HSM := Lib.hid (ckP_0 (c := c) hm)
          clear hm
          rw [Int.natCast_zero] at hj0 hj1 ⊢
          by_cases hB0 : m.x < 0
          · have hx : exB c.n m.x = false := by unfold exB; exact decide_eq_false (fun e => by omega)
            have H := Lib.hid (ckQ_bad HN.out hlt (by rw [HSM.out]; exact ckR_x hx))
            obtain ⟨r0, r1, r2, r3, r4, r5⟩ := six_cells RB2.out
            obtain ⟨a0, a1, a2, a3⟩ := four_cellsS XB.out
            obtain ⟨f0, f1, f2, _⟩ := three_cells YB.out
            go_quiet (fail)
            go_wp2
            go_ret
            exact ⟨by rw [← HE.out, H.out]; rfl, below_on HB.out (below_dr9S HBR2.out _)⟩
          · by_cases hC0 : (c.n : Int) ≤ m.x
            · have hx : exB c.n m.x = false := by unfold exB; exact decide_eq_false (fun e => by omega)
              have H := Lib.hid (ckQ_bad HN.out hlt (by rw [HSM.out]; exact ckR_x hx))
              obtain ⟨r0, r1, r2, r3, r4, r5⟩ := six_cells RB2.out
              obtain ⟨a0, a1, a2, a3⟩ := four_cellsS XB.out
              obtain ⟨f0, f1, f2, _⟩ := three_cells YB.out
              go_quiet (fail)
              go_wp2
              go_ret
              exact ⟨by rw [← HE.out, H.out]; rfl, below_on HB.out (below_dr9S HBR2.out _)⟩
            · have hx : exB c.n m.x = true := ex_iff.2 ⟨by omega, by omega⟩
              have HX := Lib.hid hx
              clear hx
              cases hD : ((m.f.n1 : Int) != c.lo) with
              | true =>
                have H := Lib.hid (ckQ_bad HN.out hlt (by rw [HSM.out]; exact ckR_d hD))
                obtain ⟨r0, r1, r2, r3, r4, r5⟩ := six_cells RB2.out
                obtain ⟨a0, a1, a2, a3⟩ := four_cellsS XB.out
                obtain ⟨f0, f1, f2, _⟩ := three_cells YB.out
                go_quiet (fail)
                go_wp2
                go_ret
                exact ⟨by rw [← HE.out, H.out]; rfl, below_on HB.out (below_dr9S HBR2.out _)⟩
              | false =>
                by_cases hE0 : c.st < (m.f.n2 : Int)
                · have H := Lib.hid (ckQ_bad HN.out hlt (by rw [HSM.out]; exact ckR_e hE0))
                  obtain ⟨r0, r1, r2, r3, r4, r5⟩ := six_cells RB2.out
                  obtain ⟨a0, a1, a2, a3⟩ := four_cellsS XB.out
                  obtain ⟨f0, f1, f2, _⟩ := three_cells YB.out
                  go_quiet (fail)
                  go_wp2
                  go_ret
                  exact ⟨by rw [← HE.out, H.out]; rfl, below_on HB.out (below_dr9S HBR2.out _)⟩
                · have HVAL := Lib.hid (ckR_o HX.out hD hE0 HRR1.out HRR2.out)
                  cases r1v with
                  | true =>
                    have H := Lib.hid (ckQ_bad HN.out hlt (by rw [HSM.out]; exact HVAL.out))
                    refine regN_start (N := 53) (S := (fun W' : World => Below W2.heap.size W2 W')) (by kernel_rfl) ?_
                    change wpAnyN _ _ _ _ _ _ _ #[false, false, false, false, false, false, false, false, false, false, false, false, false, false, false, false, false, false, false, false, false, false, false, false, false, false, false, false, false, false, false, false, false, false, false, false, false, false, false, false, false, false, false, false, false, false, false, false, false, false, false, false, false, false] _ (World.drew _)
                    have hS0 := (show (fun W' : World => Below W2.heap.size W2 W') W2.drew from (Below.refl _ _).drew)
                    refine regN_takeC [48, 47, 42, 34, 26, 18, 13, 2, 1] (i := 0) (d := (some 18)) (v := ?v301x1) (l2 := #[true, false, false, false, false, false, false, false, false, false, false, false, false, false, false, false, false, false, false, false, false, false, false, false, false, false, false, false, false, false, false, false, false, false, false, false, false, false, false, false, false, false, false, false, false, false, false, false, false, false, false, false, false, false]) rfl rfl rfl (by kernel_rfl) (by kernel_rfl) (by kernel_rfl) (by kernel_rfl) (fun _ _ _ h => h) (by rfl) ?hv301x1 hS0 ?h301x1
                    case hv301x1 => intro u hSu; clear hSu; go_simp; (try with_reducible rfl)
                    (try simp only [Act.put, List.setIfInBounds_toArray, List.set_cons_zero, List.set_cons_succ])
                    refine regN_takeC [48, 47, 42, 34, 26, 18, 13, 2] (i := 1) (d := (some 19)) (v := ?v301x2) (l2 := #[true, true, false, false, false, false, false, false, false, false, false, false, false, false, false, false, false, false, false, false, false, false, false, false, false, false, false, false, false, false, false, false, false, false, false, false, false, false, false, false, false, false, false, false, false, false, false, false, false, false, false, false, false, false]) rfl rfl rfl (by kernel_rfl) (by kernel_rfl) (by kernel_rfl) (by kernel_rfl) (fun _ _ _ h => h) (by rfl) ?hv301x2 hS0 ?h301x2
                    case hv301x2 => intro u hSu; clear hSu; go_simp; (try with_reducible rfl)
                    (try simp only [Act.put, List.setIfInBounds_toArray, List.set_cons_zero, List.set_cons_succ])
                    refine regN_takeC [48, 47, 42, 34, 26, 18, 13] (i := 2) (d := (some 20)) (v := ?v301x3) (l2 := #[true, true, true, false, false, false, false, false, false, false, false, false, false, false, false, false, false, false, false, false, false, false, false, false, false, false, false, false, false, false, false, false, false, false, false, false, false, false, false, false, false, false, false, false, false, false, false, false, false, false, false, false, false, false]) rfl rfl rfl (by kernel_rfl) (by kernel_rfl) (by kernel_rfl) (by kernel_rfl) (fun _ _ _ h => h) (by rfl) ?hv301x3 hS0 ?h301x3
                    case hv301x3 => intro u hSu; clear hSu; go_simp; (try with_reducible rfl)
                    (try simp only [Act.put, List.setIfInBounds_toArray, List.set_cons_zero, List.set_cons_succ])
                    refine regN_skipC [48, 47, 42, 34, 26, 18, 13, 12, 11, 4] (i := 3) (d := (some 21)) (l2 := #[true, true, true, true, false, false, false, false, false, false, false, false, false, false, false, false, false, false, false, false, false, false, false, false, false, false, false, false, false, false, false, false, false, false, false, false, false, false, false, false, false, false, false, false, false, false, false, false, false, false, false, false, false, false]) rfl rfl rfl (by kernel_rfl) (by kernel_rfl) (by kernel_rfl) (by kernel_rfl) (fun _ _ _ h => h) (by rfl) hS0 ?_
                    (try simp only [Act.put, List.setIfInBounds_toArray, List.set_cons_zero, List.set_cons_succ])
                    refine regN_skipC [48, 47, 42, 34, 26, 18, 13, 12, 11] (i := 4) (d := (some 22)) (l2 := #[true, true, true, true, true, false, false, false, false, false, false, false, false, false, false, false, false, false, false, false, false, false, false, false, false, false, false, false, false, false, false, false, false, false, false, false, false, false, false, false, false, false, false, false, false, false, false, false, false, false, false, false, false, false]) rfl rfl rfl (by kernel_rfl) (by kernel_rfl) (by kernel_rfl) (by kernel_rfl) (fun _ _ _ h => h) (by rfl) hS0 ?_
                    (try simp only [Act.put, List.setIfInBounds_toArray, List.set_cons_zero, List.set_cons_succ])
                    refine regN_skipC [48, 47, 42, 34, 26, 18, 13, 12, 11, 10, 9, 8] (i := 5) (d := (some 23)) (l2 := #[true, true, true, true, true, true, false, false, false, false, false, false, false, false, false, false, false, false, false, false, false, false, false, false, false, false, false, false, false, false, false, false, false, false, false, false, false, false, false, false, false, false, false, false, false, false, false, false, false, false, false, false, false, false]) rfl rfl rfl (by kernel_rfl) (by kernel_rfl) (by kernel_rfl) (by kernel_rfl) (fun _ _ _ h => h) (by rfl) hS0 ?_
                    (try simp only [Act.put, List.setIfInBounds_toArray, List.set_cons_zero, List.set_cons_succ])
                    refine regN_skipC [48, 47, 42, 34, 26, 18, 13, 12, 11, 10, 9, 8, 7] (i := 6) (d := (some 24)) (l2 := #[true, true, true, true, true, true, true, false, false, false, false, false, false, false, false, false, false, false, false, false, false, false, false, false, false, false, false, false, false, false, false, false, false, false, false, false, false, false, false, false, false, false, false, false, false, false, false, false, false, false, false, false, false, false]) rfl rfl rfl (by kernel_rfl) (by kernel_rfl) (by kernel_rfl) (by kernel_rfl) (fun _ _ _ h => h) (by rfl) hS0 ?_
                    (try simp only [Act.put, List.setIfInBounds_toArray, List.set_cons_zero, List.set_cons_succ])
                    refine regN_skipC [48, 47, 42, 34, 26, 18, 13, 12, 11, 10, 9, 8] (i := 7) (d := (some 25)) (l2 := #[true, true, true, true, true, true, true, true, false, false, false, false, false, false, false, false, false, false, false, false, false, false, false, false, false, false, false, false, false, false, false, false, false, false, false, false, false, false, false, false, false, false, false, false, false, false, false, false, false, false, false, false, false, false]) rfl rfl rfl (by kernel_rfl) (by kernel_rfl) (by kernel_rfl) (by kernel_rfl) (fun _ _ _ h => h) (by rfl) hS0 ?_
                    (try simp only [Act.put, List.setIfInBounds_toArray, List.set_cons_zero, List.set_cons_succ])
                    refine regN_skipC [48, 47, 42, 34, 26, 18, 13, 12, 11, 10, 9] (i := 8) (d := (some 26)) (l2 := #[true, true, true, true, true, true, true, true, true, false, false, false, false, false, false, false, false, false, false, false, false, false, false, false, false, false, false, false, false, false, false, false, false, false, false, false, false, false, false, false, false, false, false, false, false, false, false, false, false, false, false, false, false, false]) rfl rfl rfl (by kernel_rfl) (by kernel_rfl) (by kernel_rfl) (by kernel_rfl) (fun _ _ _ h => h) (by rfl) hS0 ?_
                    (try simp only [Act.put, List.setIfInBounds_toArray, List.set_cons_zero, List.set_cons_succ])
                    refine regN_skipC [48, 47, 42, 34, 26, 18, 13, 12, 11, 10] (i := 9) (d := (some 27)) (l2 := #[true, true, true, true, true, true, true, true, true, true, false, false, false, false, false, false, false, false, false, false, false, false, false, false, false, false, false, false, false, false, false, false, false, false, false, false, false, false, false, false, false, false, false, false, false, false, false, false, false, false, false, false, false, false]) rfl rfl rfl (by kernel_rfl) (by kernel_rfl) (by kernel_rfl) (by kernel_rfl) (fun _ _ _ h => h) (by rfl) hS0 ?_
                    (try simp only [Act.put, List.setIfInBounds_toArray, List.set_cons_zero, List.set_cons_succ])
                    refine regN_skipC [48, 47, 42, 34, 26, 18, 13, 12, 11] (i := 10) (d := (some 28)) (l2 := #[true, true, true, true, true, true, true, true, true, true, true, false, false, false, false, false, false, false, false, false, false, false, false, false, false, false, false, false, false, false, false, false, false, false, false, false, false, false, false, false, false, false, false, false, false, false, false, false, false, false, false, false, false, false]) rfl rfl rfl (by kernel_rfl) (by kernel_rfl) (by kernel_rfl) (by kernel_rfl) (fun _ _ _ h => h) (by rfl) hS0 ?_
                    (try simp only [Act.put, List.setIfInBounds_toArray, List.set_cons_zero, List.set_cons_succ])
                    refine regN_skipC [48, 47, 42, 34, 26, 18, 13, 12] (i := 11) (d := (some 29)) (l2 := #[true, true, true, true, true, true, true, true, true, true, true, true, false, false, false, false, false, false, false, false, false, false, false, false, false, false, false, false, false, false, false, false, false, false, false, false, false, false, false, false, false, false, false, false, false, false, false, false, false, false, false, false, false, false]) rfl rfl rfl (by kernel_rfl) (by kernel_rfl) (by kernel_rfl) (by kernel_rfl) (fun _ _ _ h => h) (by rfl) hS0 ?_
                    (try simp only [Act.put, List.setIfInBounds_toArray, List.set_cons_zero, List.set_cons_succ])
                    refine regN_takeC [48, 47, 42, 34, 26, 18, 13] (i := 12) (d := (some 30)) (v := ?v301x4) (l2 := #[true, true, true, true, true, true, true, true, true, true, true, true, true, false, false, false, false, false, false, false, false, false, false, false, false, false, false, false, false, false, false, false, false, false, false, false, false, false, false, false, false, false, false, false, false, false, false, false, false, false, false, false, false, false]) rfl rfl rfl (by kernel_rfl) (by kernel_rfl) (by kernel_rfl) (by kernel_rfl) (fun _ _ _ h => h) (by rfl) ?hv301x4 hS0 ?h301x4
                    case hv301x4 => intro u hSu; clear hSu; go_simp; (try with_reducible rfl)
                    (try simp only [Act.put, List.setIfInBounds_toArray, List.set_cons_zero, List.set_cons_succ])
                    refine regN_takeC [48, 47, 42, 34, 26, 18] (i := 13) (d := (some 31)) (v := ?v301x5) (l2 := #[true, true, true, true, true, true, true, true, true, true, true, true, true, true, false, false, false, false, false, false, false, false, false, false, false, false, false, false, false, false, false, false, false, false, false, false, false, false, false, false, false, false, false, false, false, false, false, false, false, false, false, false, false, false]) rfl rfl rfl (by kernel_rfl) (by kernel_rfl) (by kernel_rfl) (by kernel_rfl) (fun _ _ _ h => h) (by rfl) ?hv301x5 hS0 ?h301x5
                    case hv301x5 => intro u hSu; clear hSu; go_simp; (try with_reducible rfl)
                    (try simp only [Act.put, List.setIfInBounds_toArray, List.set_cons_zero, List.set_cons_succ])
                    refine regN_takeC [48, 47, 42, 34, 26, 18, 17, 16, 15] (i := 14) (d := (some 32)) (v := ?v301x6) (l2 := #[true, true, true, true, true, true, true, true, true, true, true, true, true, true, true, false, false, false, false, false, false, false, false, false, false, false, false, false, false, false, false, false, false, false, false, false, false, false, false, false, false, false, false, false, false, false, false, false, false, false, false, false, false, false]) rfl rfl rfl (by kernel_rfl) (by kernel_rfl) (by kernel_rfl) (by kernel_rfl) (fun _ _ _ h => h) (by rfl) ?hv301x6 hS0 ?h301x6
                    case hv301x6 => intro u hSu; clear hSu; go_simp; (try with_reducible rfl)
                    (try simp only [Act.put, List.setIfInBounds_toArray, List.set_cons_zero, List.set_cons_succ])
                    refine regN_takeC [48, 47, 42, 34, 26, 18, 17, 16] (i := 15) (d := (some 33)) (v := ?v301x7) (l2 := #[true, true, true, true, true, true, true, true, true, true, true, true, true, true, true, true, false, false, false, false, false, false, false, false, false, false, false, false, false, false, false, false, false, false, false, false, false, false, false, false, false, false, false, false, false, false, false, false, false, false, false, false, false, false]) rfl rfl rfl (by kernel_rfl) (by kernel_rfl) (by kernel_rfl) (by kernel_rfl) (fun _ _ _ h => h) (by rfl) ?hv301x7 hS0 ?h301x7
                    case hv301x7 => intro u hSu; have s0 := (Below.block hSu _ yr).trans RB2.out; have s1 := (Below.block hSu _ yb).trans XB.out; have s2 := (Below.block hSu _ yf).trans YB.out; obtain ⟨x0, x1, x2, x3, x4, x5⟩ := six_cells s0; obtain ⟨z0, z1, z2, z3⟩ := four_cellsS s1; obtain ⟨t0, t1, t2, _⟩ := three_cells s2; have n0 := lt_heap s0; have n1 := lt_heap s1; have n2 := lt_heap s2; clear s0 s1 s2; go_simp; (try with_reducible rfl)
                    (try simp only [Act.put, List.setIfInBounds_toArray, List.set_cons_zero, List.set_cons_succ])
                    refine regN_takeC [48, 47, 42, 34, 26, 18, 17] (i := 16) (d := (some 34)) (v := ?v301x8) (l2 := #[true, true, true, true, true, true, true, true, true, true, true, true, true, true, true, true, true, false, false, false, false, false, false, false, false, false, false, false, false, false, false, false, false, false, false, false, false, false, false, false, false, false, false, false, false, false, false, false, false, false, false, false, false, false]) rfl rfl rfl (by kernel_rfl) (by kernel_rfl) (by kernel_rfl) (by kernel_rfl) (fun _ _ _ h => h) (by rfl) ?hv301x8 hS0 ?h301x8
                    case hv301x8 => intro u hSu; clear hSu; go_simp; (try with_reducible rfl)
                    (try simp only [Act.put, List.setIfInBounds_toArray, List.set_cons_zero, List.set_cons_succ])
                    refine regN_takeC [48, 47, 42, 34, 26, 18] (i := 17) (d := (some 35)) (v := ?v301x9) (l2 := #[true, true, true, true, true, true, true, true, true, true, true, true, true, true, true, true, true, true, false, false, false, false, false, false, false, false, false, false, false, false, false, false, false, false, false, false, false, false, false, false, false, false, false, false, false, false, false, false, false, false, false, false, false, false]) rfl rfl rfl (by kernel_rfl) (by kernel_rfl) (by kernel_rfl) (by kernel_rfl) (fun _ _ _ h => h) (by rfl) ?hv301x9 hS0 ?h301x9
                    case hv301x9 => intro u hSu; clear hSu; go_simp; (try with_reducible rfl)
                    (try simp only [Act.put, List.setIfInBounds_toArray, List.set_cons_zero, List.set_cons_succ])
                    refine regN_takeC [48, 47, 42, 34, 26] (i := 18) (d := (some 36)) (v := ?v301x10) (l2 := #[true, true, true, true, true, true, true, true, true, true, true, true, true, true, true, true, true, true, true, false, false, false, false, false, false, false, false, false, false, false, false, false, false, false, false, false, false, false, false, false, false, false, false, false, false, false, false, false, false, false, false, false, false, false]) rfl rfl rfl (by kernel_rfl) (by kernel_rfl) (by kernel_rfl) (by kernel_rfl) (fun _ _ _ h => h) (by rfl) ?hv301x10 hS0 ?h301x10
                    case hv301x10 => intro u hSu; clear hSu; go_simp; (try with_reducible rfl)
                    (try simp only [Act.put, List.setIfInBounds_toArray, List.set_cons_zero, List.set_cons_succ])
                    refine regN_takeC [48, 47, 42, 34, 26, 25, 24, 20] (i := 19) (d := (some 37)) (v := ?v301x11) (l2 := #[true, true, true, true, true, true, true, true, true, true, true, true, true, true, true, true, true, true, true, true, false, false, false, false, false, false, false, false, false, false, false, false, false, false, false, false, false, false, false, false, false, false, false, false, false, false, false, false, false, false, false, false, false, false]) rfl rfl rfl (by kernel_rfl) (by kernel_rfl) (by kernel_rfl) (by kernel_rfl) (fun _ _ _ h => h) (by rfl) ?hv301x11 hS0 ?h301x11
                    case hv301x11 => intro u hSu; clear hSu; go_simp; (try with_reducible rfl)
                    (try simp only [Act.put, List.setIfInBounds_toArray, List.set_cons_zero, List.set_cons_succ])
                    refine regN_takeC [48, 47, 42, 34, 26, 25, 24] (i := 20) (d := (some 38)) (v := ?v301x12) (l2 := #[true, true, true, true, true, true, true, true, true, true, true, true, true, true, true, true, true, true, true, true, true, false, false, false, false, false, false, false, false, false, false, false, false, false, false, false, false, false, false, false, false, false, false, false, false, false, false, false, false, false, false, false, false, false]) rfl rfl rfl (by kernel_rfl) (by kernel_rfl) (by kernel_rfl) (by kernel_rfl) (fun _ _ _ h => h) (by rfl) ?hv301x12 hS0 ?h301x12
                    case hv301x12 => intro u hSu; have s0 := (Below.block hSu _ yr).trans RB2.out; have s1 := (Below.block hSu _ yb).trans XB.out; have s2 := (Below.block hSu _ yf).trans YB.out; obtain ⟨x0, x1, x2, x3, x4, x5⟩ := six_cells s0; obtain ⟨z0, z1, z2, z3⟩ := four_cellsS s1; obtain ⟨t0, t1, t2, _⟩ := three_cells s2; have n0 := lt_heap s0; have n1 := lt_heap s1; have n2 := lt_heap s2; clear s0 s1 s2; go_simp; (try with_reducible rfl)
                    (try simp only [Act.put, List.setIfInBounds_toArray, List.set_cons_zero, List.set_cons_succ])
                    refine regN_takeC [48, 47, 42, 34, 26, 25, 24, 23, 22] (i := 21) (d := (some 39)) (v := ?v301x13) (l2 := #[true, true, true, true, true, true, true, true, true, true, true, true, true, true, true, true, true, true, true, true, true, true, false, false, false, false, false, false, false, false, false, false, false, false, false, false, false, false, false, false, false, false, false, false, false, false, false, false, false, false, false, false, false, false]) rfl rfl rfl (by kernel_rfl) (by kernel_rfl) (by kernel_rfl) (by kernel_rfl) (fun _ _ _ h => h) (by rfl) ?hv301x13 hS0 ?h301x13
                    case hv301x13 => intro u hSu; clear hSu; go_simp; (try with_reducible rfl)
                    (try simp only [Act.put, List.setIfInBounds_toArray, List.set_cons_zero, List.set_cons_succ])
                    refine regN_takeC [48, 47, 42, 34, 26, 25, 24, 23] (i := 22) (d := (some 40)) (v := ?v301x14) (l2 := #[true, true, true, true, true, true, true, true, true, true, true, true, true, true, true, true, true, true, true, true, true, true, true, false, false, false, false, false, false, false, false, false, false, false, false, false, false, false, false, false, false, false, false, false, false, false, false, false, false, false, false, false, false, false]) rfl rfl rfl (by kernel_rfl) (by kernel_rfl) (by kernel_rfl) (by kernel_rfl) (fun _ _ _ h => h) (by rfl) ?hv301x14 hS0 ?h301x14
                    case hv301x14 => intro u hSu; have s0 := (Below.block hSu _ yr).trans RB2.out; have s1 := (Below.block hSu _ yb).trans XB.out; have s2 := (Below.block hSu _ yf).trans YB.out; obtain ⟨x0, x1, x2, x3, x4, x5⟩ := six_cells s0; obtain ⟨z0, z1, z2, z3⟩ := four_cellsS s1; obtain ⟨t0, t1, t2, _⟩ := three_cells s2; have n0 := lt_heap s0; have n1 := lt_heap s1; have n2 := lt_heap s2; clear s0 s1 s2; go_simp; (try with_reducible rfl)
                    (try simp only [Act.put, List.setIfInBounds_toArray, List.set_cons_zero, List.set_cons_succ])
                    refine regN_takeC [48, 47, 42, 34, 26, 25, 24] (i := 23) (d := (some 41)) (v := ?v301x15) (l2 := #[true, true, true, true, true, true, true, true, true, true, true, true, true, true, true, true, true, true, true, true, true, true, true, true, false, false, false, false, false, false, false, false, false, false, false, false, false, false, false, false, false, false, false, false, false, false, false, false, false, false, false, false, false, false]) rfl rfl rfl (by kernel_rfl) (by kernel_rfl) (by kernel_rfl) (by kernel_rfl) (fun _ _ _ h => h) (by rfl) ?hv301x15 hS0 ?h301x15
                    case hv301x15 => intro u hSu; clear hSu; go_simp; (try with_reducible rfl)
                    (try simp only [Act.put, List.setIfInBounds_toArray, List.set_cons_zero, List.set_cons_succ])
                    refine regN_takeC [48, 47, 42, 34, 26, 25] (i := 24) (d := (some 42)) (v := ?v301x16) (l2 := #[true, true, true, true, true, true, true, true, true, true, true, true, true, true, true, true, true, true, true, true, true, true, true, true, true, false, false, false, false, false, false, false, false, false, false, false, false, false, false, false, false, false, false, false, false, false, false, false, false, false, false, false, false, false]) rfl rfl rfl (by kernel_rfl) (by kernel_rfl) (by kernel_rfl) (by kernel_rfl) (fun _ _ _ h => h) (by rfl) ?hv301x16 hS0 ?h301x16
                    case hv301x16 => intro u hSu; clear hSu; go_simp; (try with_reducible rfl)
                    (try simp only [Act.put, List.setIfInBounds_toArray, List.set_cons_zero, List.set_cons_succ])
                    refine regN_takeC [48, 47, 42, 34, 26] (i := 25) (d := (some 43)) (v := ?v301x17) (l2 := #[true, true, true, true, true, true, true, true, true, true, true, true, true, true, true, true, true, true, true, true, true, true, true, true, true, true, false, false, false, false, false, false, false, false, false, false, false, false, false, false, false, false, false, false, false, false, false, false, false, false, false, false, false, false]) rfl rfl rfl (by kernel_rfl) (by kernel_rfl) (by kernel_rfl) (by kernel_rfl) (fun _ _ _ h => h) (by rfl) ?hv301x17 hS0 ?h301x17
                    case hv301x17 => intro u hSu; clear hSu; go_simp; (try with_reducible rfl)
                    (try simp only [Act.put, List.setIfInBounds_toArray, List.set_cons_zero, List.set_cons_succ])
                    refine regN_takeC [48, 47, 42, 34] (i := 26) (d := (some 44)) (v := ?v301x18) (l2 := #[true, true, true, true, true, true, true, true, true, true, true, true, true, true, true, true, true, true, true, true, true, true, true, true, true, true, true, false, false, false, false, false, false, false, false, false, false, false, false, false, false, false, false, false, false, false, false, false, false, false, false, false, false, false]) rfl rfl rfl (by kernel_rfl) (by kernel_rfl) (by kernel_rfl) (by kernel_rfl) (fun _ _ _ h => h) (by rfl) ?hv301x18 hS0 ?h301x18
                    case hv301x18 => intro u hSu; clear hSu; go_simp; (try with_reducible rfl)
                    (try simp only [Act.put, List.setIfInBounds_toArray, List.set_cons_zero, List.set_cons_succ])
                    refine regN_takeC [48, 47, 42, 34, 33, 32, 29, 28] (i := 27) (d := (some 45)) (v := ?v301x19) (l2 := #[true, true, true, true, true, true, true, true, true, true, true, true, true, true, true, true, true, true, true, true, true, true, true, true, true, true, true, true, false, false, false, false, false, false, false, false, false, false, false, false, false, false, false, false, false, false, false, false, false, false, false, false, false, false]) rfl rfl rfl (by kernel_rfl) (by kernel_rfl) (by kernel_rfl) (by kernel_rfl) (fun _ _ _ h => h) (by rfl) ?hv301x19 hS0 ?h301x19
                    case hv301x19 => intro u hSu; clear hSu; go_simp; (try with_reducible rfl)
                    (try simp only [Act.put, List.setIfInBounds_toArray, List.set_cons_zero, List.set_cons_succ])
                    refine regN_takeC [48, 47, 42, 34, 33, 32, 29] (i := 28) (d := (some 46)) (v := ?v301x20) (l2 := #[true, true, true, true, true, true, true, true, true, true, true, true, true, true, true, true, true, true, true, true, true, true, true, true, true, true, true, true, true, false, false, false, false, false, false, false, false, false, false, false, false, false, false, false, false, false, false, false, false, false, false, false, false, false]) rfl rfl rfl (by kernel_rfl) (by kernel_rfl) (by kernel_rfl) (by kernel_rfl) (fun _ _ _ h => h) (by rfl) ?hv301x20 hS0 ?h301x20
                    case hv301x20 => intro u hSu; have s0 := (Below.block hSu _ yr).trans RB2.out; have s1 := (Below.block hSu _ yb).trans XB.out; have s2 := (Below.block hSu _ yf).trans YB.out; obtain ⟨x0, x1, x2, x3, x4, x5⟩ := six_cells s0; obtain ⟨z0, z1, z2, z3⟩ := four_cellsS s1; obtain ⟨t0, t1, t2, _⟩ := three_cells s2; have n0 := lt_heap s0; have n1 := lt_heap s1; have n2 := lt_heap s2; clear s0 s1 s2; go_simp; (try with_reducible rfl)
                    (try simp only [Act.put, List.setIfInBounds_toArray, List.set_cons_zero, List.set_cons_succ])
                    refine regN_takeC [48, 47, 42, 34, 33, 32] (i := 29) (d := (some 47)) (v := ?v301x21) (l2 := #[true, true, true, true, true, true, true, true, true, true, true, true, true, true, true, true, true, true, true, true, true, true, true, true, true, true, true, true, true, true, false, false, false, false, false, false, false, false, false, false, false, false, false, false, false, false, false, false, false, false, false, false, false, false]) rfl rfl rfl (by kernel_rfl) (by kernel_rfl) (by kernel_rfl) (by kernel_rfl) (fun _ _ _ h => h) (by rfl) ?hv301x21 hS0 ?h301x21
                    case hv301x21 => intro u hSu; clear hSu; go_simp; (try with_reducible rfl)
                    (try simp only [Act.put, List.setIfInBounds_toArray, List.set_cons_zero, List.set_cons_succ])
                    refine regN_takeC [48, 47, 42, 34, 33, 32, 31] (i := 30) (d := (some 48)) (v := ?v301x22) (l2 := #[true, true, true, true, true, true, true, true, true, true, true, true, true, true, true, true, true, true, true, true, true, true, true, true, true, true, true, true, true, true, true, false, false, false, false, false, false, false, false, false, false, false, false, false, false, false, false, false, false, false, false, false, false, false]) rfl rfl rfl (by kernel_rfl) (by kernel_rfl) (by kernel_rfl) (by kernel_rfl) (fun _ _ _ h => h) (by rfl) ?hv301x22 hS0 ?h301x22
                    case hv301x22 => intro u hSu; clear hSu; go_simp; (try with_reducible rfl)
                    (try simp only [Act.put, List.setIfInBounds_toArray, List.set_cons_zero, List.set_cons_succ])
                    refine regN_takeC [48, 47, 42, 34, 33, 32] (i := 31) (d := (some 49)) (v := ?v301x23) (l2 := #[true, true, true, true, true, true, true, true, true, true, true, true, true, true, true, true, true, true, true, true, true, true, true, true, true, true, true, true, true, true, true, true, false, false, false, false, false, false, false, false, false, false, false, false, false, false, false, false, false, false, false, false, false, false]) rfl rfl rfl (by kernel_rfl) (by kernel_rfl) (by kernel_rfl) (by kernel_rfl) (fun _ _ _ h => h) (by rfl) ?hv301x23 hS0 ?h301x23
                    case hv301x23 => intro u hSu; have s0 := (Below.block hSu _ yr).trans RB2.out; have s1 := (Below.block hSu _ yb).trans XB.out; have s2 := (Below.block hSu _ yf).trans YB.out; obtain ⟨x0, x1, x2, x3, x4, x5⟩ := six_cells s0; obtain ⟨z0, z1, z2, z3⟩ := four_cellsS s1; obtain ⟨t0, t1, t2, _⟩ := three_cells s2; have n0 := lt_heap s0; have n1 := lt_heap s1; have n2 := lt_heap s2; clear s0 s1 s2; go_simp; (try with_reducible rfl)
                    (try simp only [Act.put, List.setIfInBounds_toArray, List.set_cons_zero, List.set_cons_succ])
                    refine regN_takeC [48, 47, 42, 34, 33] (i := 32) (d := (some 50)) (v := ?v301x24) (l2 := #[true, true, true, true, true, true, true, true, true, true, true, true, true, true, true, true, true, true, true, true, true, true, true, true, true, true, true, true, true, true, true, true, true, false, false, false, false, false, false, false, false, false, false, false, false, false, false, false, false, false, false, false, false, false]) rfl rfl rfl (by kernel_rfl) (by kernel_rfl) (by kernel_rfl) (by kernel_rfl) (fun _ _ _ h => h) (by rfl) ?hv301x24 hS0 ?h301x24
                    case hv301x24 => intro u hSu; clear hSu; go_simp; (try with_reducible rfl)
                    (try simp only [Act.put, List.setIfInBounds_toArray, List.set_cons_zero, List.set_cons_succ])
                    refine regN_takeC [48, 47, 42, 34] (i := 33) (d := (some 51)) (v := ?v301x25) (l2 := #[true, true, true, true, true, true, true, true, true, true, true, true, true, true, true, true, true, true, true, true, true, true, true, true, true, true, true, true, true, true, true, true, true, true, false, false, false, false, false, false, false, false, false, false, false, false, false, false, false, false, false, false, false, false]) rfl rfl rfl (by kernel_rfl) (by kernel_rfl) (by kernel_rfl) (by kernel_rfl) (fun _ _ _ h => h) (by rfl) ?hv301x25 hS0 ?h301x25
                    case hv301x25 => intro u hSu; clear hSu; go_simp; (try with_reducible rfl)
                    (try simp only [Act.put, List.setIfInBounds_toArray, List.set_cons_zero, List.set_cons_succ])
                    refine regN_takeC [48, 47, 42] (i := 34) (d := (some 52)) (v := ?v301x26) (l2 := #[true, true, true, true, true, true, true, true, true, true, true, true, true, true, true, true, true, true, true, true, true, true, true, true, true, true, true, true, true, true, true, true, true, true, true, false, false, false, false, false, false, false, false, false, false, false, false, false, false, false, false, false, false, false]) rfl rfl rfl (by kernel_rfl) (by kernel_rfl) (by kernel_rfl) (by kernel_rfl) (fun _ _ _ h => h) (by rfl) ?hv301x26 hS0 ?h301x26
                    case hv301x26 => intro u hSu; clear hSu; go_simp; (try with_reducible rfl)
                    (try simp only [Act.put, List.setIfInBounds_toArray, List.set_cons_zero, List.set_cons_succ])
                    refine regN_takeC [48, 47, 42, 41, 40, 37, 36] (i := 35) (d := (some 53)) (v := ?v301x27) (l2 := #[true, true, true, true, true, true, true, true, true, true, true, true, true, true, true, true, true, true, true, true, true, true, true, true, true, true, true, true, true, true, true, true, true, true, true, true, false, false, false, false, false, false, false, false, false, false, false, false, false, false, false, false, false, false]) rfl rfl rfl (by kernel_rfl) (by kernel_rfl) (by kernel_rfl) (by kernel_rfl) (fun _ _ _ h => h) (by rfl) ?hv301x27 hS0 ?h301x27
                    case hv301x27 => intro u hSu; clear hSu; go_simp; (try with_reducible rfl)
                    (try simp only [Act.put, List.setIfInBounds_toArray, List.set_cons_zero, List.set_cons_succ])
                    refine regN_takeC [48, 47, 42, 41, 40, 37] (i := 36) (d := (some 54)) (v := ?v301x28) (l2 := #[true, true, true, true, true, true, true, true, true, true, true, true, true, true, true, true, true, true, true, true, true, true, true, true, true, true, true, true, true, true, true, true, true, true, true, true, true, false, false, false, false, false, false, false, false, false, false, false, false, false, false, false, false, false]) rfl rfl rfl (by kernel_rfl) (by kernel_rfl) (by kernel_rfl) (by kernel_rfl) (fun _ _ _ h => h) (by rfl) ?hv301x28 hS0 ?h301x28
                    case hv301x28 => intro u hSu; have s0 := (Below.block hSu _ yr).trans RB2.out; have s1 := (Below.block hSu _ yb).trans XB.out; have s2 := (Below.block hSu _ yf).trans YB.out; obtain ⟨x0, x1, x2, x3, x4, x5⟩ := six_cells s0; obtain ⟨z0, z1, z2, z3⟩ := four_cellsS s1; obtain ⟨t0, t1, t2, _⟩ := three_cells s2; have n0 := lt_heap s0; have n1 := lt_heap s1; have n2 := lt_heap s2; clear s0 s1 s2; go_simp; (try with_reducible rfl)
                    (try simp only [Act.put, List.setIfInBounds_toArray, List.set_cons_zero, List.set_cons_succ])
                    refine regN_takeC [48, 47, 42, 41, 40] (i := 37) (d := (some 55)) (v := ?v301x29) (l2 := #[true, true, true, true, true, true, true, true, true, true, true, true, true, true, true, true, true, true, true, true, true, true, true, true, true, true, true, true, true, true, true, true, true, true, true, true, true, true, false, false, false, false, false, false, false, false, false, false, false, false, false, false, false, false]) rfl rfl rfl (by kernel_rfl) (by kernel_rfl) (by kernel_rfl) (by kernel_rfl) (fun _ _ _ h => h) (by rfl) ?hv301x29 hS0 ?h301x29
                    case hv301x29 => intro u hSu; clear hSu; go_simp; (try with_reducible rfl)
                    (try simp only [Act.put, List.setIfInBounds_toArray, List.set_cons_zero, List.set_cons_succ])
                    refine regN_takeC [48, 47, 42, 41, 40, 39] (i := 38) (d := (some 56)) (v := ?v301x30) (l2 := #[true, true, true, true, true, true, true, true, true, true, true, true, true, true, true, true, true, true, true, true, true, true, true, true, true, true, true, true, true, true, true, true, true, true, true, true, true, true, true, false, false, false, false, false, false, false, false, false, false, false, false, false, false, false]) rfl rfl rfl (by kernel_rfl) (by kernel_rfl) (by kernel_rfl) (by kernel_rfl) (fun _ _ _ h => h) (by rfl) ?hv301x30 hS0 ?h301x30
                    case hv301x30 => intro u hSu; clear hSu; go_simp; (try with_reducible rfl)
                    (try simp only [Act.put, List.setIfInBounds_toArray, List.set_cons_zero, List.set_cons_succ])
                    refine regN_takeC [48, 47, 42, 41, 40] (i := 39) (d := (some 57)) (v := ?v301x31) (l2 := #[true, true, true, true, true, true, true, true, true, true, true, true, true, true, true, true, true, true, true, true, true, true, true, true, true, true, true, true, true, true, true, true, true, true, true, true, true, true, true, true, false, false, false, false, false, false, false, false, false, false, false, false, false, false]) rfl rfl rfl (by kernel_rfl) (by kernel_rfl) (by kernel_rfl) (by kernel_rfl) (fun _ _ _ h => h) (by rfl) ?hv301x31 hS0 ?h301x31
                    case hv301x31 => intro u hSu; have s0 := (Below.block hSu _ yr).trans RB2.out; have s1 := (Below.block hSu _ yb).trans XB.out; have s2 := (Below.block hSu _ yf).trans YB.out; obtain ⟨x0, x1, x2, x3, x4, x5⟩ := six_cells s0; obtain ⟨z0, z1, z2, z3⟩ := four_cellsS s1; obtain ⟨t0, t1, t2, _⟩ := three_cells s2; have n0 := lt_heap s0; have n1 := lt_heap s1; have n2 := lt_heap s2; clear s0 s1 s2; go_simp; (try with_reducible rfl)
                    (try simp only [Act.put, List.setIfInBounds_toArray, List.set_cons_zero, List.set_cons_succ])
                    refine regN_takeC [48, 47, 42, 41] (i := 40) (d := (some 58)) (v := ?v301x32) (l2 := #[true, true, true, true, true, true, true, true, true, true, true, true, true, true, true, true, true, true, true, true, true, true, true, true, true, true, true, true, true, true, true, true, true, true, true, true, true, true, true, true, true, false, false, false, false, false, false, false, false, false, false, false, false, false]) rfl rfl rfl (by kernel_rfl) (by kernel_rfl) (by kernel_rfl) (by kernel_rfl) (fun _ _ _ h => h) (by rfl) ?hv301x32 hS0 ?h301x32
                    case hv301x32 => intro u hSu; clear hSu; go_simp; (try with_reducible rfl)
                    (try simp only [Act.put, List.setIfInBounds_toArray, List.set_cons_zero, List.set_cons_succ])
                    refine regN_takeC [48, 47, 42] (i := 41) (d := (some 59)) (v := ?v301x33) (l2 := #[true, true, true, true, true, true, true, true, true, true, true, true, true, true, true, true, true, true, true, true, true, true, true, true, true, true, true, true, true, true, true, true, true, true, true, true, true, true, true, true, true, true, false, false, false, false, false, false, false, false, false, false, false, false]) rfl rfl rfl (by kernel_rfl) (by kernel_rfl) (by kernel_rfl) (by kernel_rfl) (fun _ _ _ h => h) (by rfl) ?hv301x33 hS0 ?h301x33
                    case hv301x33 => intro u hSu; clear hSu; go_simp; (try with_reducible rfl)
                    (try simp only [Act.put, List.setIfInBounds_toArray, List.set_cons_zero, List.set_cons_succ])
                    refine regN_takeC [48, 47] (i := 42) (d := (some 60)) (v := ?v301x34) (l2 := #[true, true, true, true, true, true, true, true, true, true, true, true, true, true, true, true, true, true, true, true, true, true, true, true, true, true, true, true, true, true, true, true, true, true, true, true, true, true, true, true, true, true, true, false, false, false, false, false, false, false, false, false, false, false]) rfl rfl rfl (by kernel_rfl) (by kernel_rfl) (by kernel_rfl) (by kernel_rfl) (fun _ _ _ h => h) (by rfl) ?hv301x34 hS0 ?h301x34
                    case hv301x34 => intro u hSu; clear hSu; go_simp; (try with_reducible rfl)
                    (try simp only [Act.put, List.setIfInBounds_toArray, List.set_cons_zero, List.set_cons_succ])
                    refine regN_takeC [48, 46, 44] (i := 43) (d := (some 61)) (v := ?v301x35) (l2 := #[true, true, true, true, true, true, true, true, true, true, true, true, true, true, true, true, true, true, true, true, true, true, true, true, true, true, true, true, true, true, true, true, true, true, true, true, true, true, true, true, true, true, true, true, false, false, false, false, false, false, false, false, false, false]) rfl rfl rfl (by kernel_rfl) (by kernel_rfl) (by kernel_rfl) (by kernel_rfl) (fun _ _ _ h => h) (by rfl) ?hv301x35 hS0 ?h301x35
                    case hv301x35 => intro u hSu; clear hSu; go_simp; (try with_reducible rfl)
                    (try simp only [Act.put, List.setIfInBounds_toArray, List.set_cons_zero, List.set_cons_succ])
                    refine regN_takeC [48, 46] (i := 44) (d := (some 62)) (v := ?v301x36) (l2 := #[true, true, true, true, true, true, true, true, true, true, true, true, true, true, true, true, true, true, true, true, true, true, true, true, true, true, true, true, true, true, true, true, true, true, true, true, true, true, true, true, true, true, true, true, true, false, false, false, false, false, false, false, false, false]) rfl rfl rfl (by kernel_rfl) (by kernel_rfl) (by kernel_rfl) (by kernel_rfl) (fun _ _ _ h => h) (by rfl) ?hv301x36 hS0 ?h301x36
                    case hv301x36 => intro u hSu; have s0 := (Below.block hSu _ yr).trans RB2.out; have s1 := (Below.block hSu _ yb).trans XB.out; have s2 := (Below.block hSu _ yf).trans YB.out; obtain ⟨x0, x1, x2, x3, x4, x5⟩ := six_cells s0; obtain ⟨z0, z1, z2, z3⟩ := four_cellsS s1; obtain ⟨t0, t1, t2, _⟩ := three_cells s2; have n0 := lt_heap s0; have n1 := lt_heap s1; have n2 := lt_heap s2; clear s0 s1 s2; go_simp; (try with_reducible rfl)
                    (try simp only [Act.put, List.setIfInBounds_toArray, List.set_cons_zero, List.set_cons_succ])
                    refine regN_takeC [48, 46] (i := 45) (d := (some 63)) (v := ?v301x37) (l2 := #[true, true, true, true, true, true, true, true, true, true, true, true, true, true, true, true, true, true, true, true, true, true, true, true, true, true, true, true, true, true, true, true, true, true, true, true, true, true, true, true, true, true, true, true, true, true, false, false, false, false, false, false, false, false]) rfl rfl rfl (by kernel_rfl) (by kernel_rfl) (by kernel_rfl) (by kernel_rfl) (fun _ _ _ h => h) (by rfl) ?hv301x37 hS0 ?h301x37
                    case hv301x37 => intro u hSu; clear hSu; go_simp; (try with_reducible rfl)
                    (try simp only [Act.put, List.setIfInBounds_toArray, List.set_cons_zero, List.set_cons_succ])
                    refine regN_ready (rs := [46]) (by kernel_rfl) (by simp) ?_
                    refine (AllN.cons (i := 46) (l2 := #[true, true, true, true, true, true, true, true, true, true, true, true, true, true, true, true, true, true, true, true, true, true, true, true, true, true, true, true, true, true, true, true, true, true, true, true, true, true, true, true, true, true, true, true, true, true, true, false, false, false, false, false, false, false]) rfl rfl (fun K hK => ?_) AllN.nil)
                    go_simp
                    go_at_call 57
                    (with_reducible refine (K1.out _ (Below.refl _ _).drew).mono ?_)
                    rintro e w10 ⟨rfl, hb10⟩
                    have HBN := Lib.hid (below_on (show Below W2.heap.size W2 _ from (Below.refl _ _).drew) hb10)
                    clear hb10
                    go_simp
                    have hS1 : ((fun W' : World => Below W2.heap.size W2 W') : World → Prop) _ := (show (fun W' : World => Below W2.heap.size W2 W') _ from HBN.out)
                    refine hK _ _ (fun _ => hS1) ?_
                    clear hK K
                    (try simp only [Act.put, List.setIfInBounds_toArray, List.set_cons_zero, List.set_cons_succ])
                    refine regN_takeC [48] (i := 47) (d := (some 65)) (v := ?v301x38) (l2 := #[true, true, true, true, true, true, true, true, true, true, true, true, true, true, true, true, true, true, true, true, true, true, true, true, true, true, true, true, true, true, true, true, true, true, true, true, true, true, true, true, true, true, true, true, true, true, true, true, false, false, false, false, false, false]) rfl rfl rfl (by kernel_rfl) (by kernel_rfl) (by kernel_rfl) (by kernel_rfl) (fun _ _ _ h => h) (by rfl) ?hv301x38 hS1 ?h301x38
                    case hv301x38 => intro u hSu; clear hSu; go_simp; (try with_reducible rfl)
                    (try simp only [Act.put, List.setIfInBounds_toArray, List.set_cons_zero, List.set_cons_succ])
                    refine regN_take (i := 48) (d := (some 66)) (v := ?v301x39) (l2 := #[true, true, true, true, true, true, true, true, true, true, true, true, true, true, true, true, true, true, true, true, true, true, true, true, true, true, true, true, true, true, true, true, true, true, true, true, true, true, true, true, true, true, true, true, true, true, true, true, true, false, false, false, false, false]) rfl rfl rfl (by kernel_rfl) (by kernel_rfl) (by kernel_rfl) (by kernel_rfl) (fun _ _ _ h => h) (by rfl) ?hv301x39 hS1 ?h301x39
                    case hv301x39 => intro u hSu; clear hSu; go_simp; (try with_reducible rfl)
                    (try simp only [Act.put, List.setIfInBounds_toArray, List.set_cons_zero, List.set_cons_succ])
                    refine regN_skipC [52, 50] (i := 49) (d := (some 67)) (l2 := #[true, true, true, true, true, true, true, true, true, true, true, true, true, true, true, true, true, true, true, true, true, true, true, true, true, true, true, true, true, true, true, true, true, true, true, true, true, true, true, true, true, true, true, true, true, true, true, true, true, true, false, false, false, false]) rfl rfl rfl (by kernel_rfl) (by kernel_rfl) (by kernel_rfl) (by kernel_rfl) (fun _ _ _ h => h) (by rfl) hS1 ?_
                    (try simp only [Act.put, List.setIfInBounds_toArray, List.set_cons_zero, List.set_cons_succ])
                    refine regN_skipC [52] (i := 50) (d := (some 68)) (l2 := #[true, true, true, true, true, true, true, true, true, true, true, true, true, true, true, true, true, true, true, true, true, true, true, true, true, true, true, true, true, true, true, true, true, true, true, true, true, true, true, true, true, true, true, true, true, true, true, true, true, true, true, false, false, false]) rfl rfl rfl (by kernel_rfl) (by kernel_rfl) (by kernel_rfl) (by kernel_rfl) (fun _ _ _ h => h) (by rfl) hS1 ?_
                    (try simp only [Act.put, List.setIfInBounds_toArray, List.set_cons_zero, List.set_cons_succ])
                    refine regN_skipC [52] (i := 51) (d := (some 69)) (l2 := #[true, true, true, true, true, true, true, true, true, true, true, true, true, true, true, true, true, true, true, true, true, true, true, true, true, true, true, true, true, true, true, true, true, true, true, true, true, true, true, true, true, true, true, true, true, true, true, true, true, true, true, true, false, false]) rfl rfl rfl (by kernel_rfl) (by kernel_rfl) (by kernel_rfl) (by kernel_rfl) (fun _ _ _ h => h) (by rfl) hS1 ?_
                    (try simp only [Act.put, List.setIfInBounds_toArray, List.set_cons_zero, List.set_cons_succ])
                    refine regN_skip (i := 52) (d := (some 70)) (l2 := #[true, true, true, true, true, true, true, true, true, true, true, true, true, true, true, true, true, true, true, true, true, true, true, true, true, true, true, true, true, true, true, true, true, true, true, true, true, true, true, true, true, true, true, true, true, true, true, true, true, true, true, true, true, false]) rfl rfl rfl (by kernel_rfl) (by kernel_rfl) (by kernel_rfl) (by kernel_rfl) (fun _ _ _ h => h) (by rfl) hS1 ?_
                    (try simp only [Act.put, List.setIfInBounds_toArray, List.set_cons_zero, List.set_cons_succ])
                    refine regN_ready (rs := [53]) (by kernel_rfl) (by simp) ?_
                    refine (AllN.cons (i := 53) (l2 := #[true, true, true, true, true, true, true, true, true, true, true, true, true, true, true, true, true, true, true, true, true, true, true, true, true, true, true, true, true, true, true, true, true, true, true, true, true, true, true, true, true, true, true, true, true, true, true, true, true, true, true, true, true, true]) rfl rfl (fun K hK => ?_) AllN.nil)
                    go_simp
                    refine hK _ _ (fun h => absurd rfl h) ?_
                    clear hK K
                    (try simp only [Act.put, List.setIfInBounds_toArray, List.set_cons_zero, List.set_cons_succ])
                    refine regN_done (by kernel_rfl) ?_ _
                    go_wp2
                    go_ret
                    exact ⟨by rw [← HE.out, H.out]; rfl, below_on HB.out (below_on HBR2.out HBN.out)⟩
                  | false =>
                    refine regN_start (N := 53) (S := (fun W' : World => Below W2.heap.size W2 W')) (by kernel_rfl) ?_
                    change wpAnyN _ _ _ _ _ _ _ #[false, false, false, false, false, false, false, false, false, false, false, false, false, false, false, false, false, false, false, false, false, false, false, false, false, false, false, false, false, false, false, false, false, false, false, false, false, false, false, false, false, false, false, false, false, false, false, false, false, false, false, false, false, false] _ (World.drew _)
                    have hS0 := (show (fun W' : World => Below W2.heap.size W2 W') W2.drew from (Below.refl _ _).drew)
                    refine regN_takeC [48, 47, 42, 34, 26, 18, 13, 2, 1] (i := 0) (d := (some 18)) (v := ?v302x1) (l2 := #[true, false, false, false, false, false, false, false, false, false, false, false, false, false, false, false, false, false, false, false, false, false, false, false, false, false, false, false, false, false, false, false, false, false, false, false, false, false, false, false, false, false, false, false, false, false, false, false, false, false, false, false, false, false]) rfl rfl rfl (by kernel_rfl) (by kernel_rfl) (by kernel_rfl) (by kernel_rfl) (fun _ _ _ h => h) (by rfl) ?hv302x1 hS0 ?h302x1
                    case hv302x1 => intro u hSu; clear hSu; go_simp; (try with_reducible rfl)
                    (try simp only [Act.put, List.setIfInBounds_toArray, List.set_cons_zero, List.set_cons_succ])
                    refine regN_takeC [48, 47, 42, 34, 26, 18, 13, 2] (i := 1) (d := (some 19)) (v := ?v302x2) (l2 := #[true, true, false, false, false, false, false, false, false, false, false, false, false, false, false, false, false, false, false, false, false, false, false, false, false, false, false, false, false, false, false, false, false, false, false, false, false, false, false, false, false, false, false, false, false, false, false, false, false, false, false, false, false, false]) rfl rfl rfl (by kernel_rfl) (by kernel_rfl) (by kernel_rfl) (by kernel_rfl) (fun _ _ _ h => h) (by rfl) ?hv302x2 hS0 ?h302x2
                    case hv302x2 => intro u hSu; clear hSu; go_simp; (try with_reducible rfl)
                    (try simp only [Act.put, List.setIfInBounds_toArray, List.set_cons_zero, List.set_cons_succ])
                    refine regN_takeC [48, 47, 42, 34, 26, 18, 13] (i := 2) (d := (some 20)) (v := ?v302x3) (l2 := #[true, true, true, false, false, false, false, false, false, false, false, false, false, false, false, false, false, false, false, false, false, false, false, false, false, false, false, false, false, false, false, false, false, false, false, false, false, false, false, false, false, false, false, false, false, false, false, false, false, false, false, false, false, false]) rfl rfl rfl (by kernel_rfl) (by kernel_rfl) (by kernel_rfl) (by kernel_rfl) (fun _ _ _ h => h) (by rfl) ?hv302x3 hS0 ?h302x3
                    case hv302x3 => intro u hSu; clear hSu; go_simp; (try with_reducible rfl)
                    (try simp only [Act.put, List.setIfInBounds_toArray, List.set_cons_zero, List.set_cons_succ])
                    refine regN_skipC [48, 47, 42, 34, 26, 18, 13, 12, 11, 4] (i := 3) (d := (some 21)) (l2 := #[true, true, true, true, false, false, false, false, false, false, false, false, false, false, false, false, false, false, false, false, false, false, false, false, false, false, false, false, false, false, false, false, false, false, false, false, false, false, false, false, false, false, false, false, false, false, false, false, false, false, false, false, false, false]) rfl rfl rfl (by kernel_rfl) (by kernel_rfl) (by kernel_rfl) (by kernel_rfl) (fun _ _ _ h => h) (by rfl) hS0 ?_
                    (try simp only [Act.put, List.setIfInBounds_toArray, List.set_cons_zero, List.set_cons_succ])
                    refine regN_skipC [48, 47, 42, 34, 26, 18, 13, 12, 11] (i := 4) (d := (some 22)) (l2 := #[true, true, true, true, true, false, false, false, false, false, false, false, false, false, false, false, false, false, false, false, false, false, false, false, false, false, false, false, false, false, false, false, false, false, false, false, false, false, false, false, false, false, false, false, false, false, false, false, false, false, false, false, false, false]) rfl rfl rfl (by kernel_rfl) (by kernel_rfl) (by kernel_rfl) (by kernel_rfl) (fun _ _ _ h => h) (by rfl) hS0 ?_
                    (try simp only [Act.put, List.setIfInBounds_toArray, List.set_cons_zero, List.set_cons_succ])
                    refine regN_skipC [48, 47, 42, 34, 26, 18, 13, 12, 11, 10, 9, 8] (i := 5) (d := (some 23)) (l2 := #[true, true, true, true, true, true, false, false, false, false, false, false, false, false, false, false, false, false, false, false, false, false, false, false, false, false, false, false, false, false, false, false, false, false, false, false, false, false, false, false, false, false, false, false, false, false, false, false, false, false, false, false, false, false]) rfl rfl rfl (by kernel_rfl) (by kernel_rfl) (by kernel_rfl) (by kernel_rfl) (fun _ _ _ h => h) (by rfl) hS0 ?_
                    (try simp only [Act.put, List.setIfInBounds_toArray, List.set_cons_zero, List.set_cons_succ])
                    refine regN_skipC [48, 47, 42, 34, 26, 18, 13, 12, 11, 10, 9, 8, 7] (i := 6) (d := (some 24)) (l2 := #[true, true, true, true, true, true, true, false, false, false, false, false, false, false, false, false, false, false, false, false, false, false, false, false, false, false, false, false, false, false, false, false, false, false, false, false, false, false, false, false, false, false, false, false, false, false, false, false, false, false, false, false, false, false]) rfl rfl rfl (by kernel_rfl) (by kernel_rfl) (by kernel_rfl) (by kernel_rfl) (fun _ _ _ h => h) (by rfl) hS0 ?_
                    (try simp only [Act.put, List.setIfInBounds_toArray, List.set_cons_zero, List.set_cons_succ])
                    refine regN_skipC [48, 47, 42, 34, 26, 18, 13, 12, 11, 10, 9, 8] (i := 7) (d := (some 25)) (l2 := #[true, true, true, true, true, true, true, true, false, false, false, false, false, false, false, false, false, false, false, false, false, false, false, false, false, false, false, false, false, false, false, false, false, false, false, false, false, false, false, false, false, false, false, false, false, false, false, false, false, false, false, false, false, false]) rfl rfl rfl (by kernel_rfl) (by kernel_rfl) (by kernel_rfl) (by kernel_rfl) (fun _ _ _ h => h) (by rfl) hS0 ?_
                    (try simp only [Act.put, List.setIfInBounds_toArray, List.set_cons_zero, List.set_cons_succ])
                    refine regN_skipC [48, 47, 42, 34, 26, 18, 13, 12, 11, 10, 9] (i := 8) (d := (some 26)) (l2 := #[true, true, true, true, true, true, true, true, true, false, false, false, false, false, false, false, false, false, false, false, false, false, false, false, false, false, false, false, false, false, false, false, false, false, false, false, false, false, false, false, false, false, false, false, false, false, false, false, false, false, false, false, false, false]) rfl rfl rfl (by kernel_rfl) (by kernel_rfl) (by kernel_rfl) (by kernel_rfl) (fun _ _ _ h => h) (by rfl) hS0 ?_
                    (try simp only [Act.put, List.setIfInBounds_toArray, List.set_cons_zero, List.set_cons_succ])
                    refine regN_skipC [48, 47, 42, 34, 26, 18, 13, 12, 11, 10] (i := 9) (d := (some 27)) (l2 := #[true, true, true, true, true, true, true, true, true, true, false, false, false, false, false, false, false, false, false, false, false, false, false, false, false, false, false, false, false, false, false, false, false, false, false, false, false, false, false, false, false, false, false, false, false, false, false, false, false, false, false, false, false, false]) rfl rfl rfl (by kernel_rfl) (by kernel_rfl) (by kernel_rfl) (by kernel_rfl) (fun _ _ _ h => h) (by rfl) hS0 ?_
                    (try simp only [Act.put, List.setIfInBounds_toArray, List.set_cons_zero, List.set_cons_succ])
                    refine regN_skipC [48, 47, 42, 34, 26, 18, 13, 12, 11] (i := 10) (d := (some 28)) (l2 := #[true, true, true, true, true, true, true, true, true, true, true, false, false, false, false, false, false, false, false, false, false, false, false, false, false, false, false, false, false, false, false, false, false, false, false, false, false, false, false, false, false, false, false, false, false, false, false, false, false, false, false, false, false, false]) rfl rfl rfl (by kernel_rfl) (by kernel_rfl) (by kernel_rfl) (by kernel_rfl) (fun _ _ _ h => h) (by rfl) hS0 ?_
                    (try simp only [Act.put, List.setIfInBounds_toArray, List.set_cons_zero, List.set_cons_succ])
                    refine regN_skipC [48, 47, 42, 34, 26, 18, 13, 12] (i := 11) (d := (some 29)) (l2 := #[true, true, true, true, true, true, true, true, true, true, true, true, false, false, false, false, false, false, false, false, false, false, false, false, false, false, false, false, false, false, false, false, false, false, false, false, false, false, false, false, false, false, false, false, false, false, false, false, false, false, false, false, false, false]) rfl rfl rfl (by kernel_rfl) (by kernel_rfl) (by kernel_rfl) (by kernel_rfl) (fun _ _ _ h => h) (by rfl) hS0 ?_
                    (try simp only [Act.put, List.setIfInBounds_toArray, List.set_cons_zero, List.set_cons_succ])
                    refine regN_takeC [48, 47, 42, 34, 26, 18, 13] (i := 12) (d := (some 30)) (v := ?v302x4) (l2 := #[true, true, true, true, true, true, true, true, true, true, true, true, true, false, false, false, false, false, false, false, false, false, false, false, false, false, false, false, false, false, false, false, false, false, false, false, false, false, false, false, false, false, false, false, false, false, false, false, false, false, false, false, false, false]) rfl rfl rfl (by kernel_rfl) (by kernel_rfl) (by kernel_rfl) (by kernel_rfl) (fun _ _ _ h => h) (by rfl) ?hv302x4 hS0 ?h302x4
                    case hv302x4 => intro u hSu; clear hSu; go_simp; (try with_reducible rfl)
                    (try simp only [Act.put, List.setIfInBounds_toArray, List.set_cons_zero, List.set_cons_succ])
                    refine regN_takeC [48, 47, 42, 34, 26, 18] (i := 13) (d := (some 31)) (v := ?v302x5) (l2 := #[true, true, true, true, true, true, true, true, true, true, true, true, true, true, false, false, false, false, false, false, false, false, false, false, false, false, false, false, false, false, false, false, false, false, false, false, false, false, false, false, false, false, false, false, false, false, false, false, false, false, false, false, false, false]) rfl rfl rfl (by kernel_rfl) (by kernel_rfl) (by kernel_rfl) (by kernel_rfl) (fun _ _ _ h => h) (by rfl) ?hv302x5 hS0 ?h302x5
                    case hv302x5 => intro u hSu; clear hSu; go_simp; (try with_reducible rfl)
                    (try simp only [Act.put, List.setIfInBounds_toArray, List.set_cons_zero, List.set_cons_succ])
                    refine regN_takeC [48, 47, 42, 34, 26, 18, 17, 16, 15] (i := 14) (d := (some 32)) (v := ?v302x6) (l2 := #[true, true, true, true, true, true, true, true, true, true, true, true, true, true, true, false, false, false, false, false, false, false, false, false, false, false, false, false, false, false, false, false, false, false, false, false, false, false, false, false, false, false, false, false, false, false, false, false, false, false, false, false, false, false]) rfl rfl rfl (by kernel_rfl) (by kernel_rfl) (by kernel_rfl) (by kernel_rfl) (fun _ _ _ h => h) (by rfl) ?hv302x6 hS0 ?h302x6
                    case hv302x6 => intro u hSu; clear hSu; go_simp; (try with_reducible rfl)
                    (try simp only [Act.put, List.setIfInBounds_toArray, List.set_cons_zero, List.set_cons_succ])
                    refine regN_takeC [48, 47, 42, 34, 26, 18, 17, 16] (i := 15) (d := (some 33)) (v := ?v302x7) (l2 := #[true, true, true, true, true, true, true, true, true, true, true, true, true, true, true, true, false, false, false, false, false, false, false, false, false, false, false, false, false, false, false, false, false, false, false, false, false, false, false, false, false, false, false, false, false, false, false, false, false, false, false, false, false, false]) rfl rfl rfl (by kernel_rfl) (by kernel_rfl) (by kernel_rfl) (by kernel_rfl) (fun _ _ _ h => h) (by rfl) ?hv302x7 hS0 ?h302x7
                    case hv302x7 => intro u hSu; have s0 := (Below.block hSu _ yr).trans RB2.out; have s1 := (Below.block hSu _ yb).trans XB.out; have s2 := (Below.block hSu _ yf).trans YB.out; obtain ⟨x0, x1, x2, x3, x4, x5⟩ := six_cells s0; obtain ⟨z0, z1, z2, z3⟩ := four_cellsS s1; obtain ⟨t0, t1, t2, _⟩ := three_cells s2; have n0 := lt_heap s0; have n1 := lt_heap s1; have n2 := lt_heap s2; clear s0 s1 s2; go_simp; (try with_reducible rfl)
                    (try simp only [Act.put, List.setIfInBounds_toArray, List.set_cons_zero, List.set_cons_succ])
                    refine regN_takeC [48, 47, 42, 34, 26, 18, 17] (i := 16) (d := (some 34)) (v := ?v302x8) (l2 := #[true, true, true, true, true, true, true, true, true, true, true, true, true, true, true, true, true, false, false, false, false, false, false, false, false, false, false, false, false, false, false, false, false, false, false, false, false, false, false, false, false, false, false, false, false, false, false, false, false, false, false, false, false, false]) rfl rfl rfl (by kernel_rfl) (by kernel_rfl) (by kernel_rfl) (by kernel_rfl) (fun _ _ _ h => h) (by rfl) ?hv302x8 hS0 ?h302x8
                    case hv302x8 => intro u hSu; clear hSu; go_simp; (try with_reducible rfl)
                    (try simp only [Act.put, List.setIfInBounds_toArray, List.set_cons_zero, List.set_cons_succ])
                    refine regN_takeC [48, 47, 42, 34, 26, 18] (i := 17) (d := (some 35)) (v := ?v302x9) (l2 := #[true, true, true, true, true, true, true, true, true, true, true, true, true, true, true, true, true, true, false, false, false, false, false, false, false, false, false, false, false, false, false, false, false, false, false, false, false, false, false, false, false, false, false, false, false, false, false, false, false, false, false, false, false, false]) rfl rfl rfl (by kernel_rfl) (by kernel_rfl) (by kernel_rfl) (by kernel_rfl) (fun _ _ _ h => h) (by rfl) ?hv302x9 hS0 ?h302x9
                    case hv302x9 => intro u hSu; clear hSu; go_simp; (try with_reducible rfl)
                    (try simp only [Act.put, List.setIfInBounds_toArray, List.set_cons_zero, List.set_cons_succ])
                    refine regN_takeC [48, 47, 42, 34, 26] (i := 18) (d := (some 36)) (v := ?v302x10) (l2 := #[true, true, true, true, true, true, true, true, true, true, true, true, true, true, true, true, true, true, true, false, false, false, false, false, false, false, false, false, false, false, false, false, false, false, false, false, false, false, false, false, false, false, false, false, false, false, false, false, false, false, false, false, false, false]) rfl rfl rfl (by kernel_rfl) (by kernel_rfl) (by kernel_rfl) (by kernel_rfl) (fun _ _ _ h => h) (by rfl) ?hv302x10 hS0 ?h302x10
                    case hv302x10 => intro u hSu; clear hSu; go_simp; (try with_reducible rfl)
                    (try simp only [Act.put, List.setIfInBounds_toArray, List.set_cons_zero, List.set_cons_succ])
                    refine regN_takeC [48, 47, 42, 34, 26, 25, 24, 20] (i := 19) (d := (some 37)) (v := ?v302x11) (l2 := #[true, true, true, true, true, true, true, true, true, true, true, true, true, true, true, true, true, true, true, true, false, false, false, false, false, false, false, false, false, false, false, false, false, false, false, false, false, false, false, false, false, false, false, false, false, false, false, false, false, false, false, false, false, false]) rfl rfl rfl (by kernel_rfl) (by kernel_rfl) (by kernel_rfl) (by kernel_rfl) (fun _ _ _ h => h) (by rfl) ?hv302x11 hS0 ?h302x11
                    case hv302x11 => intro u hSu; clear hSu; go_simp; (try with_reducible rfl)
                    (try simp only [Act.put, List.setIfInBounds_toArray, List.set_cons_zero, List.set_cons_succ])
                    refine regN_takeC [48, 47, 42, 34, 26, 25, 24] (i := 20) (d := (some 38)) (v := ?v302x12) (l2 := #[true, true, true, true, true, true, true, true, true, true, true, true, true, true, true, true, true, true, true, true, true, false, false, false, false, false, false, false, false, false, false, false, false, false, false, false, false, false, false, false, false, false, false, false, false, false, false, false, false, false, false, false, false, false]) rfl rfl rfl (by kernel_rfl) (by kernel_rfl) (by kernel_rfl) (by kernel_rfl) (fun _ _ _ h => h) (by rfl) ?hv302x12 hS0 ?h302x12
                    case hv302x12 => intro u hSu; have s0 := (Below.block hSu _ yr).trans RB2.out; have s1 := (Below.block hSu _ yb).trans XB.out; have s2 := (Below.block hSu _ yf).trans YB.out; obtain ⟨x0, x1, x2, x3, x4, x5⟩ := six_cells s0; obtain ⟨z0, z1, z2, z3⟩ := four_cellsS s1; obtain ⟨t0, t1, t2, _⟩ := three_cells s2; have n0 := lt_heap s0; have n1 := lt_heap s1; have n2 := lt_heap s2; clear s0 s1 s2; go_simp; (try with_reducible rfl)
                    (try simp only [Act.put, List.setIfInBounds_toArray, List.set_cons_zero, List.set_cons_succ])
                    refine regN_takeC [48, 47, 42, 34, 26, 25, 24, 23, 22] (i := 21) (d := (some 39)) (v := ?v302x13) (l2 := #[true, true, true, true, true, true, true, true, true, true, true, true, true, true, true, true, true, true, true, true, true, true, false, false, false, false, false, false, false, false, false, false, false, false, false, false, false, false, false, false, false, false, false, false, false, false, false, false, false, false, false, false, false, false]) rfl rfl rfl (by kernel_rfl) (by kernel_rfl) (by kernel_rfl) (by kernel_rfl) (fun _ _ _ h => h) (by rfl) ?hv302x13 hS0 ?h302x13
                    case hv302x13 => intro u hSu; clear hSu; go_simp; (try with_reducible rfl)
                    (try simp only [Act.put, List.setIfInBounds_toArray, List.set_cons_zero, List.set_cons_succ])
                    refine regN_takeC [48, 47, 42, 34, 26, 25, 24, 23] (i := 22) (d := (some 40)) (v := ?v302x14) (l2 := #[true, true, true, true, true, true, true, true, true, true, true, true, true, true, true, true, true, true, true, true, true, true, true, false, false, false, false, false, false, false, false, false, false, false, false, false, false, false, false, false, false, false, false, false, false, false, false, false, false, false, false, false, false, false]) rfl rfl rfl (by kernel_rfl) (by kernel_rfl) (by kernel_rfl) (by kernel_rfl) (fun _ _ _ h => h) (by rfl) ?hv302x14 hS0 ?h302x14
                    case hv302x14 => intro u hSu; have s0 := (Below.block hSu _ yr).trans RB2.out; have s1 := (Below.block hSu _ yb).trans XB.out; have s2 := (Below.block hSu _ yf).trans YB.out; obtain ⟨x0, x1, x2, x3, x4, x5⟩ := six_cells s0; obtain ⟨z0, z1, z2, z3⟩ := four_cellsS s1; obtain ⟨t0, t1, t2, _⟩ := three_cells s2; have n0 := lt_heap s0; have n1 := lt_heap s1; have n2 := lt_heap s2; clear s0 s1 s2; go_simp; (try with_reducible rfl)
                    (try simp only [Act.put, List.setIfInBounds_toArray, List.set_cons_zero, List.set_cons_succ])
                    refine regN_takeC [48, 47, 42, 34, 26, 25, 24] (i := 23) (d := (some 41)) (v := ?v302x15) (l2 := #[true, true, true, true, true, true, true, true, true, true, true, true, true, true, true, true, true, true, true, true, true, true, true, true, false, false, false, false, false, false, false, false, false, false, false, false, false, false, false, false, false, false, false, false, false, false, false, false, false, false, false, false, false, false]) rfl rfl rfl (by kernel_rfl) (by kernel_rfl) (by kernel_rfl) (by kernel_rfl) (fun _ _ _ h => h) (by rfl) ?hv302x15 hS0 ?h302x15
                    case hv302x15 => intro u hSu; clear hSu; go_simp; (try with_reducible rfl)
                    (try simp only [Act.put, List.setIfInBounds_toArray, List.set_cons_zero, List.set_cons_succ])
                    refine regN_takeC [48, 47, 42, 34, 26, 25] (i := 24) (d := (some 42)) (v := ?v302x16) (l2 := #[true, true, true, true, true, true, true, true, true, true, true, true, true, true, true, true, true, true, true, true, true, true, true, true, true, false, false, false, false, false, false, false, false, false, false, false, false, false, false, false, false, false, false, false, false, false, false, false, false, false, false, false, false, false]) rfl rfl rfl (by kernel_rfl) (by kernel_rfl) (by kernel_rfl) (by kernel_rfl) (fun _ _ _ h => h) (by rfl) ?hv302x16 hS0 ?h302x16
                    case hv302x16 => intro u hSu; clear hSu; go_simp; (try with_reducible rfl)
                    (try simp only [Act.put, List.setIfInBounds_toArray, List.set_cons_zero, List.set_cons_succ])
                    refine regN_takeC [48, 47, 42, 34, 26] (i := 25) (d := (some 43)) (v := ?v302x17) (l2 := #[true, true, true, true, true, true, true, true, true, true, true, true, true, true, true, true, true, true, true, true, true, true, true, true, true, true, false, false, false, false, false, false, false, false, false, false, false, false, false, false, false, false, false, false, false, false, false, false, false, false, false, false, false, false]) rfl rfl rfl (by kernel_rfl) (by kernel_rfl) (by kernel_rfl) (by kernel_rfl) (fun _ _ _ h => h) (by rfl) ?hv302x17 hS0 ?h302x17
                    case hv302x17 => intro u hSu; clear hSu; go_simp; (try with_reducible rfl)
                    (try simp only [Act.put, List.setIfInBounds_toArray, List.set_cons_zero, List.set_cons_succ])
                    refine regN_takeC [48, 47, 42, 34] (i := 26) (d := (some 44)) (v := ?v302x18) (l2 := #[true, true, true, true, true, true, true, true, true, true, true, true, true, true, true, true, true, true, true, true, true, true, true, true, true, true, true, false, false, false, false, false, false, false, false, false, false, false, false, false, false, false, false, false, false, false, false, false, false, false, false, false, false, false]) rfl rfl rfl (by kernel_rfl) (by kernel_rfl) (by kernel_rfl) (by kernel_rfl) (fun _ _ _ h => h) (by rfl) ?hv302x18 hS0 ?h302x18
                    case hv302x18 => intro u hSu; clear hSu; go_simp; (try with_reducible rfl)
                    (try simp only [Act.put, List.setIfInBounds_toArray, List.set_cons_zero, List.set_cons_succ])
                    refine regN_takeC [48, 47, 42, 34, 33, 32, 29, 28] (i := 27) (d := (some 45)) (v := ?v302x19) (l2 := #[true, true, true, true, true, true, true, true, true, true, true, true, true, true, true, true, true, true, true, true, true, true, true, true, true, true, true, true, false, false, false, false, false, false, false, false, false, false, false, false, false, false, false, false, false, false, false, false, false, false, false, false, false, false]) rfl rfl rfl (by kernel_rfl) (by kernel_rfl) (by kernel_rfl) (by kernel_rfl) (fun _ _ _ h => h) (by rfl) ?hv302x19 hS0 ?h302x19
                    case hv302x19 => intro u hSu; clear hSu; go_simp; (try with_reducible rfl)
                    (try simp only [Act.put, List.setIfInBounds_toArray, List.set_cons_zero, List.set_cons_succ])
                    refine regN_takeC [48, 47, 42, 34, 33, 32, 29] (i := 28) (d := (some 46)) (v := ?v302x20) (l2 := #[true, true, true, true, true, true, true, true, true, true, true, true, true, true, true, true, true, true, true, true, true, true, true, true, true, true, true, true, true, false, false, false, false, false, false, false, false, false, false, false, false, false, false, false, false, false, false, false, false, false, false, false, false, false]) rfl rfl rfl (by kernel_rfl) (by kernel_rfl) (by kernel_rfl) (by kernel_rfl) (fun _ _ _ h => h) (by rfl) ?hv302x20 hS0 ?h302x20
                    case hv302x20 => intro u hSu; have s0 := (Below.block hSu _ yr).trans RB2.out; have s1 := (Below.block hSu _ yb).trans XB.out; have s2 := (Below.block hSu _ yf).trans YB.out; obtain ⟨x0, x1, x2, x3, x4, x5⟩ := six_cells s0; obtain ⟨z0, z1, z2, z3⟩ := four_cellsS s1; obtain ⟨t0, t1, t2, _⟩ := three_cells s2; have n0 := lt_heap s0; have n1 := lt_heap s1; have n2 := lt_heap s2; clear s0 s1 s2; go_simp; (try with_reducible rfl)
                    (try simp only [Act.put, List.setIfInBounds_toArray, List.set_cons_zero, List.set_cons_succ])
                    refine regN_takeC [48, 47, 42, 34, 33, 32] (i := 29) (d := (some 47)) (v := ?v302x21) (l2 := #[true, true, true, true, true, true, true, true, true, true, true, true, true, true, true, true, true, true, true, true, true, true, true, true, true, true, true, true, true, true, false, false, false, false, false, false, false, false, false, false, false, false, false, false, false, false, false, false, false, false, false, false, false, false]) rfl rfl rfl (by kernel_rfl) (by kernel_rfl) (by kernel_rfl) (by kernel_rfl) (fun _ _ _ h => h) (by rfl) ?hv302x21 hS0 ?h302x21
                    case hv302x21 => intro u hSu; clear hSu; go_simp; (try with_reducible rfl)
                    (try simp only [Act.put, List.setIfInBounds_toArray, List.set_cons_zero, List.set_cons_succ])
                    refine regN_takeC [48, 47, 42, 34, 33, 32, 31] (i := 30) (d := (some 48)) (v := ?v302x22) (l2 := #[true, true, true, true, true, true, true, true, true, true, true, true, true, true, true, true, true, true, true, true, true, true, true, true, true, true, true, true, true, true, true, false, false, false, false, false, false, false, false, false, false, false, false, false, false, false, false, false, false, false, false, false, false, false]) rfl rfl rfl (by kernel_rfl) (by kernel_rfl) (by kernel_rfl) (by kernel_rfl) (fun _ _ _ h => h) (by rfl) ?hv302x22 hS0 ?h302x22
                    case hv302x22 => intro u hSu; clear hSu; go_simp; (try with_reducible rfl)
                    (try simp only [Act.put, List.setIfInBounds_toArray, List.set_cons_zero, List.set_cons_succ])
                    refine regN_takeC [48, 47, 42, 34, 33, 32] (i := 31) (d := (some 49)) (v := ?v302x23) (l2 := #[true, true, true, true, true, true, true, true, true, true, true, true, true, true, true, true, true, true, true, true, true, true, true, true, true, true, true, true, true, true, true, true, false, false, false, false, false, false, false, false, false, false, false, false, false, false, false, false, false, false, false, false, false, false]) rfl rfl rfl (by kernel_rfl) (by kernel_rfl) (by kernel_rfl) (by kernel_rfl) (fun _ _ _ h => h) (by rfl) ?hv302x23 hS0 ?h302x23
                    case hv302x23 => intro u hSu; have s0 := (Below.block hSu _ yr).trans RB2.out; have s1 := (Below.block hSu _ yb).trans XB.out; have s2 := (Below.block hSu _ yf).trans YB.out; obtain ⟨x0, x1, x2, x3, x4, x5⟩ := six_cells s0; obtain ⟨z0, z1, z2, z3⟩ := four_cellsS s1; obtain ⟨t0, t1, t2, _⟩ := three_cells s2; have n0 := lt_heap s0; have n1 := lt_heap s1; have n2 := lt_heap s2; clear s0 s1 s2; go_simp; (try with_reducible rfl)
                    (try simp only [Act.put, List.setIfInBounds_toArray, List.set_cons_zero, List.set_cons_succ])
                    refine regN_takeC [48, 47, 42, 34, 33] (i := 32) (d := (some 50)) (v := ?v302x24) (l2 := #[true, true, true, true, true, true, true, true, true, true, true, true, true, true, true, true, true, true, true, true, true, true, true, true, true, true, true, true, true, true, true, true, true, false, false, false, false, false, false, false, false, false, false, false, false, false, false, false, false, false, false, false, false, false]) rfl rfl rfl (by kernel_rfl) (by kernel_rfl) (by kernel_rfl) (by kernel_rfl) (fun _ _ _ h => h) (by rfl) ?hv302x24 hS0 ?h302x24
                    case hv302x24 => intro u hSu; clear hSu; go_simp; (try with_reducible rfl)
                    (try simp only [Act.put, List.setIfInBounds_toArray, List.set_cons_zero, List.set_cons_succ])
                    refine regN_takeC [48, 47, 42, 34] (i := 33) (d := (some 51)) (v := ?v302x25) (l2 := #[true, true, true, true, true, true, true, true, true, true, true, true, true, true, true, true, true, true, true, true, true, true, true, true, true, true, true, true, true, true, true, true, true, true, false, false, false, false, false, false, false, false, false, false, false, false, false, false, false, false, false, false, false, false]) rfl rfl rfl (by kernel_rfl) (by kernel_rfl) (by kernel_rfl) (by kernel_rfl) (fun _ _ _ h => h) (by rfl) ?hv302x25 hS0 ?h302x25
                    case hv302x25 => intro u hSu; clear hSu; go_simp; (try with_reducible rfl)
                    (try simp only [Act.put, List.setIfInBounds_toArray, List.set_cons_zero, List.set_cons_succ])
                    refine regN_takeC [48, 47, 42] (i := 34) (d := (some 52)) (v := ?v302x26) (l2 := #[true, true, true, true, true, true, true, true, true, true, true, true, true, true, true, true, true, true, true, true, true, true, true, true, true, true, true, true, true, true, true, true, true, true, true, false, false, false, false, false, false, false, false, false, false, false, false, false, false, false, false, false, false, false]) rfl rfl rfl (by kernel_rfl) (by kernel_rfl) (by kernel_rfl) (by kernel_rfl) (fun _ _ _ h => h) (by rfl) ?hv302x26 hS0 ?h302x26
                    case hv302x26 => intro u hSu; clear hSu; go_simp; (try with_reducible rfl)
                    (try simp only [Act.put, List.setIfInBounds_toArray, List.set_cons_zero, List.set_cons_succ])
                    refine regN_takeC [48, 47, 42, 41, 40, 37, 36] (i := 35) (d := (some 53)) (v := ?v302x27) (l2 := #[true, true, true, true, true, true, true, true, true, true, true, true, true, true, true, true, true, true, true, true, true, true, true, true, true, true, true, true, true, true, true, true, true, true, true, true, false, false, false, false, false, false, false, false, false, false, false, false, false, false, false, false, false, false]) rfl rfl rfl (by kernel_rfl) (by kernel_rfl) (by kernel_rfl) (by kernel_rfl) (fun _ _ _ h => h) (by rfl) ?hv302x27 hS0 ?h302x27
                    case hv302x27 => intro u hSu; clear hSu; go_simp; (try with_reducible rfl)
                    (try simp only [Act.put, List.setIfInBounds_toArray, List.set_cons_zero, List.set_cons_succ])
                    refine regN_takeC [48, 47, 42, 41, 40, 37] (i := 36) (d := (some 54)) (v := ?v302x28) (l2 := #[true, true, true, true, true, true, true, true, true, true, true, true, true, true, true, true, true, true, true, true, true, true, true, true, true, true, true, true, true, true, true, true, true, true, true, true, true, false, false, false, false, false, false, false, false, false, false, false, false, false, false, false, false, false]) rfl rfl rfl (by kernel_rfl) (by kernel_rfl) (by kernel_rfl) (by kernel_rfl) (fun _ _ _ h => h) (by rfl) ?hv302x28 hS0 ?h302x28
                    case hv302x28 => intro u hSu; have s0 := (Below.block hSu _ yr).trans RB2.out; have s1 := (Below.block hSu _ yb).trans XB.out; have s2 := (Below.block hSu _ yf).trans YB.out; obtain ⟨x0, x1, x2, x3, x4, x5⟩ := six_cells s0; obtain ⟨z0, z1, z2, z3⟩ := four_cellsS s1; obtain ⟨t0, t1, t2, _⟩ := three_cells s2; have n0 := lt_heap s0; have n1 := lt_heap s1; have n2 := lt_heap s2; clear s0 s1 s2; go_simp; (try with_reducible rfl)
                    (try simp only [Act.put, List.setIfInBounds_toArray, List.set_cons_zero, List.set_cons_succ])
                    refine regN_takeC [48, 47, 42, 41, 40] (i := 37) (d := (some 55)) (v := ?v302x29) (l2 := #[true, true, true, true, true, true, true, true, true, true, true, true, true, true, true, true, true, true, true, true, true, true, true, true, true, true, true, true, true, true, true, true, true, true, true, true, true, true, false, false, false, false, false, false, false, false, false, false, false, false, false, false, false, false]) rfl rfl rfl (by kernel_rfl) (by kernel_rfl) (by kernel_rfl) (by kernel_rfl) (fun _ _ _ h => h) (by rfl) ?hv302x29 hS0 ?h302x29
                    case hv302x29 => intro u hSu; clear hSu; go_simp; (try with_reducible rfl)
                    (try simp only [Act.put, List.setIfInBounds_toArray, List.set_cons_zero, List.set_cons_succ])
                    refine regN_takeC [48, 47, 42, 41, 40, 39] (i := 38) (d := (some 56)) (v := ?v302x30) (l2 := #[true, true, true, true, true, true, true, true, true, true, true, true, true, true, true, true, true, true, true, true, true, true, true, true, true, true, true, true, true, true, true, true, true, true, true, true, true, true, true, false, false, false, false, false, false, false, false, false, false, false, false, false, false, false]) rfl rfl rfl (by kernel_rfl) (by kernel_rfl) (by kernel_rfl) (by kernel_rfl) (fun _ _ _ h => h) (by rfl) ?hv302x30 hS0 ?h302x30
                    case hv302x30 => intro u hSu; clear hSu; go_simp; (try with_reducible rfl)
                    (try simp only [Act.put, List.setIfInBounds_toArray, List.set_cons_zero, List.set_cons_succ])
                    refine regN_takeC [48, 47, 42, 41, 40] (i := 39) (d := (some 57)) (v := ?v302x31) (l2 := #[true, true, true, true, true, true, true, true, true, true, true, true, true, true, true, true, true, true, true, true, true, true, true, true, true, true, true, true, true, true, true, true, true, true, true, true, true, true, true, true, false, false, false, false, false, false, false, false, false, false, false, false, false, false]) rfl rfl rfl (by kernel_rfl) (by kernel_rfl) (by kernel_rfl) (by kernel_rfl) (fun _ _ _ h => h) (by rfl) ?hv302x31 hS0 ?h302x31
                    case hv302x31 => intro u hSu; have s0 := (Below.block hSu _ yr).trans RB2.out; have s1 := (Below.block hSu _ yb).trans XB.out; have s2 := (Below.block hSu _ yf).trans YB.out; obtain ⟨x0, x1, x2, x3, x4, x5⟩ := six_cells s0; obtain ⟨z0, z1, z2, z3⟩ := four_cellsS s1; obtain ⟨t0, t1, t2, _⟩ := three_cells s2; have n0 := lt_heap s0; have n1 := lt_heap s1; have n2 := lt_heap s2; clear s0 s1 s2; go_simp; (try with_reducible rfl)
                    (try simp only [Act.put, List.setIfInBounds_toArray, List.set_cons_zero, List.set_cons_succ])
                    refine regN_takeC [48, 47, 42, 41] (i := 40) (d := (some 58)) (v := ?v302x32) (l2 := #[true, true, true, true, true, true, true, true, true, true, true, true, true, true, true, true, true, true, true, true, true, true, true, true, true, true, true, true, true, true, true, true, true, true, true, true, true, true, true, true, true, false, false, false, false, false, false, false, false, false, false, false, false, false]) rfl rfl rfl (by kernel_rfl) (by kernel_rfl) (by kernel_rfl) (by kernel_rfl) (fun _ _ _ h => h) (by rfl) ?hv302x32 hS0 ?h302x32
                    case hv302x32 => intro u hSu; clear hSu; go_simp; (try with_reducible rfl)
                    (try simp only [Act.put, List.setIfInBounds_toArray, List.set_cons_zero, List.set_cons_succ])
                    refine regN_takeC [48, 47, 42] (i := 41) (d := (some 59)) (v := ?v302x33) (l2 := #[true, true, true, true, true, true, true, true, true, true, true, true, true, true, true, true, true, true, true, true, true, true, true, true, true, true, true, true, true, true, true, true, true, true, true, true, true, true, true, true, true, true, false, false, false, false, false, false, false, false, false, false, false, false]) rfl rfl rfl (by kernel_rfl) (by kernel_rfl) (by kernel_rfl) (by kernel_rfl) (fun _ _ _ h => h) (by rfl) ?hv302x33 hS0 ?h302x33
                    case hv302x33 => intro u hSu; clear hSu; go_simp; (try with_reducible rfl)
                    (try simp only [Act.put, List.setIfInBounds_toArray, List.set_cons_zero, List.set_cons_succ])
                    refine regN_takeC [48, 47] (i := 42) (d := (some 60)) (v := ?v302x34) (l2 := #[true, true, true, true, true, true, true, true, true, true, true, true, true, true, true, true, true, true, true, true, true, true, true, true, true, true, true, true, true, true, true, true, true, true, true, true, true, true, true, true, true, true, true, false, false, false, false, false, false, false, false, false, false, false]) rfl rfl rfl (by kernel_rfl) (by kernel_rfl) (by kernel_rfl) (by kernel_rfl) (fun _ _ _ h => h) (by rfl) ?hv302x34 hS0 ?h302x34
                    case hv302x34 => intro u hSu; clear hSu; go_simp; (try with_reducible rfl)
                    (try simp only [Act.put, List.setIfInBounds_toArray, List.set_cons_zero, List.set_cons_succ])
                    refine regN_takeC [48, 46, 44] (i := 43) (d := (some 61)) (v := ?v302x35) (l2 := #[true, true, true, true, true, true, true, true, true, true, true, true, true, true, true, true, true, true, true, true, true, true, true, true, true, true, true, true, true, true, true, true, true, true, true, true, true, true, true, true, true, true, true, true, false, false, false, false, false, false, false, false, false, false]) rfl rfl rfl (by kernel_rfl) (by kernel_rfl) (by kernel_rfl) (by kernel_rfl) (fun _ _ _ h => h) (by rfl) ?hv302x35 hS0 ?h302x35
                    case hv302x35 => intro u hSu; clear hSu; go_simp; (try with_reducible rfl)
                    (try simp only [Act.put, List.setIfInBounds_toArray, List.set_cons_zero, List.set_cons_succ])
                    refine regN_takeC [48, 46] (i := 44) (d := (some 62)) (v := ?v302x36) (l2 := #[true, true, true, true, true, true, true, true, true, true, true, true, true, true, true, true, true, true, true, true, true, true, true, true, true, true, true, true, true, true, true, true, true, true, true, true, true, true, true, true, true, true, true, true, true, false, false, false, false, false, false, false, false, false]) rfl rfl rfl (by kernel_rfl) (by kernel_rfl) (by kernel_rfl) (by kernel_rfl) (fun _ _ _ h => h) (by rfl) ?hv302x36 hS0 ?h302x36
                    case hv302x36 => intro u hSu; have s0 := (Below.block hSu _ yr).trans RB2.out; have s1 := (Below.block hSu _ yb).trans XB.out; have s2 := (Below.block hSu _ yf).trans YB.out; obtain ⟨x0, x1, x2, x3, x4, x5⟩ := six_cells s0; obtain ⟨z0, z1, z2, z3⟩ := four_cellsS s1; obtain ⟨t0, t1, t2, _⟩ := three_cells s2; have n0 := lt_heap s0; have n1 := lt_heap s1; have n2 := lt_heap s2; clear s0 s1 s2; go_simp; (try with_reducible rfl)
                    (try simp only [Act.put, List.setIfInBounds_toArray, List.set_cons_zero, List.set_cons_succ])
                    refine regN_takeC [48, 46] (i := 45) (d := (some 63)) (v := ?v302x37) (l2 := #[true, true, true, true, true, true, true, true, true, true, true, true, true, true, true, true, true, true, true, true, true, true, true, true, true, true, true, true, true, true, true, true, true, true, true, true, true, true, true, true, true, true, true, true, true, true, false, false, false, false, false, false, false, false]) rfl rfl rfl (by kernel_rfl) (by kernel_rfl) (by kernel_rfl) (by kernel_rfl) (fun _ _ _ h => h) (by rfl) ?hv302x37 hS0 ?h302x37
                    case hv302x37 => intro u hSu; clear hSu; go_simp; (try with_reducible rfl)
                    (try simp only [Act.put, List.setIfInBounds_toArray, List.set_cons_zero, List.set_cons_succ])
                    refine regN_ready (rs := [46]) (by kernel_rfl) (by simp) ?_
                    refine (AllN.cons (i := 46) (l2 := #[true, true, true, true, true, true, true, true, true, true, true, true, true, true, true, true, true, true, true, true, true, true, true, true, true, true, true, true, true, true, true, true, true, true, true, true, true, true, true, true, true, true, true, true, true, true, true, false, false, false, false, false, false, false]) rfl rfl (fun K hK => ?_) AllN.nil)
                    go_simp
                    go_at_call 57
                    (with_reducible refine (K1.out _ (Below.refl _ _).drew).mono ?_)
                    rintro e w10 ⟨rfl, hb10⟩
                    have HBN := Lib.hid (below_on (show Below W2.heap.size W2 _ from (Below.refl _ _).drew) hb10)
                    clear hb10
                    go_simp
                    have hS1 : ((fun W' : World => Below W2.heap.size W2 W') : World → Prop) _ := (show (fun W' : World => Below W2.heap.size W2 W') _ from HBN.out)
                    refine hK _ _ (fun _ => hS1) ?_
                    clear hK K
                    (try simp only [Act.put, List.setIfInBounds_toArray, List.set_cons_zero, List.set_cons_succ])
                    refine regN_takeC [48] (i := 47) (d := (some 65)) (v := ?v302x38) (l2 := #[true, true, true, true, true, true, true, true, true, true, true, true, true, true, true, true, true, true, true, true, true, true, true, true, true, true, true, true, true, true, true, true, true, true, true, true, true, true, true, true, true, true, true, true, true, true, true, true, false, false, false, false, false, false]) rfl rfl rfl (by kernel_rfl) (by kernel_rfl) (by kernel_rfl) (by kernel_rfl) (fun _ _ _ h => h) (by rfl) ?hv302x38 hS1 ?h302x38
                    case hv302x38 => intro u hSu; clear hSu; go_simp; (try with_reducible rfl)
                    (try simp only [Act.put, List.setIfInBounds_toArray, List.set_cons_zero, List.set_cons_succ])
                    refine regN_take (i := 48) (d := (some 66)) (v := ?v302x39) (l2 := #[true, true, true, true, true, true, true, true, true, true, true, true, true, true, true, true, true, true, true, true, true, true, true, true, true, true, true, true, true, true, true, true, true, true, true, true, true, true, true, true, true, true, true, true, true, true, true, true, true, false, false, false, false, false]) rfl rfl rfl (by kernel_rfl) (by kernel_rfl) (by kernel_rfl) (by kernel_rfl) (fun _ _ _ h => h) (by rfl) ?hv302x39 hS1 ?h302x39
                    case hv302x39 => intro u hSu; clear hSu; go_simp; (try with_reducible rfl)
                    (try simp only [Act.put, List.setIfInBounds_toArray, List.set_cons_zero, List.set_cons_succ])
                    refine regN_takeC [52, 50] (i := 49) (d := (some 67)) (v := ?v302x40) (l2 := #[true, true, true, true, true, true, true, true, true, true, true, true, true, true, true, true, true, true, true, true, true, true, true, true, true, true, true, true, true, true, true, true, true, true, true, true, true, true, true, true, true, true, true, true, true, true, true, true, true, true, false, false, false, false]) rfl rfl rfl (by kernel_rfl) (by kernel_rfl) (by kernel_rfl) (by kernel_rfl) (fun _ _ _ h => h) (by rfl) ?hv302x40 hS1 ?h302x40
                    case hv302x40 => intro u hSu; clear hSu; go_simp; (try with_reducible rfl)
                    (try simp only [Act.put, List.setIfInBounds_toArray, List.set_cons_zero, List.set_cons_succ])
                    refine regN_takeC [52] (i := 50) (d := (some 68)) (v := ?v302x41) (l2 := #[true, true, true, true, true, true, true, true, true, true, true, true, true, true, true, true, true, true, true, true, true, true, true, true, true, true, true, true, true, true, true, true, true, true, true, true, true, true, true, true, true, true, true, true, true, true, true, true, true, true, true, false, false, false]) rfl rfl rfl (by kernel_rfl) (by kernel_rfl) (by kernel_rfl) (by kernel_rfl) (fun _ _ _ h => h) (by rfl) ?hv302x41 hS1 ?h302x41
                    case hv302x41 => intro u hSu; have s0 := (Below.block hSu _ yr).trans RB2.out; have s1 := (Below.block hSu _ yb).trans XB.out; have s2 := (Below.block hSu _ yf).trans YB.out; obtain ⟨x0, x1, x2, x3, x4, x5⟩ := six_cells s0; obtain ⟨z0, z1, z2, z3⟩ := four_cellsS s1; obtain ⟨t0, t1, t2, _⟩ := three_cells s2; have n0 := lt_heap s0; have n1 := lt_heap s1; have n2 := lt_heap s2; clear s0 s1 s2; go_simp; (try with_reducible rfl)
                    (try simp only [Act.put, List.setIfInBounds_toArray, List.set_cons_zero, List.set_cons_succ])
                    refine regN_takeC [52] (i := 51) (d := (some 69)) (v := ?v302x42) (l2 := #[true, true, true, true, true, true, true, true, true, true, true, true, true, true, true, true, true, true, true, true, true, true, true, true, true, true, true, true, true, true, true, true, true, true, true, true, true, true, true, true, true, true, true, true, true, true, true, true, true, true, true, true, false, false]) rfl rfl rfl (by kernel_rfl) (by kernel_rfl) (by kernel_rfl) (by kernel_rfl) (fun _ _ _ h => h) (by rfl) ?hv302x42 hS1 ?h302x42
                    case hv302x42 => intro u hSu; clear hSu; go_simp; (try with_reducible rfl)
                    (try simp only [Act.put, List.setIfInBounds_toArray, List.set_cons_zero, List.set_cons_succ])
                    refine regN_ready (rs := [52]) (by kernel_rfl) (by simp) ?_
                    refine (AllN.cons (i := 52) (l2 := #[true, true, true, true, true, true, true, true, true, true, true, true, true, true, true, true, true, true, true, true, true, true, true, true, true, true, true, true, true, true, true, true, true, true, true, true, true, true, true, true, true, true, true, true, true, true, true, true, true, true, true, true, true, false]) rfl rfl (fun K hK => ?_) AllN.nil)
                    go_simp
                    go_at_call 57
                    (with_reducible refine (K2.out _ HBN.out).mono ?_)
                    rintro e w11 ⟨rfl, hb11⟩
                    replace HBN := Lib.hid (below_on HBN.out hb11)
                    clear hb11
                    go_simp
                    have hS2 : ((fun W' : World => Below W2.heap.size W2 W') : World → Prop) _ := (show (fun W' : World => Below W2.heap.size W2 W') _ from HBN.out)
                    refine hK _ _ (fun _ => hS2) ?_
                    clear hK K
                    (try simp only [Act.put, List.setIfInBounds_toArray, List.set_cons_zero, List.set_cons_succ])
                    refine regN_ready (rs := [53]) (by kernel_rfl) (by simp) ?_
                    refine (AllN.cons (i := 53) (l2 := #[true, true, true, true, true, true, true, true, true, true, true, true, true, true, true, true, true, true, true, true, true, true, true, true, true, true, true, true, true, true, true, true, true, true, true, true, true, true, true, true, true, true, true, true, true, true, true, true, true, true, true, true, true, true]) rfl rfl (fun K hK => ?_) AllN.nil)
                    go_simp
                    refine hK _ _ (fun h => absurd rfl h) ?_
                    clear hK K
                    (try simp only [Act.put, List.setIfInBounds_toArray, List.set_cons_zero, List.set_cons_succ])
                    refine regN_done (by kernel_rfl) ?_ _
                    cases r2v with
                    | true =>
                      have H := Lib.hid (ckQ_bad HN.out hlt (by rw [HSM.out]; exact HVAL.out))
                      go_wp2
                      go_ret
                      exact ⟨by rw [← HE.out, H.out]; rfl, below_on HB.out (below_on HBR2.out HBN.out)⟩
                    | false =>
                      go_wp2
                      exact ⟨⟨0 + 1, hlt, by go_num, rk_succ HALL.out (by rw [HSM.out]; exact HVAL.out), below_on HBR2.out HBN.out⟩, by simp [intOf]; omega⟩
        | succ q =>
          obtain ⟨p, hpp⟩ := get_someF (l := ms) (k := q) (by rw [HN.out]; omega)
          obtain ⟨_, e0, _⟩ := HCELL.out q p hpp
          replace e0 := (HCW.out ⟨g, o + q * 4, none⟩ hg).trans e0
          have HSM := Lib.hid (ckP_s (c := c) hm hpp)
          have hw1 : IntKind.i64.wrap (q : Int) = (q : Int) := by simp [IntKind.wrap, IntKind.bits, IntKind.signed]; omega
          have hq0 : (0 : Int) ≤ (q : Int) := by omega
          have hq1 : (q : Int) < (n : Int) := by omega
          have hgt : (0 : Int) < (q : Int) + 1 := by omega
          rw [Int.natCast_add, Int.natCast_one] at hj0 hj1 ⊢
          clear hm hpp
          by_cases hle : m.x ≤ p.x
          · have H := Lib.hid (ckQ_bad HN.out hlt (by rw [HSM.out, decide_eq_true hle]; rfl))
            obtain ⟨r0, r1, r2, r3, r4, r5⟩ := six_cells RB2.out
            obtain ⟨a0, a1, a2, a3⟩ := four_cellsS XB.out
            obtain ⟨f0, f1, f2, _⟩ := three_cells YB.out
            go_quiet (fail)
            go_wp2
            go_ret
            exact ⟨by rw [← HE.out, H.out]; rfl, below_on HB.out (below_dr9S HBR2.out _)⟩
          · by_cases hB0 : m.x < 0
            · have hx : exB c.n m.x = false := by unfold exB; exact decide_eq_false (fun e => by omega)
              have H := Lib.hid (ckQ_bad HN.out hlt (by rw [HSM.out, decide_eq_false hle]; exact ckR_x hx))
              obtain ⟨r0, r1, r2, r3, r4, r5⟩ := six_cells RB2.out
              obtain ⟨a0, a1, a2, a3⟩ := four_cellsS XB.out
              obtain ⟨f0, f1, f2, _⟩ := three_cells YB.out
              go_quiet (fail)
              go_wp2
              go_ret
              exact ⟨by rw [← HE.out, H.out]; rfl, below_on HB.out (below_dr9S HBR2.out _)⟩
            · by_cases hC0 : (c.n : Int) ≤ m.x
              · have hx : exB c.n m.x = false := by unfold exB; exact decide_eq_false (fun e => by omega)
                have H := Lib.hid (ckQ_bad HN.out hlt (by rw [HSM.out, decide_eq_false hle]; exact ckR_x hx))
                obtain ⟨r0, r1, r2, r3, r4, r5⟩ := six_cells RB2.out
                obtain ⟨a0, a1, a2, a3⟩ := four_cellsS XB.out
                obtain ⟨f0, f1, f2, _⟩ := three_cells YB.out
                go_quiet (fail)
                go_wp2
                go_ret
                exact ⟨by rw [← HE.out, H.out]; rfl, below_on HB.out (below_dr9S HBR2.out _)⟩
              · have hx : exB c.n m.x = true := ex_iff.2 ⟨by omega, by omega⟩
                have HX := Lib.hid hx
                clear hx
                cases hD : ((m.f.n1 : Int) != c.lo) with
                | true =>
                  have H := Lib.hid (ckQ_bad HN.out hlt (by rw [HSM.out, decide_eq_false hle]; exact ckR_d hD))
                  obtain ⟨r0, r1, r2, r3, r4, r5⟩ := six_cells RB2.out
                  obtain ⟨a0, a1, a2, a3⟩ := four_cellsS XB.out
                  obtain ⟨f0, f1, f2, _⟩ := three_cells YB.out
                  go_quiet (fail)
                  go_wp2
                  go_ret
                  exact ⟨by rw [← HE.out, H.out]; rfl, below_on HB.out (below_dr9S HBR2.out _)⟩
                | false =>
                  by_cases hE0 : c.st < (m.f.n2 : Int)
                  · have H := Lib.hid (ckQ_bad HN.out hlt (by rw [HSM.out, decide_eq_false hle]; exact ckR_e hE0))
                    obtain ⟨r0, r1, r2, r3, r4, r5⟩ := six_cells RB2.out
                    obtain ⟨a0, a1, a2, a3⟩ := four_cellsS XB.out
                    obtain ⟨f0, f1, f2, _⟩ := three_cells YB.out
                    go_quiet (fail)
                    go_wp2
                    go_ret
                    exact ⟨by rw [← HE.out, H.out]; rfl, below_on HB.out (below_dr9S HBR2.out _)⟩
                  · have HVAL := Lib.hid (ckR_o HX.out hD hE0 HRR1.out HRR2.out)
                    cases r1v with
                    | true =>
                      have H := Lib.hid (ckQ_bad HN.out hlt (by rw [HSM.out, decide_eq_false hle]; exact HVAL.out))
                      refine regN_start (N := 53) (S := (fun W' : World => Below W2.heap.size W2 W')) (by kernel_rfl) ?_
                      change wpAnyN _ _ _ _ _ _ _ #[false, false, false, false, false, false, false, false, false, false, false, false, false, false, false, false, false, false, false, false, false, false, false, false, false, false, false, false, false, false, false, false, false, false, false, false, false, false, false, false, false, false, false, false, false, false, false, false, false, false, false, false, false, false] _ (World.drew _)
                      have hS0 := (show (fun W' : World => Below W2.heap.size W2 W') W2.drew from (Below.refl _ _).drew)
                      refine regN_takeC [48, 47, 42, 34, 26, 18, 13, 2, 1] (i := 0) (d := (some 18)) (v := ?v303x1) (l2 := #[true, false, false, false, false, false, false, false, false, false, false, false, false, false, false, false, false, false, false, false, false, false, false, false, false, false, false, false, false, false, false, false, false, false, false, false, false, false, false, false, false, false, false, false, false, false, false, false, false, false, false, false, false, false]) rfl rfl rfl (by kernel_rfl) (by kernel_rfl) (by kernel_rfl) (by kernel_rfl) (fun _ _ _ h => h) (by rfl) ?hv303x1 hS0 ?h303x1
                      case hv303x1 => intro u hSu; clear hSu; go_simp; (try with_reducible rfl)
                      (try simp only [Act.put, List.setIfInBounds_toArray, List.set_cons_zero, List.set_cons_succ])
                      refine regN_takeC [48, 47, 42, 34, 26, 18, 13, 2] (i := 1) (d := (some 19)) (v := ?v303x2) (l2 := #[true, true, false, false, false, false, false, false, false, false, false, false, false, false, false, false, false, false, false, false, false, false, false, false, false, false, false, false, false, false, false, false, false, false, false, false, false, false, false, false, false, false, false, false, false, false, false, false, false, false, false, false, false, false]) rfl rfl rfl (by kernel_rfl) (by kernel_rfl) (by kernel_rfl) (by kernel_rfl) (fun _ _ _ h => h) (by rfl) ?hv303x2 hS0 ?h303x2
                      case hv303x2 => intro u hSu; clear hSu; go_simp; (try with_reducible rfl)
                      (try simp only [Act.put, List.setIfInBounds_toArray, List.set_cons_zero, List.set_cons_succ])
                      refine regN_takeC [48, 47, 42, 34, 26, 18, 13] (i := 2) (d := (some 20)) (v := ?v303x3) (l2 := #[true, true, true, false, false, false, false, false, false, false, false, false, false, false, false, false, false, false, false, false, false, false, false, false, false, false, false, false, false, false, false, false, false, false, false, false, false, false, false, false, false, false, false, false, false, false, false, false, false, false, false, false, false, false]) rfl rfl rfl (by kernel_rfl) (by kernel_rfl) (by kernel_rfl) (by kernel_rfl) (fun _ _ _ h => h) (by rfl) ?hv303x3 hS0 ?h303x3
                      case hv303x3 => intro u hSu; clear hSu; go_simp; (try with_reducible rfl)
                      (try simp only [Act.put, List.setIfInBounds_toArray, List.set_cons_zero, List.set_cons_succ])
                      refine regN_takeC [48, 47, 42, 34, 26, 18, 13, 12, 11, 4] (i := 3) (d := (some 21)) (v := ?v303x4) (l2 := #[true, true, true, true, false, false, false, false, false, false, false, false, false, false, false, false, false, false, false, false, false, false, false, false, false, false, false, false, false, false, false, false, false, false, false, false, false, false, false, false, false, false, false, false, false, false, false, false, false, false, false, false, false, false]) rfl rfl rfl (by kernel_rfl) (by kernel_rfl) (by kernel_rfl) (by kernel_rfl) (fun _ _ _ h => h) (by rfl) ?hv303x4 hS0 ?h303x4
                      case hv303x4 => intro u hSu; clear hSu; go_simp; (try with_reducible rfl)
                      (try simp only [Act.put, List.setIfInBounds_toArray, List.set_cons_zero, List.set_cons_succ])
                      refine regN_takeC [48, 47, 42, 34, 26, 18, 13, 12, 11] (i := 4) (d := (some 22)) (v := ?v303x5) (l2 := #[true, true, true, true, true, false, false, false, false, false, false, false, false, false, false, false, false, false, false, false, false, false, false, false, false, false, false, false, false, false, false, false, false, false, false, false, false, false, false, false, false, false, false, false, false, false, false, false, false, false, false, false, false, false]) rfl rfl rfl (by kernel_rfl) (by kernel_rfl) (by kernel_rfl) (by kernel_rfl) (fun _ _ _ h => h) (by rfl) ?hv303x5 hS0 ?h303x5
                      case hv303x5 => intro u hSu; have s0 := (Below.block hSu _ yr).trans RB2.out; have s1 := (Below.block hSu _ yb).trans XB.out; have s2 := (Below.block hSu _ yf).trans YB.out; obtain ⟨x0, x1, x2, x3, x4, x5⟩ := six_cells s0; obtain ⟨z0, z1, z2, z3⟩ := four_cellsS s1; obtain ⟨t0, t1, t2, _⟩ := three_cells s2; have n0 := lt_heap s0; have n1 := lt_heap s1; have n2 := lt_heap s2; have p0 := (Below.cell hSu (p := ⟨g, o + q * 4, none⟩) hgg).trans e0; clear s0 s1 s2; go_simp; (try with_reducible rfl)
                      (try simp only [Act.put, List.setIfInBounds_toArray, List.set_cons_zero, List.set_cons_succ])
                      refine regN_takeC [48, 47, 42, 34, 26, 18, 13, 12, 11, 10, 9, 8] (i := 5) (d := (some 23)) (v := ?v303x6) (l2 := #[true, true, true, true, true, true, false, false, false, false, false, false, false, false, false, false, false, false, false, false, false, false, false, false, false, false, false, false, false, false, false, false, false, false, false, false, false, false, false, false, false, false, false, false, false, false, false, false, false, false, false, false, false, false]) rfl rfl rfl (by kernel_rfl) (by kernel_rfl) (by kernel_rfl) (by kernel_rfl) (fun _ _ _ h => h) (by rfl) ?hv303x6 hS0 ?h303x6
                      case hv303x6 => intro u hSu; clear hSu; go_simp; (try with_reducible rfl)
                      (try simp only [Act.put, List.setIfInBounds_toArray, List.set_cons_zero, List.set_cons_succ])
                      refine regN_takeC [48, 47, 42, 34, 26, 18, 13, 12, 11, 10, 9, 8, 7] (i := 6) (d := (some 24)) (v := ?v303x7) (l2 := #[true, true, true, true, true, true, true, false, false, false, false, false, false, false, false, false, false, false, false, false, false, false, false, false, false, false, false, false, false, false, false, false, false, false, false, false, false, false, false, false, false, false, false, false, false, false, false, false, false, false, false, false, false, false]) rfl rfl rfl (by kernel_rfl) (by kernel_rfl) (by kernel_rfl) (by kernel_rfl) (fun _ _ _ h => h) (by rfl) ?hv303x7 hS0 ?h303x7
                      case hv303x7 => intro u hSu; clear hSu; go_simp; (try with_reducible rfl)
                      (try simp only [Act.put, List.setIfInBounds_toArray, List.set_cons_zero, List.set_cons_succ])
                      refine regN_takeC [48, 47, 42, 34, 26, 18, 13, 12, 11, 10, 9, 8] (i := 7) (d := (some 25)) (v := ?v303x8) (l2 := #[true, true, true, true, true, true, true, true, false, false, false, false, false, false, false, false, false, false, false, false, false, false, false, false, false, false, false, false, false, false, false, false, false, false, false, false, false, false, false, false, false, false, false, false, false, false, false, false, false, false, false, false, false, false]) rfl rfl rfl (by kernel_rfl) (by kernel_rfl) (by kernel_rfl) (by kernel_rfl) (fun _ _ _ h => h) (by rfl) ?hv303x8 hS0 ?h303x8
                      case hv303x8 => intro u hSu; clear hSu; go_simp; (try with_reducible rfl)
                      (try simp only [Act.put, List.setIfInBounds_toArray, List.set_cons_zero, List.set_cons_succ])
                      refine regN_takeC [48, 47, 42, 34, 26, 18, 13, 12, 11, 10, 9] (i := 8) (d := (some 26)) (v := ?v303x9) (l2 := #[true, true, true, true, true, true, true, true, true, false, false, false, false, false, false, false, false, false, false, false, false, false, false, false, false, false, false, false, false, false, false, false, false, false, false, false, false, false, false, false, false, false, false, false, false, false, false, false, false, false, false, false, false, false]) rfl rfl rfl (by kernel_rfl) (by kernel_rfl) (by kernel_rfl) (by kernel_rfl) (fun _ _ _ h => h) (by rfl) ?hv303x9 hS0 ?h303x9
                      case hv303x9 => intro u hSu; clear hSu; go_simp; (try with_reducible rfl)
                      (try simp only [Act.put, List.setIfInBounds_toArray, List.set_cons_zero, List.set_cons_succ])
                      refine regN_takeC [48, 47, 42, 34, 26, 18, 13, 12, 11, 10] (i := 9) (d := (some 27)) (v := ?v303x10) (l2 := #[true, true, true, true, true, true, true, true, true, true, false, false, false, false, false, false, false, false, false, false, false, false, false, false, false, false, false, false, false, false, false, false, false, false, false, false, false, false, false, false, false, false, false, false, false, false, false, false, false, false, false, false, false, false]) rfl rfl rfl (by kernel_rfl) (by kernel_rfl) (by kernel_rfl) (by kernel_rfl) (fun _ _ _ h => h) (by rfl) ?hv303x10 hS0 ?h303x10
                      case hv303x10 => intro u hSu; clear hSu; go_simp; (try with_reducible rfl)
                      (try simp only [Act.put, List.setIfInBounds_toArray, List.set_cons_zero, List.set_cons_succ])
                      refine regN_takeC [48, 47, 42, 34, 26, 18, 13, 12, 11] (i := 10) (d := (some 28)) (v := ?v303x11) (l2 := #[true, true, true, true, true, true, true, true, true, true, true, false, false, false, false, false, false, false, false, false, false, false, false, false, false, false, false, false, false, false, false, false, false, false, false, false, false, false, false, false, false, false, false, false, false, false, false, false, false, false, false, false, false, false]) rfl rfl rfl (by kernel_rfl) (by kernel_rfl) (by kernel_rfl) (by kernel_rfl) (fun _ _ _ h => h) (by rfl) ?hv303x11 hS0 ?h303x11
                      case hv303x11 => intro u hSu; have s0 := (Below.block hSu _ yr).trans RB2.out; have s1 := (Below.block hSu _ yb).trans XB.out; have s2 := (Below.block hSu _ yf).trans YB.out; obtain ⟨x0, x1, x2, x3, x4, x5⟩ := six_cells s0; obtain ⟨z0, z1, z2, z3⟩ := four_cellsS s1; obtain ⟨t0, t1, t2, _⟩ := three_cells s2; have n0 := lt_heap s0; have n1 := lt_heap s1; have n2 := lt_heap s2; have p0 := (Below.cell hSu (p := ⟨g, o + q * 4, none⟩) hgg).trans e0; clear s0 s1 s2; go_simp; (try with_reducible rfl)
                      (try simp only [Act.put, List.setIfInBounds_toArray, List.set_cons_zero, List.set_cons_succ])
                      refine regN_takeC [48, 47, 42, 34, 26, 18, 13, 12] (i := 11) (d := (some 29)) (v := ?v303x12) (l2 := #[true, true, true, true, true, true, true, true, true, true, true, true, false, false, false, false, false, false, false, false, false, false, false, false, false, false, false, false, false, false, false, false, false, false, false, false, false, false, false, false, false, false, false, false, false, false, false, false, false, false, false, false, false, false]) rfl rfl rfl (by kernel_rfl) (by kernel_rfl) (by kernel_rfl) (by kernel_rfl) (fun _ _ _ h => h) (by rfl) ?hv303x12 hS0 ?h303x12
                      case hv303x12 => intro u hSu; clear hSu; go_simp; (try with_reducible rfl)
                      (try simp only [Act.put, List.setIfInBounds_toArray, List.set_cons_zero, List.set_cons_succ])
                      refine regN_takeC [48, 47, 42, 34, 26, 18, 13] (i := 12) (d := (some 30)) (v := ?v303x13) (l2 := #[true, true, true, true, true, true, true, true, true, true, true, true, true, false, false, false, false, false, false, false, false, false, false, false, false, false, false, false, false, false, false, false, false, false, false, false, false, false, false, false, false, false, false, false, false, false, false, false, false, false, false, false, false, false]) rfl rfl rfl (by kernel_rfl) (by kernel_rfl) (by kernel_rfl) (by kernel_rfl) (fun _ _ _ h => h) (by rfl) ?hv303x13 hS0 ?h303x13
                      case hv303x13 => intro u hSu; clear hSu; go_simp; (try with_reducible rfl)
                      (try simp only [Act.put, List.setIfInBounds_toArray, List.set_cons_zero, List.set_cons_succ])
                      refine regN_takeC [48, 47, 42, 34, 26, 18] (i := 13) (d := (some 31)) (v := ?v303x14) (l2 := #[true, true, true, true, true, true, true, true, true, true, true, true, true, true, false, false, false, false, false, false, false, false, false, false, false, false, false, false, false, false, false, false, false, false, false, false, false, false, false, false, false, false, false, false, false, false, false, false, false, false, false, false, false, false]) rfl rfl rfl (by kernel_rfl) (by kernel_rfl) (by kernel_rfl) (by kernel_rfl) (fun _ _ _ h => h) (by rfl) ?hv303x14 hS0 ?h303x14
                      case hv303x14 => intro u hSu; clear hSu; go_simp; (try with_reducible rfl)
                      (try simp only [Act.put, List.setIfInBounds_toArray, List.set_cons_zero, List.set_cons_succ])
                      refine regN_takeC [48, 47, 42, 34, 26, 18, 17, 16, 15] (i := 14) (d := (some 32)) (v := ?v303x15) (l2 := #[true, true, true, true, true, true, true, true, true, true, true, true, true, true, true, false, false, false, false, false, false, false, false, false, false, false, false, false, false, false, false, false, false, false, false, false, false, false, false, false, false, false, false, false, false, false, false, false, false, false, false, false, false, false]) rfl rfl rfl (by kernel_rfl) (by kernel_rfl) (by kernel_rfl) (by kernel_rfl) (fun _ _ _ h => h) (by rfl) ?hv303x15 hS0 ?h303x15
                      case hv303x15 => intro u hSu; clear hSu; go_simp; (try with_reducible rfl)
                      (try simp only [Act.put, List.setIfInBounds_toArray, List.set_cons_zero, List.set_cons_succ])
                      refine regN_takeC [48, 47, 42, 34, 26, 18, 17, 16] (i := 15) (d := (some 33)) (v := ?v303x16) (l2 := #[true, true, true, true, true, true, true, true, true, true, true, true, true, true, true, true, false, false, false, false, false, false, false, false, false, false, false, false, false, false, false, false, false, false, false, false, false, false, false, false, false, false, false, false, false, false, false, false, false, false, false, false, false, false]) rfl rfl rfl (by kernel_rfl) (by kernel_rfl) (by kernel_rfl) (by kernel_rfl) (fun _ _ _ h => h) (by rfl) ?hv303x16 hS0 ?h303x16
                      case hv303x16 => intro u hSu; have s0 := (Below.block hSu _ yr).trans RB2.out; have s1 := (Below.block hSu _ yb).trans XB.out; have s2 := (Below.block hSu _ yf).trans YB.out; obtain ⟨x0, x1, x2, x3, x4, x5⟩ := six_cells s0; obtain ⟨z0, z1, z2, z3⟩ := four_cellsS s1; obtain ⟨t0, t1, t2, _⟩ := three_cells s2; have n0 := lt_heap s0; have n1 := lt_heap s1; have n2 := lt_heap s2; have p0 := (Below.cell hSu (p := ⟨g, o + q * 4, none⟩) hgg).trans e0; clear s0 s1 s2; go_simp; (try with_reducible rfl)
                      (try simp only [Act.put, List.setIfInBounds_toArray, List.set_cons_zero, List.set_cons_succ])
                      refine regN_takeC [48, 47, 42, 34, 26, 18, 17] (i := 16) (d := (some 34)) (v := ?v303x17) (l2 := #[true, true, true, true, true, true, true, true, true, true, true, true, true, true, true, true, true, false, false, false, false, false, false, false, false, false, false, false, false, false, false, false, false, false, false, false, false, false, false, false, false, false, false, false, false, false, false, false, false, false, false, false, false, false]) rfl rfl rfl (by kernel_rfl) (by kernel_rfl) (by kernel_rfl) (by kernel_rfl) (fun _ _ _ h => h) (by rfl) ?hv303x17 hS0 ?h303x17
                      case hv303x17 => intro u hSu; clear hSu; go_simp; (try with_reducible rfl)
                      (try simp only [Act.put, List.setIfInBounds_toArray, List.set_cons_zero, List.set_cons_succ])
                      refine regN_takeC [48, 47, 42, 34, 26, 18] (i := 17) (d := (some 35)) (v := ?v303x18) (l2 := #[true, true, true, true, true, true, true, true, true, true, true, true, true, true, true, true, true, true, false, false, false, false, false, false, false, false, false, false, false, false, false, false, false, false, false, false, false, false, false, false, false, false, false, false, false, false, false, false, false, false, false, false, false, false]) rfl rfl rfl (by kernel_rfl) (by kernel_rfl) (by kernel_rfl) (by kernel_rfl) (fun _ _ _ h => h) (by rfl) ?hv303x18 hS0 ?h303x18
                      case hv303x18 => intro u hSu; clear hSu; go_simp; (try with_reducible rfl)
                      (try simp only [Act.put, List.setIfInBounds_toArray, List.set_cons_zero, List.set_cons_succ])
                      refine regN_takeC [48, 47, 42, 34, 26] (i := 18) (d := (some 36)) (v := ?v303x19) (l2 := #[true, true, true, true, true, true, true, true, true, true, true, true, true, true, true, true, true, true, true, false, false, false, false, false, false, false, false, false, false, false, false, false, false, false, false, false, false, false, false, false, false, false, false, false, false, false, false, false, false, false, false, false, false, false]) rfl rfl rfl (by kernel_rfl) (by kernel_rfl) (by kernel_rfl) (by kernel_rfl) (fun _ _ _ h => h) (by rfl) ?hv303x19 hS0 ?h303x19
                      case hv303x19 => intro u hSu; clear hSu; go_simp; (try with_reducible rfl)
                      (try simp only [Act.put, List.setIfInBounds_toArray, List.set_cons_zero, List.set_cons_succ])
                      refine regN_takeC [48, 47, 42, 34, 26, 25, 24, 20] (i := 19) (d := (some 37)) (v := ?v303x20) (l2 := #[true, true, true, true, true, true, true, true, true, true, true, true, true, true, true, true, true, true, true, true, false, false, false, false, false, false, false, false, false, false, false, false, false, false, false, false, false, false, false, false, false, false, false, false, false, false, false, false, false, false, false, false, false, false]) rfl rfl rfl (by kernel_rfl) (by kernel_rfl) (by kernel_rfl) (by kernel_rfl) (fun _ _ _ h => h) (by rfl) ?hv303x20 hS0 ?h303x20
                      case hv303x20 => intro u hSu; clear hSu; go_simp; (try with_reducible rfl)
                      (try simp only [Act.put, List.setIfInBounds_toArray, List.set_cons_zero, List.set_cons_succ])
                      refine regN_takeC [48, 47, 42, 34, 26, 25, 24] (i := 20) (d := (some 38)) (v := ?v303x21) (l2 := #[true, true, true, true, true, true, true, true, true, true, true, true, true, true, true, true, true, true, true, true, true, false, false, false, false, false, false, false, false, false, false, false, false, false, false, false, false, false, false, false, false, false, false, false, false, false, false, false, false, false, false, false, false, false]) rfl rfl rfl (by kernel_rfl) (by kernel_rfl) (by kernel_rfl) (by kernel_rfl) (fun _ _ _ h => h) (by rfl) ?hv303x21 hS0 ?h303x21
                      case hv303x21 => intro u hSu; have s0 := (Below.block hSu _ yr).trans RB2.out; have s1 := (Below.block hSu _ yb).trans XB.out; have s2 := (Below.block hSu _ yf).trans YB.out; obtain ⟨x0, x1, x2, x3, x4, x5⟩ := six_cells s0; obtain ⟨z0, z1, z2, z3⟩ := four_cellsS s1; obtain ⟨t0, t1, t2, _⟩ := three_cells s2; have n0 := lt_heap s0; have n1 := lt_heap s1; have n2 := lt_heap s2; have p0 := (Below.cell hSu (p := ⟨g, o + q * 4, none⟩) hgg).trans e0; clear s0 s1 s2; go_simp; (try with_reducible rfl)
                      (try simp only [Act.put, List.setIfInBounds_toArray, List.set_cons_zero, List.set_cons_succ])
                      refine regN_takeC [48, 47, 42, 34, 26, 25, 24, 23, 22] (i := 21) (d := (some 39)) (v := ?v303x22) (l2 := #[true, true, true, true, true, true, true, true, true, true, true, true, true, true, true, true, true, true, true, true, true, true, false, false, false, false, false, false, false, false, false, false, false, false, false, false, false, false, false, false, false, false, false, false, false, false, false, false, false, false, false, false, false, false]) rfl rfl rfl (by kernel_rfl) (by kernel_rfl) (by kernel_rfl) (by kernel_rfl) (fun _ _ _ h => h) (by rfl) ?hv303x22 hS0 ?h303x22
                      case hv303x22 => intro u hSu; clear hSu; go_simp; (try with_reducible rfl)
                      (try simp only [Act.put, List.setIfInBounds_toArray, List.set_cons_zero, List.set_cons_succ])
                      refine regN_takeC [48, 47, 42, 34, 26, 25, 24, 23] (i := 22) (d := (some 40)) (v := ?v303x23) (l2 := #[true, true, true, true, true, true, true, true, true, true, true, true, true, true, true, true, true, true, true, true, true, true, true, false, false, false, false, false, false, false, false, false, false, false, false, false, false, false, false, false, false, false, false, false, false, false, false, false, false, false, false, false, false, false]) rfl rfl rfl (by kernel_rfl) (by kernel_rfl) (by kernel_rfl) (by kernel_rfl) (fun _ _ _ h => h) (by rfl) ?hv303x23 hS0 ?h303x23
                      case hv303x23 => intro u hSu; have s0 := (Below.block hSu _ yr).trans RB2.out; have s1 := (Below.block hSu _ yb).trans XB.out; have s2 := (Below.block hSu _ yf).trans YB.out; obtain ⟨x0, x1, x2, x3, x4, x5⟩ := six_cells s0; obtain ⟨z0, z1, z2, z3⟩ := four_cellsS s1; obtain ⟨t0, t1, t2, _⟩ := three_cells s2; have n0 := lt_heap s0; have n1 := lt_heap s1; have n2 := lt_heap s2; have p0 := (Below.cell hSu (p := ⟨g, o + q * 4, none⟩) hgg).trans e0; clear s0 s1 s2; go_simp; (try with_reducible rfl)
                      (try simp only [Act.put, List.setIfInBounds_toArray, List.set_cons_zero, List.set_cons_succ])
                      refine regN_takeC [48, 47, 42, 34, 26, 25, 24] (i := 23) (d := (some 41)) (v := ?v303x24) (l2 := #[true, true, true, true, true, true, true, true, true, true, true, true, true, true, true, true, true, true, true, true, true, true, true, true, false, false, false, false, false, false, false, false, false, false, false, false, false, false, false, false, false, false, false, false, false, false, false, false, false, false, false, false, false, false]) rfl rfl rfl (by kernel_rfl) (by kernel_rfl) (by kernel_rfl) (by kernel_rfl) (fun _ _ _ h => h) (by rfl) ?hv303x24 hS0 ?h303x24
                      case hv303x24 => intro u hSu; clear hSu; go_simp; (try with_reducible rfl)
                      (try simp only [Act.put, List.setIfInBounds_toArray, List.set_cons_zero, List.set_cons_succ])
                      refine regN_takeC [48, 47, 42, 34, 26, 25] (i := 24) (d := (some 42)) (v := ?v303x25) (l2 := #[true, true, true, true, true, true, true, true, true, true, true, true, true, true, true, true, true, true, true, true, true, true, true, true, true, false, false, false, false, false, false, false, false, false, false, false, false, false, false, false, false, false, false, false, false, false, false, false, false, false, false, false, false, false]) rfl rfl rfl (by kernel_rfl) (by kernel_rfl) (by kernel_rfl) (by kernel_rfl) (fun _ _ _ h => h) (by rfl) ?hv303x25 hS0 ?h303x25
                      case hv303x25 => intro u hSu; clear hSu; go_simp; (try with_reducible rfl)
                      (try simp only [Act.put, List.setIfInBounds_toArray, List.set_cons_zero, List.set_cons_succ])
                      refine regN_takeC [48, 47, 42, 34, 26] (i := 25) (d := (some 43)) (v := ?v303x26) (l2 := #[true, true, true, true, true, true, true, true, true, true, true, true, true, true, true, true, true, true, true, true, true, true, true, true, true, true, false, false, false, false, false, false, false, false, false, false, false, false, false, false, false, false, false, false, false, false, false, false, false, false, false, false, false, false]) rfl rfl rfl (by kernel_rfl) (by kernel_rfl) (by kernel_rfl) (by kernel_rfl) (fun _ _ _ h => h) (by rfl) ?hv303x26 hS0 ?h303x26
                      case hv303x26 => intro u hSu; clear hSu; go_simp; (try with_reducible rfl)
                      (try simp only [Act.put, List.setIfInBounds_toArray, List.set_cons_zero, List.set_cons_succ])
                      refine regN_takeC [48, 47, 42, 34] (i := 26) (d := (some 44)) (v := ?v303x27) (l2 := #[true, true, true, true, true, true, true, true, true, true, true, true, true, true, true, true, true, true, true, true, true, true, true, true, true, true, true, false, false, false, false, false, false, false, false, false, false, false, false, false, false, false, false, false, false, false, false, false, false, false, false, false, false, false]) rfl rfl rfl (by kernel_rfl) (by kernel_rfl) (by kernel_rfl) (by kernel_rfl) (fun _ _ _ h => h) (by rfl) ?hv303x27 hS0 ?h303x27
                      case hv303x27 => intro u hSu; clear hSu; go_simp; (try with_reducible rfl)
                      (try simp only [Act.put, List.setIfInBounds_toArray, List.set_cons_zero, List.set_cons_succ])
                      refine regN_takeC [48, 47, 42, 34, 33, 32, 29, 28] (i := 27) (d := (some 45)) (v := ?v303x28) (l2 := #[true, true, true, true, true, true, true, true, true, true, true, true, true, true, true, true, true, true, true, true, true, true, true, true, true, true, true, true, false, false, false, false, false, false, false, false, false, false, false, false, false, false, false, false, false, false, false, false, false, false, false, false, false, false]) rfl rfl rfl (by kernel_rfl) (by kernel_rfl) (by kernel_rfl) (by kernel_rfl) (fun _ _ _ h => h) (by rfl) ?hv303x28 hS0 ?h303x28
                      case hv303x28 => intro u hSu; clear hSu; go_simp; (try with_reducible rfl)
                      (try simp only [Act.put, List.setIfInBounds_toArray, List.set_cons_zero, List.set_cons_succ])
                      refine regN_takeC [48, 47, 42, 34, 33, 32, 29] (i := 28) (d := (some 46)) (v := ?v303x29) (l2 := #[true, true, true, true, true, true, true, true, true, true, true, true, true, true, true, true, true, true, true, true, true, true, true, true, true, true, true, true, true, false, false, false, false, false, false, false, false, false, false, false, false, false, false, false, false, false, false, false, false, false, false, false, false, false]) rfl rfl rfl (by kernel_rfl) (by kernel_rfl) (by kernel_rfl) (by kernel_rfl) (fun _ _ _ h => h) (by rfl) ?hv303x29 hS0 ?h303x29
                      case hv303x29 => intro u hSu; have s0 := (Below.block hSu _ yr).trans RB2.out; have s1 := (Below.block hSu _ yb).trans XB.out; have s2 := (Below.block hSu _ yf).trans YB.out; obtain ⟨x0, x1, x2, x3, x4, x5⟩ := six_cells s0; obtain ⟨z0, z1, z2, z3⟩ := four_cellsS s1; obtain ⟨t0, t1, t2, _⟩ := three_cells s2; have n0 := lt_heap s0; have n1 := lt_heap s1; have n2 := lt_heap s2; have p0 := (Below.cell hSu (p := ⟨g, o + q * 4, none⟩) hgg).trans e0; clear s0 s1 s2; go_simp; (try with_reducible rfl)
                      (try simp only [Act.put, List.setIfInBounds_toArray, List.set_cons_zero, List.set_cons_succ])
                      refine regN_takeC [48, 47, 42, 34, 33, 32] (i := 29) (d := (some 47)) (v := ?v303x30) (l2 := #[true, true, true, true, true, true, true, true, true, true, true, true, true, true, true, true, true, true, true, true, true, true, true, true, true, true, true, true, true, true, false, false, false, false, false, false, false, false, false, false, false, false, false, false, false, false, false, false, false, false, false, false, false, false]) rfl rfl rfl (by kernel_rfl) (by kernel_rfl) (by kernel_rfl) (by kernel_rfl) (fun _ _ _ h => h) (by rfl) ?hv303x30 hS0 ?h303x30
                      case hv303x30 => intro u hSu; clear hSu; go_simp; (try with_reducible rfl)
                      (try simp only [Act.put, List.setIfInBounds_toArray, List.set_cons_zero, List.set_cons_succ])
                      refine regN_takeC [48, 47, 42, 34, 33, 32, 31] (i := 30) (d := (some 48)) (v := ?v303x31) (l2 := #[true, true, true, true, true, true, true, true, true, true, true, true, true, true, true, true, true, true, true, true, true, true, true, true, true, true, true, true, true, true, true, false, false, false, false, false, false, false, false, false, false, false, false, false, false, false, false, false, false, false, false, false, false, false]) rfl rfl rfl (by kernel_rfl) (by kernel_rfl) (by kernel_rfl) (by kernel_rfl) (fun _ _ _ h => h) (by rfl) ?hv303x31 hS0 ?h303x31
                      case hv303x31 => intro u hSu; clear hSu; go_simp; (try with_reducible rfl)
                      (try simp only [Act.put, List.setIfInBounds_toArray, List.set_cons_zero, List.set_cons_succ])
                      refine regN_takeC [48, 47, 42, 34, 33, 32] (i := 31) (d := (some 49)) (v := ?v303x32) (l2 := #[true, true, true, true, true, true, true, true, true, true, true, true, true, true, true, true, true, true, true, true, true, true, true, true, true, true, true, true, true, true, true, true, false, false, false, false, false, false, false, false, false, false, false, false, false, false, false, false, false, false, false, false, false, false]) rfl rfl rfl (by kernel_rfl) (by kernel_rfl) (by kernel_rfl) (by kernel_rfl) (fun _ _ _ h => h) (by rfl) ?hv303x32 hS0 ?h303x32
                      case hv303x32 => intro u hSu; have s0 := (Below.block hSu _ yr).trans RB2.out; have s1 := (Below.block hSu _ yb).trans XB.out; have s2 := (Below.block hSu _ yf).trans YB.out; obtain ⟨x0, x1, x2, x3, x4, x5⟩ := six_cells s0; obtain ⟨z0, z1, z2, z3⟩ := four_cellsS s1; obtain ⟨t0, t1, t2, _⟩ := three_cells s2; have n0 := lt_heap s0; have n1 := lt_heap s1; have n2 := lt_heap s2; have p0 := (Below.cell hSu (p := ⟨g, o + q * 4, none⟩) hgg).trans e0; clear s0 s1 s2; go_simp; (try with_reducible rfl)
                      (try simp only [Act.put, List.setIfInBounds_toArray, List.set_cons_zero, List.set_cons_succ])
                      refine regN_takeC [48, 47, 42, 34, 33] (i := 32) (d := (some 50)) (v := ?v303x33) (l2 := #[true, true, true, true, true, true, true, true, true, true, true, true, true, true, true, true, true, true, true, true, true, true, true, true, true, true, true, true, true, true, true, true, true, false, false, false, false, false, false, false, false, false, false, false, false, false, false, false, false, false, false, false, false, false]) rfl rfl rfl (by kernel_rfl) (by kernel_rfl) (by kernel_rfl) (by kernel_rfl) (fun _ _ _ h => h) (by rfl) ?hv303x33 hS0 ?h303x33
                      case hv303x33 => intro u hSu; clear hSu; go_simp; (try with_reducible rfl)
                      (try simp only [Act.put, List.setIfInBounds_toArray, List.set_cons_zero, List.set_cons_succ])
                      refine regN_takeC [48, 47, 42, 34] (i := 33) (d := (some 51)) (v := ?v303x34) (l2 := #[true, true, true, true, true, true, true, true, true, true, true, true, true, true, true, true, true, true, true, true, true, true, true, true, true, true, true, true, true, true, true, true, true, true, false, false, false, false, false, false, false, false, false, false, false, false, false, false, false, false, false, false, false, false]) rfl rfl rfl (by kernel_rfl) (by kernel_rfl) (by kernel_rfl) (by kernel_rfl) (fun _ _ _ h => h) (by rfl) ?hv303x34 hS0 ?h303x34
                      case hv303x34 => intro u hSu; clear hSu; go_simp; (try with_reducible rfl)
                      (try simp only [Act.put, List.setIfInBounds_toArray, List.set_cons_zero, List.set_cons_succ])
                      refine regN_takeC [48, 47, 42] (i := 34) (d := (some 52)) (v := ?v303x35) (l2 := #[true, true, true, true, true, true, true, true, true, true, true, true, true, true, true, true, true, true, true, true, true, true, true, true, true, true, true, true, true, true, true, true, true, true, true, false, false, false, false, false, false, false, false, false, false, false, false, false, false, false, false, false, false, false]) rfl rfl rfl (by kernel_rfl) (by kernel_rfl) (by kernel_rfl) (by kernel_rfl) (fun _ _ _ h => h) (by rfl) ?hv303x35 hS0 ?h303x35
                      case hv303x35 => intro u hSu; clear hSu; go_simp; (try with_reducible rfl)
                      (try simp only [Act.put, List.setIfInBounds_toArray, List.set_cons_zero, List.set_cons_succ])
                      refine regN_takeC [48, 47, 42, 41, 40, 37, 36] (i := 35) (d := (some 53)) (v := ?v303x36) (l2 := #[true, true, true, true, true, true, true, true, true, true, true, true, true, true, true, true, true, true, true, true, true, true, true, true, true, true, true, true, true, true, true, true, true, true, true, true, false, false, false, false, false, false, false, false, false, false, false, false, false, false, false, false, false, false]) rfl rfl rfl (by kernel_rfl) (by kernel_rfl) (by kernel_rfl) (by kernel_rfl) (fun _ _ _ h => h) (by rfl) ?hv303x36 hS0 ?h303x36
                      case hv303x36 => intro u hSu; clear hSu; go_simp; (try with_reducible rfl)
                      (try simp only [Act.put, List.setIfInBounds_toArray, List.set_cons_zero, List.set_cons_succ])
                      refine regN_takeC [48, 47, 42, 41, 40, 37] (i := 36) (d := (some 54)) (v := ?v303x37) (l2 := #[true, true, true, true, true, true, true, true, true, true, true, true, true, true, true, true, true, true, true, true, true, true, true, true, true, true, true, true, true, true, true, true, true, true, true, true, true, false, false, false, false, false, false, false, false, false, false, false, false, false, false, false, false, false]) rfl rfl rfl (by kernel_rfl) (by kernel_rfl) (by kernel_rfl) (by kernel_rfl) (fun _ _ _ h => h) (by rfl) ?hv303x37 hS0 ?h303x37
                      case hv303x37 => intro u hSu; have s0 := (Below.block hSu _ yr).trans RB2.out; have s1 := (Below.block hSu _ yb).trans XB.out; have s2 := (Below.block hSu _ yf).trans YB.out; obtain ⟨x0, x1, x2, x3, x4, x5⟩ := six_cells s0; obtain ⟨z0, z1, z2, z3⟩ := four_cellsS s1; obtain ⟨t0, t1, t2, _⟩ := three_cells s2; have n0 := lt_heap s0; have n1 := lt_heap s1; have n2 := lt_heap s2; have p0 := (Below.cell hSu (p := ⟨g, o + q * 4, none⟩) hgg).trans e0; clear s0 s1 s2; go_simp; (try with_reducible rfl)
                      (try simp only [Act.put, List.setIfInBounds_toArray, List.set_cons_zero, List.set_cons_succ])
                      refine regN_takeC [48, 47, 42, 41, 40] (i := 37) (d := (some 55)) (v := ?v303x38) (l2 := #[true, true, true, true, true, true, true, true, true, true, true, true, true, true, true, true, true, true, true, true, true, true, true, true, true, true, true, true, true, true, true, true, true, true, true, true, true, true, false, false, false, false, false, false, false, false, false, false, false, false, false, false, false, false]) rfl rfl rfl (by kernel_rfl) (by kernel_rfl) (by kernel_rfl) (by kernel_rfl) (fun _ _ _ h => h) (by rfl) ?hv303x38 hS0 ?h303x38
                      case hv303x38 => intro u hSu; clear hSu; go_simp; (try with_reducible rfl)
                      (try simp only [Act.put, List.setIfInBounds_toArray, List.set_cons_zero, List.set_cons_succ])
                      refine regN_takeC [48, 47, 42, 41, 40, 39] (i := 38) (d := (some 56)) (v := ?v303x39) (l2 := #[true, true, true, true, true, true, true, true, true, true, true, true, true, true, true, true, true, true, true, true, true, true, true, true, true, true, true, true, true, true, true, true, true, true, true, true, true, true, true, false, false, false, false, false, false, false, false, false, false, false, false, false, false, false]) rfl rfl rfl (by kernel_rfl) (by kernel_rfl) (by kernel_rfl) (by kernel_rfl) (fun _ _ _ h => h) (by rfl) ?hv303x39 hS0 ?h303x39
                      case hv303x39 => intro u hSu; clear hSu; go_simp; (try with_reducible rfl)
                      (try simp only [Act.put, List.setIfInBounds_toArray, List.set_cons_zero, List.set_cons_succ])
                      refine regN_takeC [48, 47, 42, 41, 40] (i := 39) (d := (some 57)) (v := ?v303x40) (l2 := #[true, true, true, true, true, true, true, true, true, true, true, true, true, true, true, true, true, true, true, true, true, true, true, true, true, true, true, true, true, true, true, true, true, true, true, true, true, true, true, true, false, false, false, false, false, false, false, false, false, false, false, false, false, false]) rfl rfl rfl (by kernel_rfl) (by kernel_rfl) (by kernel_rfl) (by kernel_rfl) (fun _ _ _ h => h) (by rfl) ?hv303x40 hS0 ?h303x40
                      case hv303x40 => intro u hSu; have s0 := (Below.block hSu _ yr).trans RB2.out; have s1 := (Below.block hSu _ yb).trans XB.out; have s2 := (Below.block hSu _ yf).trans YB.out; obtain ⟨x0, x1, x2, x3, x4, x5⟩ := six_cells s0; obtain ⟨z0, z1, z2, z3⟩ := four_cellsS s1; obtain ⟨t0, t1, t2, _⟩ := three_cells s2; have n0 := lt_heap s0; have n1 := lt_heap s1; have n2 := lt_heap s2; have p0 := (Below.cell hSu (p := ⟨g, o + q * 4, none⟩) hgg).trans e0; clear s0 s1 s2; go_simp; (try with_reducible rfl)
                      (try simp only [Act.put, List.setIfInBounds_toArray, List.set_cons_zero, List.set_cons_succ])
                      refine regN_takeC [48, 47, 42, 41] (i := 40) (d := (some 58)) (v := ?v303x41) (l2 := #[true, true, true, true, true, true, true, true, true, true, true, true, true, true, true, true, true, true, true, true, true, true, true, true, true, true, true, true, true, true, true, true, true, true, true, true, true, true, true, true, true, false, false, false, false, false, false, false, false, false, false, false, false, false]) rfl rfl rfl (by kernel_rfl) (by kernel_rfl) (by kernel_rfl) (by kernel_rfl) (fun _ _ _ h => h) (by rfl) ?hv303x41 hS0 ?h303x41
                      case hv303x41 => intro u hSu; clear hSu; go_simp; (try with_reducible rfl)
                      (try simp only [Act.put, List.setIfInBounds_toArray, List.set_cons_zero, List.set_cons_succ])
                      refine regN_takeC [48, 47, 42] (i := 41) (d := (some 59)) (v := ?v303x42) (l2 := #[true, true, true, true, true, true, true, true, true, true, true, true, true, true, true, true, true, true, true, true, true, true, true, true, true, true, true, true, true, true, true, true, true, true, true, true, true, true, true, true, true, true, false, false, false, false, false, false, false, false, false, false, false, false]) rfl rfl rfl (by kernel_rfl) (by kernel_rfl) (by kernel_rfl) (by kernel_rfl) (fun _ _ _ h => h) (by rfl) ?hv303x42 hS0 ?h303x42
                      case hv303x42 => intro u hSu; clear hSu; go_simp; (try with_reducible rfl)
                      (try simp only [Act.put, List.setIfInBounds_toArray, List.set_cons_zero, List.set_cons_succ])
                      refine regN_takeC [48, 47] (i := 42) (d := (some 60)) (v := ?v303x43) (l2 := #[true, true, true, true, true, true, true, true, true, true, true, true, true, true, true, true, true, true, true, true, true, true, true, true, true, true, true, true, true, true, true, true, true, true, true, true, true, true, true, true, true, true, true, false, false, false, false, false, false, false, false, false, false, false]) rfl rfl rfl (by kernel_rfl) (by kernel_rfl) (by kernel_rfl) (by kernel_rfl) (fun _ _ _ h => h) (by rfl) ?hv303x43 hS0 ?h303x43
                      case hv303x43 => intro u hSu; clear hSu; go_simp; (try with_reducible rfl)
                      (try simp only [Act.put, List.setIfInBounds_toArray, List.set_cons_zero, List.set_cons_succ])
                      refine regN_takeC [48, 46, 44] (i := 43) (d := (some 61)) (v := ?v303x44) (l2 := #[true, true, true, true, true, true, true, true, true, true, true, true, true, true, true, true, true, true, true, true, true, true, true, true, true, true, true, true, true, true, true, true, true, true, true, true, true, true, true, true, true, true, true, true, false, false, false, false, false, false, false, false, false, false]) rfl rfl rfl (by kernel_rfl) (by kernel_rfl) (by kernel_rfl) (by kernel_rfl) (fun _ _ _ h => h) (by rfl) ?hv303x44 hS0 ?h303x44
                      case hv303x44 => intro u hSu; clear hSu; go_simp; (try with_reducible rfl)
                      (try simp only [Act.put, List.setIfInBounds_toArray, List.set_cons_zero, List.set_cons_succ])
                      refine regN_takeC [48, 46] (i := 44) (d := (some 62)) (v := ?v303x45) (l2 := #[true, true, true, true, true, true, true, true, true, true, true, true, true, true, true, true, true, true, true, true, true, true, true, true, true, true, true, true, true, true, true, true, true, true, true, true, true, true, true, true, true, true, true, true, true, false, false, false, false, false, false, false, false, false]) rfl rfl rfl (by kernel_rfl) (by kernel_rfl) (by kernel_rfl) (by kernel_rfl) (fun _ _ _ h => h) (by rfl) ?hv303x45 hS0 ?h303x45
                      case hv303x45 => intro u hSu; have s0 := (Below.block hSu _ yr).trans RB2.out; have s1 := (Below.block hSu _ yb).trans XB.out; have s2 := (Below.block hSu _ yf).trans YB.out; obtain ⟨x0, x1, x2, x3, x4, x5⟩ := six_cells s0; obtain ⟨z0, z1, z2, z3⟩ := four_cellsS s1; obtain ⟨t0, t1, t2, _⟩ := three_cells s2; have n0 := lt_heap s0; have n1 := lt_heap s1; have n2 := lt_heap s2; have p0 := (Below.cell hSu (p := ⟨g, o + q * 4, none⟩) hgg).trans e0; clear s0 s1 s2; go_simp; (try with_reducible rfl)
                      (try simp only [Act.put, List.setIfInBounds_toArray, List.set_cons_zero, List.set_cons_succ])
                      refine regN_takeC [48, 46] (i := 45) (d := (some 63)) (v := ?v303x46) (l2 := #[true, true, true, true, true, true, true, true, true, true, true, true, true, true, true, true, true, true, true, true, true, true, true, true, true, true, true, true, true, true, true, true, true, true, true, true, true, true, true, true, true, true, true, true, true, true, false, false, false, false, false, false, false, false]) rfl rfl rfl (by kernel_rfl) (by kernel_rfl) (by kernel_rfl) (by kernel_rfl) (fun _ _ _ h => h) (by rfl) ?hv303x46 hS0 ?h303x46
                      case hv303x46 => intro u hSu; clear hSu; go_simp; (try with_reducible rfl)
                      (try simp only [Act.put, List.setIfInBounds_toArray, List.set_cons_zero, List.set_cons_succ])
                      refine regN_ready (rs := [46]) (by kernel_rfl) (by simp) ?_
                      refine (AllN.cons (i := 46) (l2 := #[true, true, true, true, true, true, true, true, true, true, true, true, true, true, true, true, true, true, true, true, true, true, true, true, true, true, true, true, true, true, true, true, true, true, true, true, true, true, true, true, true, true, true, true, true, true, true, false, false, false, false, false, false, false]) rfl rfl (fun K hK => ?_) AllN.nil)
                      go_simp
                      go_at_call 57
                      (with_reducible refine (K1.out _ (Below.refl _ _).drew).mono ?_)
                      rintro e w10 ⟨rfl, hb10⟩
                      have HBN := Lib.hid (below_on (show Below W2.heap.size W2 _ from (Below.refl _ _).drew) hb10)
                      clear hb10
                      go_simp
                      have hS1 : ((fun W' : World => Below W2.heap.size W2 W') : World → Prop) _ := (show (fun W' : World => Below W2.heap.size W2 W') _ from HBN.out)
                      refine hK _ _ (fun _ => hS1) ?_
                      clear hK K
                      (try simp only [Act.put, List.setIfInBounds_toArray, List.set_cons_zero, List.set_cons_succ])
                      refine regN_takeC [48] (i := 47) (d := (some 65)) (v := ?v303x47) (l2 := #[true, true, true, true, true, true, true, true, true, true, true, true, true, true, true, true, true, true, true, true, true, true, true, true, true, true, true, true, true, true, true, true, true, true, true, true, true, true, true, true, true, true, true, true, true, true, true, true, false, false, false, false, false, false]) rfl rfl rfl (by kernel_rfl) (by kernel_rfl) (by kernel_rfl) (by kernel_rfl) (fun _ _ _ h => h) (by rfl) ?hv303x47 hS1 ?h303x47
                      case hv303x47 => intro u hSu; clear hSu; go_simp; (try with_reducible rfl)
                      (try simp only [Act.put, List.setIfInBounds_toArray, List.set_cons_zero, List.set_cons_succ])
                      refine regN_take (i := 48) (d := (some 66)) (v := ?v303x48) (l2 := #[true, true, true, true, true, true, true, true, true, true, true, true, true, true, true, true, true, true, true, true, true, true, true, true, true, true, true, true, true, true, true, true, true, true, true, true, true, true, true, true, true, true, true, true, true, true, true, true, true, false, false, false, false, false]) rfl rfl rfl (by kernel_rfl) (by kernel_rfl) (by kernel_rfl) (by kernel_rfl) (fun _ _ _ h => h) (by rfl) ?hv303x48 hS1 ?h303x48
                      case hv303x48 => intro u hSu; clear hSu; go_simp; (try with_reducible rfl)
                      (try simp only [Act.put, List.setIfInBounds_toArray, List.set_cons_zero, List.set_cons_succ])
                      refine regN_skipC [52, 50] (i := 49) (d := (some 67)) (l2 := #[true, true, true, true, true, true, true, true, true, true, true, true, true, true, true, true, true, true, true, true, true, true, true, true, true, true, true, true, true, true, true, true, true, true, true, true, true, true, true, true, true, true, true, true, true, true, true, true, true, true, false, false, false, false]) rfl rfl rfl (by kernel_rfl) (by kernel_rfl) (by kernel_rfl) (by kernel_rfl) (fun _ _ _ h => h) (by rfl) hS1 ?_
                      (try simp only [Act.put, List.setIfInBounds_toArray, List.set_cons_zero, List.set_cons_succ])
                      refine regN_skipC [52] (i := 50) (d := (some 68)) (l2 := #[true, true, true, true, true, true, true, true, true, true, true, true, true, true, true, true, true, true, true, true, true, true, true, true, true, true, true, true, true, true, true, true, true, true, true, true, true, true, true, true, true, true, true, true, true, true, true, true, true, true, true, false, false, false]) rfl rfl rfl (by kernel_rfl) (by kernel_rfl) (by kernel_rfl) (by kernel_rfl) (fun _ _ _ h => h) (by rfl) hS1 ?_
                      (try simp only [Act.put, List.setIfInBounds_toArray, List.set_cons_zero, List.set_cons_succ])
                      refine regN_skipC [52] (i := 51) (d := (some 69)) (l2 := #[true, true, true, true, true, true, true, true, true, true, true, true, true, true, true, true, true, true, true, true, true, true, true, true, true, true, true, true, true, true, true, true, true, true, true, true, true, true, true, true, true, true, true, true, true, true, true, true, true, true, true, true, false, false]) rfl rfl rfl (by kernel_rfl) (by kernel_rfl) (by kernel_rfl) (by kernel_rfl) (fun _ _ _ h => h) (by rfl) hS1 ?_
                      (try simp only [Act.put, List.setIfInBounds_toArray, List.set_cons_zero, List.set_cons_succ])
                      refine regN_skip (i := 52) (d := (some 70)) (l2 := #[true, true, true, true, true, true, true, true, true, true, true, true, true, true, true, true, true, true, true, true, true, true, true, true, true, true, true, true, true, true, true, true, true, true, true, true, true, true, true, true, true, true, true, true, true, true, true, true, true, true, true, true, true, false]) rfl rfl rfl (by kernel_rfl) (by kernel_rfl) (by kernel_rfl) (by kernel_rfl) (fun _ _ _ h => h) (by rfl) hS1 ?_
                      (try simp only [Act.put, List.setIfInBounds_toArray, List.set_cons_zero, List.set_cons_succ])
                      refine regN_ready (rs := [53]) (by kernel_rfl) (by simp) ?_
                      refine (AllN.cons (i := 53) (l2 := #[true, true, true, true, true, true, true, true, true, true, true, true, true, true, true, true, true, true, true, true, true, true, true, true, true, true, true, true, true, true, true, true, true, true, true, true, true, true, true, true, true, true, true, true, true, true, true, true, true, true, true, true, true, true]) rfl rfl (fun K hK => ?_) AllN.nil)
                      go_simp
                      refine hK _ _ (fun h => absurd rfl h) ?_
                      clear hK K
                      (try simp only [Act.put, List.setIfInBounds_toArray, List.set_cons_zero, List.set_cons_succ])
                      refine regN_done (by kernel_rfl) ?_ _
                      go_wp2
                      go_ret
                      exact ⟨by rw [← HE.out, H.out]; rfl, below_on HB.out (below_on HBR2.out HBN.out)⟩
                    | false =>
                      refine regN_start (N := 53) (S := (fun W' : World => Below W2.heap.size W2 W')) (by kernel_rfl) ?_
                      change wpAnyN _ _ _ _ _ _ _ #[false, false, false, false, false, false, false, false, false, false, false, false, false, false, false, false, false, false, false, false, false, false, false, false, false, false, false, false, false, false, false, false, false, false, false, false, false, false, false, false, false, false, false, false, false, false, false, false, false, false, false, false, false, false] _ (World.drew _)
                      have hS0 := (show (fun W' : World => Below W2.heap.size W2 W') W2.drew from (Below.refl _ _).drew)
                      refine regN_takeC [48, 47, 42, 34, 26, 18, 13, 2, 1] (i := 0) (d := (some 18)) (v := ?v304x1) (l2 := #[true, false, false, false, false, false, false, false, false, false, false, false, false, false, false, false, false, false, false, false, false, false, false, false, false, false, false, false, false, false, false, false, false, false, false, false, false, false, false, false, false, false, false, false, false, false, false, false, false, false, false, false, false, false]) rfl rfl rfl (by kernel_rfl) (by kernel_rfl) (by kernel_rfl) (by kernel_rfl) (fun _ _ _ h => h) (by rfl) ?hv304x1 hS0 ?h304x1
                      case hv304x1 => intro u hSu; clear hSu; go_simp; (try with_reducible rfl)
                      (try simp only [Act.put, List.setIfInBounds_toArray, List.set_cons_zero, List.set_cons_succ])
                      refine regN_takeC [48, 47, 42, 34, 26, 18, 13, 2] (i := 1) (d := (some 19)) (v := ?v304x2) (l2 := #[true, true, false, false, false, false, false, false, false, false, false, false, false, false, false, false, false, false, false, false, false, false, false, false, false, false, false, false, false, false, false, false, false, false, false, false, false, false, false, false, false, false, false, false, false, false, false, false, false, false, false, false, false, false]) rfl rfl rfl (by kernel_rfl) (by kernel_rfl) (by kernel_rfl) (by kernel_rfl) (fun _ _ _ h => h) (by rfl) ?hv304x2 hS0 ?h304x2
                      case hv304x2 => intro u hSu; clear hSu; go_simp; (try with_reducible rfl)
                      (try simp only [Act.put, List.setIfInBounds_toArray, List.set_cons_zero, List.set_cons_succ])
                      refine regN_takeC [48, 47, 42, 34, 26, 18, 13] (i := 2) (d := (some 20)) (v := ?v304x3) (l2 := #[true, true, true, false, false, false, false, false, false, false, false, false, false, false, false, false, false, false, false, false, false, false, false, false, false, false, false, false, false, false, false, false, false, false, false, false, false, false, false, false, false, false, false, false, false, false, false, false, false, false, false, false, false, false]) rfl rfl rfl (by kernel_rfl) (by kernel_rfl) (by kernel_rfl) (by kernel_rfl) (fun _ _ _ h => h) (by rfl) ?hv304x3 hS0 ?h304x3
                      case hv304x3 => intro u hSu; clear hSu; go_simp; (try with_reducible rfl)
                      (try simp only [Act.put, List.setIfInBounds_toArray, List.set_cons_zero, List.set_cons_succ])
                      refine regN_takeC [48, 47, 42, 34, 26, 18, 13, 12, 11, 4] (i := 3) (d := (some 21)) (v := ?v304x4) (l2 := #[true, true, true, true, false, false, false, false, false, false, false, false, false, false, false, false, false, false, false, false, false, false, false, false, false, false, false, false, false, false, false, false, false, false, false, false, false, false, false, false, false, false, false, false, false, false, false, false, false, false, false, false, false, false]) rfl rfl rfl (by kernel_rfl) (by kernel_rfl) (by kernel_rfl) (by kernel_rfl) (fun _ _ _ h => h) (by rfl) ?hv304x4 hS0 ?h304x4
                      case hv304x4 => intro u hSu; clear hSu; go_simp; (try with_reducible rfl)
                      (try simp only [Act.put, List.setIfInBounds_toArray, List.set_cons_zero, List.set_cons_succ])
                      refine regN_takeC [48, 47, 42, 34, 26, 18, 13, 12, 11] (i := 4) (d := (some 22)) (v := ?v304x5) (l2 := #[true, true, true, true, true, false, false, false, false, false, false, false, false, false, false, false, false, false, false, false, false, false, false, false, false, false, false, false, false, false, false, false, false, false, false, false, false, false, false, false, false, false, false, false, false, false, false, false, false, false, false, false, false, false]) rfl rfl rfl (by kernel_rfl) (by kernel_rfl) (by kernel_rfl) (by kernel_rfl) (fun _ _ _ h => h) (by rfl) ?hv304x5 hS0 ?h304x5
                      case hv304x5 => intro u hSu; have s0 := (Below.block hSu _ yr).trans RB2.out; have s1 := (Below.block hSu _ yb).trans XB.out; have s2 := (Below.block hSu _ yf).trans YB.out; obtain ⟨x0, x1, x2, x3, x4, x5⟩ := six_cells s0; obtain ⟨z0, z1, z2, z3⟩ := four_cellsS s1; obtain ⟨t0, t1, t2, _⟩ := three_cells s2; have n0 := lt_heap s0; have n1 := lt_heap s1; have n2 := lt_heap s2; have p0 := (Below.cell hSu (p := ⟨g, o + q * 4, none⟩) hgg).trans e0; clear s0 s1 s2; go_simp; (try with_reducible rfl)
                      (try simp only [Act.put, List.setIfInBounds_toArray, List.set_cons_zero, List.set_cons_succ])
                      refine regN_takeC [48, 47, 42, 34, 26, 18, 13, 12, 11, 10, 9, 8] (i := 5) (d := (some 23)) (v := ?v304x6) (l2 := #[true, true, true, true, true, true, false, false, false, false, false, false, false, false, false, false, false, false, false, false, false, false, false, false, false, false, false, false, false, false, false, false, false, false, false, false, false, false, false, false, false, false, false, false, false, false, false, false, false, false, false, false, false, false]) rfl rfl rfl (by kernel_rfl) (by kernel_rfl) (by kernel_rfl) (by kernel_rfl) (fun _ _ _ h => h) (by rfl) ?hv304x6 hS0 ?h304x6
                      case hv304x6 => intro u hSu; clear hSu; go_simp; (try with_reducible rfl)
                      (try simp only [Act.put, List.setIfInBounds_toArray, List.set_cons_zero, List.set_cons_succ])
                      refine regN_takeC [48, 47, 42, 34, 26, 18, 13, 12, 11, 10, 9, 8, 7] (i := 6) (d := (some 24)) (v := ?v304x7) (l2 := #[true, true, true, true, true, true, true, false, false, false, false, false, false, false, false, false, false, false, false, false, false, false, false, false, false, false, false, false, false, false, false, false, false, false, false, false, false, false, false, false, false, false, false, false, false, false, false, false, false, false, false, false, false, false]) rfl rfl rfl (by kernel_rfl) (by kernel_rfl) (by kernel_rfl) (by kernel_rfl) (fun _ _ _ h => h) (by rfl) ?hv304x7 hS0 ?h304x7
                      case hv304x7 => intro u hSu; clear hSu; go_simp; (try with_reducible rfl)
                      (try simp only [Act.put, List.setIfInBounds_toArray, List.set_cons_zero, List.set_cons_succ])
                      refine regN_takeC [48, 47, 42, 34, 26, 18, 13, 12, 11, 10, 9, 8] (i := 7) (d := (some 25)) (v := ?v304x8) (l2 := #[true, true, true, true, true, true, true, true, false, false, false, false, false, false, false, false, false, false, false, false, false, false, false, false, false, false, false, false, false, false, false, false, false, false, false, false, false, false, false, false, false, false, false, false, false, false, false, false, false, false, false, false, false, false]) rfl rfl rfl (by kernel_rfl) (by kernel_rfl) (by kernel_rfl) (by kernel_rfl) (fun _ _ _ h => h) (by rfl) ?hv304x8 hS0 ?h304x8
                      case hv304x8 => intro u hSu; clear hSu; go_simp; (try with_reducible rfl)
                      (try simp only [Act.put, List.setIfInBounds_toArray, List.set_cons_zero, List.set_cons_succ])
                      refine regN_takeC [48, 47, 42, 34, 26, 18, 13, 12, 11, 10, 9] (i := 8) (d := (some 26)) (v := ?v304x9) (l2 := #[true, true, true, true, true, true, true, true, true, false, false, false, false, false, false, false, false, false, false, false, false, false, false, false, false, false, false, false, false, false, false, false, false, false, false, false, false, false, false, false, false, false, false, false, false, false, false, false, false, false, false, false, false, false]) rfl rfl rfl (by kernel_rfl) (by kernel_rfl) (by kernel_rfl) (by kernel_rfl) (fun _ _ _ h => h) (by rfl) ?hv304x9 hS0 ?h304x9
                      case hv304x9 => intro u hSu; clear hSu; go_simp; (try with_reducible rfl)
                      (try simp only [Act.put, List.setIfInBounds_toArray, List.set_cons_zero, List.set_cons_succ])
                      refine regN_takeC [48, 47, 42, 34, 26, 18, 13, 12, 11, 10] (i := 9) (d := (some 27)) (v := ?v304x10) (l2 := #[true, true, true, true, true, true, true, true, true, true, false, false, false, false, false, false, false, false, false, false, false, false, false, false, false, false, false, false, false, false, false, false, false, false, false, false, false, false, false, false, false, false, false, false, false, false, false, false, false, false, false, false, false, false]) rfl rfl rfl (by kernel_rfl) (by kernel_rfl) (by kernel_rfl) (by kernel_rfl) (fun _ _ _ h => h) (by rfl) ?hv304x10 hS0 ?h304x10
                      case hv304x10 => intro u hSu; clear hSu; go_simp; (try with_reducible rfl)
                      (try simp only [Act.put, List.setIfInBounds_toArray, List.set_cons_zero, List.set_cons_succ])
                      refine regN_takeC [48, 47, 42, 34, 26, 18, 13, 12, 11] (i := 10) (d := (some 28)) (v := ?v304x11) (l2 := #[true, true, true, true, true, true, true, true, true, true, true, false, false, false, false, false, false, false, false, false, false, false, false, false, false, false, false, false, false, false, false, false, false, false, false, false, false, false, false, false, false, false, false, false, false, false, false, false, false, false, false, false, false, false]) rfl rfl rfl (by kernel_rfl) (by kernel_rfl) (by kernel_rfl) (by kernel_rfl) (fun _ _ _ h => h) (by rfl) ?hv304x11 hS0 ?h304x11
                      case hv304x11 => intro u hSu; have s0 := (Below.block hSu _ yr).trans RB2.out; have s1 := (Below.block hSu _ yb).trans XB.out; have s2 := (Below.block hSu _ yf).trans YB.out; obtain ⟨x0, x1, x2, x3, x4, x5⟩ := six_cells s0; obtain ⟨z0, z1, z2, z3⟩ := four_cellsS s1; obtain ⟨t0, t1, t2, _⟩ := three_cells s2; have n0 := lt_heap s0; have n1 := lt_heap s1; have n2 := lt_heap s2; have p0 := (Below.cell hSu (p := ⟨g, o + q * 4, none⟩) hgg).trans e0; clear s0 s1 s2; go_simp; (try with_reducible rfl)
                      (try simp only [Act.put, List.setIfInBounds_toArray, List.set_cons_zero, List.set_cons_succ])
                      refine regN_takeC [48, 47, 42, 34, 26, 18, 13, 12] (i := 11) (d := (some 29)) (v := ?v304x12) (l2 := #[true, true, true, true, true, true, true, true, true, true, true, true, false, false, false, false, false, false, false, false, false, false, false, false, false, false, false, false, false, false, false, false, false, false, false, false, false, false, false, false, false, false, false, false, false, false, false, false, false, false, false, false, false, false]) rfl rfl rfl (by kernel_rfl) (by kernel_rfl) (by kernel_rfl) (by kernel_rfl) (fun _ _ _ h => h) (by rfl) ?hv304x12 hS0 ?h304x12
                      case hv304x12 => intro u hSu; clear hSu; go_simp; (try with_reducible rfl)
                      (try simp only [Act.put, List.setIfInBounds_toArray, List.set_cons_zero, List.set_cons_succ])
                      refine regN_takeC [48, 47, 42, 34, 26, 18, 13] (i := 12) (d := (some 30)) (v := ?v304x13) (l2 := #[true, true, true, true, true, true, true, true, true, true, true, true, true, false, false, false, false, false, false, false, false, false, false, false, false, false, false, false, false, false, false, false, false, false, false, false, false, false, false, false, false, false, false, false, false, false, false, false, false, false, false, false, false, false]) rfl rfl rfl (by kernel_rfl) (by kernel_rfl) (by kernel_rfl) (by kernel_rfl) (fun _ _ _ h => h) (by rfl) ?hv304x13 hS0 ?h304x13
                      case hv304x13 => intro u hSu; clear hSu; go_simp; (try with_reducible rfl)
                      (try simp only [Act.put, List.setIfInBounds_toArray, List.set_cons_zero, List.set_cons_succ])
                      refine regN_takeC [48, 47, 42, 34, 26, 18] (i := 13) (d := (some 31)) (v := ?v304x14) (l2 := #[true, true, true, true, true, true, true, true, true, true, true, true, true, true, false, false, false, false, false, false, false, false, false, false, false, false, false, false, false, false, false, false, false, false, false, false, false, false, false, false, false, false, false, false, false, false, false, false, false, false, false, false, false, false]) rfl rfl rfl (by kernel_rfl) (by kernel_rfl) (by kernel_rfl) (by kernel_rfl) (fun _ _ _ h => h) (by rfl) ?hv304x14 hS0 ?h304x14
                      case hv304x14 => intro u hSu; clear hSu; go_simp; (try with_reducible rfl)
                      (try simp only [Act.put, List.setIfInBounds_toArray, List.set_cons_zero, List.set_cons_succ])
                      refine regN_takeC [48, 47, 42, 34, 26, 18, 17, 16, 15] (i := 14) (d := (some 32)) (v := ?v304x15) (l2 := #[true, true, true, true, true, true, true, true, true, true, true, true, true, true, true, false, false, false, false, false, false, false, false, false, false, false, false, false, false, false, false, false, false, false, false, false, false, false, false, false, false, false, false, false, false, false, false, false, false, false, false, false, false, false]) rfl rfl rfl (by kernel_rfl) (by kernel_rfl) (by kernel_rfl) (by kernel_rfl) (fun _ _ _ h => h) (by rfl) ?hv304x15 hS0 ?h304x15
                      case hv304x15 => intro u hSu; clear hSu; go_simp; (try with_reducible rfl)
                      (try simp only [Act.put, List.setIfInBounds_toArray, List.set_cons_zero, List.set_cons_succ])
                      refine regN_takeC [48, 47, 42, 34, 26, 18, 17, 16] (i := 15) (d := (some 33)) (v := ?v304x16) (l2 := #[true, true, true, true, true, true, true, true, true, true, true, true, true, true, true, true, false, false, false, false, false, false, false, false, false, false, false, false, false, false, false, false, false, false, false, false, false, false, false, false, false, false, false, false, false, false, false, false, false, false, false, false, false, false]) rfl rfl rfl (by kernel_rfl) (by kernel_rfl) (by kernel_rfl) (by kernel_rfl) (fun _ _ _ h => h) (by rfl) ?hv304x16 hS0 ?h304x16
                      case hv304x16 => intro u hSu; have s0 := (Below.block hSu _ yr).trans RB2.out; have s1 := (Below.block hSu _ yb).trans XB.out; have s2 := (Below.block hSu _ yf).trans YB.out; obtain ⟨x0, x1, x2, x3, x4, x5⟩ := six_cells s0; obtain ⟨z0, z1, z2, z3⟩ := four_cellsS s1; obtain ⟨t0, t1, t2, _⟩ := three_cells s2; have n0 := lt_heap s0; have n1 := lt_heap s1; have n2 := lt_heap s2; have p0 := (Below.cell hSu (p := ⟨g, o + q * 4, none⟩) hgg).trans e0; clear s0 s1 s2; go_simp; (try with_reducible rfl)
                      (try simp only [Act.put, List.setIfInBounds_toArray, List.set_cons_zero, List.set_cons_succ])
                      refine regN_takeC [48, 47, 42, 34, 26, 18, 17] (i := 16) (d := (some 34)) (v := ?v304x17) (l2 := #[true, true, true, true, true, true, true, true, true, true, true, true, true, true, true, true, true, false, false, false, false, false, false, false, false, false, false, false, false, false, false, false, false, false, false, false, false, false, false, false, false, false, false, false, false, false, false, false, false, false, false, false, false, false]) rfl rfl rfl (by kernel_rfl) (by kernel_rfl) (by kernel_rfl) (by kernel_rfl) (fun _ _ _ h => h) (by rfl) ?hv304x17 hS0 ?h304x17
                      case hv304x17 => intro u hSu; clear hSu; go_simp; (try with_reducible rfl)
                      (try simp only [Act.put, List.setIfInBounds_toArray, List.set_cons_zero, List.set_cons_succ])
                      refine regN_takeC [48, 47, 42, 34, 26, 18] (i := 17) (d := (some 35)) (v := ?v304x18) (l2 := #[true, true, true, true, true, true, true, true, true, true, true, true, true, true, true, true, true, true, false, false, false, false, false, false, false, false, false, false, false, false, false, false, false, false, false, false, false, false, false, false, false, false, false, false, false, false, false, false, false, false, false, false, false, false]) rfl rfl rfl (by kernel_rfl) (by kernel_rfl) (by kernel_rfl) (by kernel_rfl) (fun _ _ _ h => h) (by rfl) ?hv304x18 hS0 ?h304x18
                      case hv304x18 => intro u hSu; clear hSu; go_simp; (try with_reducible rfl)
                      (try simp only [Act.put, List.setIfInBounds_toArray, List.set_cons_zero, List.set_cons_succ])
                      refine regN_takeC [48, 47, 42, 34, 26] (i := 18) (d := (some 36)) (v := ?v304x19) (l2 := #[true, true, true, true, true, true, true, true, true, true, true, true, true, true, true, true, true, true, true, false, false, false, false, false, false, false, false, false, false, false, false, false, false, false, false, false, false, false, false, false, false, false, false, false, false, false, false, false, false, false, false, false, false, false]) rfl rfl rfl (by kernel_rfl) (by kernel_rfl) (by kernel_rfl) (by kernel_rfl) (fun _ _ _ h => h) (by rfl) ?hv304x19 hS0 ?h304x19
                      case hv304x19 => intro u hSu; clear hSu; go_simp; (try with_reducible rfl)
                      (try simp only [Act.put, List.setIfInBounds_toArray, List.set_cons_zero, List.set_cons_succ])
                      refine regN_takeC [48, 47, 42, 34, 26, 25, 24, 20] (i := 19) (d := (some 37)) (v := ?v304x20) (l2 := #[true, true, true, true, true, true, true, true, true, true, true, true, true, true, true, true, true, true, true, true, false, false, false, false, false, false, false, false, false, false, false, false, false, false, false, false, false, false, false, false, false, false, false, false, false, false, false, false, false, false, false, false, false, false]) rfl rfl rfl (by kernel_rfl) (by kernel_rfl) (by kernel_rfl) (by kernel_rfl) (fun _ _ _ h => h) (by rfl) ?hv304x20 hS0 ?h304x20
                      case hv304x20 => intro u hSu; clear hSu; go_simp; (try with_reducible rfl)
                      (try simp only [Act.put, List.setIfInBounds_toArray, List.set_cons_zero, List.set_cons_succ])
                      refine regN_takeC [48, 47, 42, 34, 26, 25, 24] (i := 20) (d := (some 38)) (v := ?v304x21) (l2 := #[true, true, true, true, true, true, true, true, true, true, true, true, true, true, true, true, true, true, true, true, true, false, false, false, false, false, false, false, false, false, false, false, false, false, false, false, false, false, false, false, false, false, false, false, false, false, false, false, false, false, false, false, false, false]) rfl rfl rfl (by kernel_rfl) (by kernel_rfl) (by kernel_rfl) (by kernel_rfl) (fun _ _ _ h => h) (by rfl) ?hv304x21 hS0 ?h304x21
                      case hv304x21 => intro u hSu; have s0 := (Below.block hSu _ yr).trans RB2.out; have s1 := (Below.block hSu _ yb).trans XB.out; have s2 := (Below.block hSu _ yf).trans YB.out; obtain ⟨x0, x1, x2, x3, x4, x5⟩ := six_cells s0; obtain ⟨z0, z1, z2, z3⟩ := four_cellsS s1; obtain ⟨t0, t1, t2, _⟩ := three_cells s2; have n0 := lt_heap s0; have n1 := lt_heap s1; have n2 := lt_heap s2; have p0 := (Below.cell hSu (p := ⟨g, o + q * 4, none⟩) hgg).trans e0; clear s0 s1 s2; go_simp; (try with_reducible rfl)
                      (try simp only [Act.put, List.setIfInBounds_toArray, List.set_cons_zero, List.set_cons_succ])
                      refine regN_takeC [48, 47, 42, 34, 26, 25, 24, 23, 22] (i := 21) (d := (some 39)) (v := ?v304x22) (l2 := #[true, true, true, true, true, true, true, true, true, true, true, true, true, true, true, true, true, true, true, true, true, true, false, false, false, false, false, false, false, false, false, false, false, false, false, false, false, false, false, false, false, false, false, false, false, false, false, false, false, false, false, false, false, false]) rfl rfl rfl (by kernel_rfl) (by kernel_rfl) (by kernel_rfl) (by kernel_rfl) (fun _ _ _ h => h) (by rfl) ?hv304x22 hS0 ?h304x22
                      case hv304x22 => intro u hSu; clear hSu; go_simp; (try with_reducible rfl)
                      (try simp only [Act.put, List.setIfInBounds_toArray, List.set_cons_zero, List.set_cons_succ])
                      refine regN_takeC [48, 47, 42, 34, 26, 25, 24, 23] (i := 22) (d := (some 40)) (v := ?v304x23) (l2 := #[true, true, true, true, true, true, true, true, true, true, true, true, true, true, true, true, true, true, true, true, true, true, true, false, false, false, false, false, false, false, false, false, false, false, false, false, false, false, false, false, false, false, false, false, false, false, false, false, false, false, false, false, false, false]) rfl rfl rfl (by kernel_rfl) (by kernel_rfl) (by kernel_rfl) (by kernel_rfl) (fun _ _ _ h => h) (by rfl) ?hv304x23 hS0 ?h304x23
                      case hv304x23 => intro u hSu; have s0 := (Below.block hSu _ yr).trans RB2.out; have s1 := (Below.block hSu _ yb).trans XB.out; have s2 := (Below.block hSu _ yf).trans YB.out; obtain ⟨x0, x1, x2, x3, x4, x5⟩ := six_cells s0; obtain ⟨z0, z1, z2, z3⟩ := four_cellsS s1; obtain ⟨t0, t1, t2, _⟩ := three_cells s2; have n0 := lt_heap s0; have n1 := lt_heap s1; have n2 := lt_heap s2; have p0 := (Below.cell hSu (p := ⟨g, o + q * 4, none⟩) hgg).trans e0; clear s0 s1 s2; go_simp; (try with_reducible rfl)
                      (try simp only [Act.put, List.setIfInBounds_toArray, List.set_cons_zero, List.set_cons_succ])
                      refine regN_takeC [48, 47, 42, 34, 26, 25, 24] (i := 23) (d := (some 41)) (v := ?v304x24) (l2 := #[true, true, true, true, true, true, true, true, true, true, true, true, true, true, true, true, true, true, true, true, true, true, true, true, false, false, false, false, false, false, false, false, false, false, false, false, false, false, false, false, false, false, false, false, false, false, false, false, false, false, false, false, false, false]) rfl rfl rfl (by kernel_rfl) (by kernel_rfl) (by kernel_rfl) (by kernel_rfl) (fun _ _ _ h => h) (by rfl) ?hv304x24 hS0 ?h304x24
                      case hv304x24 => intro u hSu; clear hSu; go_simp; (try with_reducible rfl)
                      (try simp only [Act.put, List.setIfInBounds_toArray, List.set_cons_zero, List.set_cons_succ])
                      refine regN_takeC [48, 47, 42, 34, 26, 25] (i := 24) (d := (some 42)) (v := ?v304x25) (l2 := #[true, true, true, true, true, true, true, true, true, true, true, true, true, true, true, true, true, true, true, true, true, true, true, true, true, false, false, false, false, false, false, false, false, false, false, false, false, false, false, false, false, false, false, false, false, false, false, false, false, false, false, false, false, false]) rfl rfl rfl (by kernel_rfl) (by kernel_rfl) (by kernel_rfl) (by kernel_rfl) (fun _ _ _ h => h) (by rfl) ?hv304x25 hS0 ?h304x25
                      case hv304x25 => intro u hSu; clear hSu; go_simp; (try with_reducible rfl)
                      (try simp only [Act.put, List.setIfInBounds_toArray, List.set_cons_zero, List.set_cons_succ])
                      refine regN_takeC [48, 47, 42, 34, 26] (i := 25) (d := (some 43)) (v := ?v304x26) (l2 := #[true, true, true, true, true, true, true, true, true, true, true, true, true, true, true, true, true, true, true, true, true, true, true, true, true, true, false, false, false, false, false, false, false, false, false, false, false, false, false, false, false, false, false, false, false, false, false, false, false, false, false, false, false, false]) rfl rfl rfl (by kernel_rfl) (by kernel_rfl) (by kernel_rfl) (by kernel_rfl) (fun _ _ _ h => h) (by rfl) ?hv304x26 hS0 ?h304x26
                      case hv304x26 => intro u hSu; clear hSu; go_simp; (try with_reducible rfl)
                      (try simp only [Act.put, List.setIfInBounds_toArray, List.set_cons_zero, List.set_cons_succ])
                      refine regN_takeC [48, 47, 42, 34] (i := 26) (d := (some 44)) (v := ?v304x27) (l2 := #[true, true, true, true, true, true, true, true, true, true, true, true, true, true, true, true, true, true, true, true, true, true, true, true, true, true, true, false, false, false, false, false, false, false, false, false, false, false, false, false, false, false, false, false, false, false, false, false, false, false, false, false, false, false]) rfl rfl rfl (by kernel_rfl) (by kernel_rfl) (by kernel_rfl) (by kernel_rfl) (fun _ _ _ h => h) (by rfl) ?hv304x27 hS0 ?h304x27
                      case hv304x27 => intro u hSu; clear hSu; go_simp; (try with_reducible rfl)
                      (try simp only [Act.put, List.setIfInBounds_toArray, List.set_cons_zero, List.set_cons_succ])
                      refine regN_takeC [48, 47, 42, 34, 33, 32, 29, 28] (i := 27) (d := (some 45)) (v := ?v304x28) (l2 := #[true, true, true, true, true, true, true, true, true, true, true, true, true, true, true, true, true, true, true, true, true, true, true, true, true, true, true, true, false, false, false, false, false, false, false, false, false, false, false, false, false, false, false, false, false, false, false, false, false, false, false, false, false, false]) rfl rfl rfl (by kernel_rfl) (by kernel_rfl) (by kernel_rfl) (by kernel_rfl) (fun _ _ _ h => h) (by rfl) ?hv304x28 hS0 ?h304x28
                      case hv304x28 => intro u hSu; clear hSu; go_simp; (try with_reducible rfl)
                      (try simp only [Act.put, List.setIfInBounds_toArray, List.set_cons_zero, List.set_cons_succ])
                      refine regN_takeC [48, 47, 42, 34, 33, 32, 29] (i := 28) (d := (some 46)) (v := ?v304x29) (l2 := #[true, true, true, true, true, true, true, true, true, true, true, true, true, true, true, true, true, true, true, true, true, true, true, true, true, true, true, true, true, false, false, false, false, false, false, false, false, false, false, false, false, false, false, false, false, false, false, false, false, false, false, false, false, false]) rfl rfl rfl (by kernel_rfl) (by kernel_rfl) (by kernel_rfl) (by kernel_rfl) (fun _ _ _ h => h) (by rfl) ?hv304x29 hS0 ?h304x29
                      case hv304x29 => intro u hSu; have s0 := (Below.block hSu _ yr).trans RB2.out; have s1 := (Below.block hSu _ yb).trans XB.out; have s2 := (Below.block hSu _ yf).trans YB.out; obtain ⟨x0, x1, x2, x3, x4, x5⟩ := six_cells s0; obtain ⟨z0, z1, z2, z3⟩ := four_cellsS s1; obtain ⟨t0, t1, t2, _⟩ := three_cells s2; have n0 := lt_heap s0; have n1 := lt_heap s1; have n2 := lt_heap s2; have p0 := (Below.cell hSu (p := ⟨g, o + q * 4, none⟩) hgg).trans e0; clear s0 s1 s2; go_simp; (try with_reducible rfl)
                      (try simp only [Act.put, List.setIfInBounds_toArray, List.set_cons_zero, List.set_cons_succ])
                      refine regN_takeC [48, 47, 42, 34, 33, 32] (i := 29) (d := (some 47)) (v := ?v304x30) (l2 := #[true, true, true, true, true, true, true, true, true, true, true, true, true, true, true, true, true, true, true, true, true, true, true, true, true, true, true, true, true, true, false, false, false, false, false, false, false, false, false, false, false, false, false, false, false, false, false, false, false, false, false, false, false, false]) rfl rfl rfl (by kernel_rfl) (by kernel_rfl) (by kernel_rfl) (by kernel_rfl) (fun _ _ _ h => h) (by rfl) ?hv304x30 hS0 ?h304x30
                      case hv304x30 => intro u hSu; clear hSu; go_simp; (try with_reducible rfl)
                      (try simp only [Act.put, List.setIfInBounds_toArray, List.set_cons_zero, List.set_cons_succ])
                      refine regN_takeC [48, 47, 42, 34, 33, 32, 31] (i := 30) (d := (some 48)) (v := ?v304x31) (l2 := #[true, true, true, true, true, true, true, true, true, true, true, true, true, true, true, true, true, true, true, true, true, true, true, true, true, true, true, true, true, true, true, false, false, false, false, false, false, false, false, false, false, false, false, false, false, false, false, false, false, false, false, false, false, false]) rfl rfl rfl (by kernel_rfl) (by kernel_rfl) (by kernel_rfl) (by kernel_rfl) (fun _ _ _ h => h) (by rfl) ?hv304x31 hS0 ?h304x31
                      case hv304x31 => intro u hSu; clear hSu; go_simp; (try with_reducible rfl)
                      (try simp only [Act.put, List.setIfInBounds_toArray, List.set_cons_zero, List.set_cons_succ])
                      refine regN_takeC [48, 47, 42, 34, 33, 32] (i := 31) (d := (some 49)) (v := ?v304x32) (l2 := #[true, true, true, true, true, true, true, true, true, true, true, true, true, true, true, true, true, true, true, true, true, true, true, true, true, true, true, true, true, true, true, true, false, false, false, false, false, false, false, false, false, false, false, false, false, false, false, false, false, false, false, false, false, false]) rfl rfl rfl (by kernel_rfl) (by kernel_rfl) (by kernel_rfl) (by kernel_rfl) (fun _ _ _ h => h) (by rfl) ?hv304x32 hS0 ?h304x32
                      case hv304x32 => intro u hSu; have s0 := (Below.block hSu _ yr).trans RB2.out; have s1 := (Below.block hSu _ yb).trans XB.out; have s2 := (Below.block hSu _ yf).trans YB.out; obtain ⟨x0, x1, x2, x3, x4, x5⟩ := six_cells s0; obtain ⟨z0, z1, z2, z3⟩ := four_cellsS s1; obtain ⟨t0, t1, t2, _⟩ := three_cells s2; have n0 := lt_heap s0; have n1 := lt_heap s1; have n2 := lt_heap s2; have p0 := (Below.cell hSu (p := ⟨g, o + q * 4, none⟩) hgg).trans e0; clear s0 s1 s2; go_simp; (try with_reducible rfl)
                      (try simp only [Act.put, List.setIfInBounds_toArray, List.set_cons_zero, List.set_cons_succ])
                      refine regN_takeC [48, 47, 42, 34, 33] (i := 32) (d := (some 50)) (v := ?v304x33) (l2 := #[true, true, true, true, true, true, true, true, true, true, true, true, true, true, true, true, true, true, true, true, true, true, true, true, true, true, true, true, true, true, true, true, true, false, false, false, false, false, false, false, false, false, false, false, false, false, false, false, false, false, false, false, false, false]) rfl rfl rfl (by kernel_rfl) (by kernel_rfl) (by kernel_rfl) (by kernel_rfl) (fun _ _ _ h => h) (by rfl) ?hv304x33 hS0 ?h304x33
                      case hv304x33 => intro u hSu; clear hSu; go_simp; (try with_reducible rfl)
                      (try simp only [Act.put, List.setIfInBounds_toArray, List.set_cons_zero, List.set_cons_succ])
                      refine regN_takeC [48, 47, 42, 34] (i := 33) (d := (some 51)) (v := ?v304x34) (l2 := #[true, true, true, true, true, true, true, true, true, true, true, true, true, true, true, true, true, true, true, true, true, true, true, true, true, true, true, true, true, true, true, true, true, true, false, false, false, false, false, false, false, false, false, false, false, false, false, false, false, false, false, false, false, false]) rfl rfl rfl (by kernel_rfl) (by kernel_rfl) (by kernel_rfl) (by kernel_rfl) (fun _ _ _ h => h) (by rfl) ?hv304x34 hS0 ?h304x34
                      case hv304x34 => intro u hSu; clear hSu; go_simp; (try with_reducible rfl)
                      (try simp only [Act.put, List.setIfInBounds_toArray, List.set_cons_zero, List.set_cons_succ])
                      refine regN_takeC [48, 47, 42] (i := 34) (d := (some 52)) (v := ?v304x35) (l2 := #[true, true, true, true, true, true, true, true, true, true, true, true, true, true, true, true, true, true, true, true, true, true, true, true, true, true, true, true, true, true, true, true, true, true, true, false, false, false, false, false, false, false, false, false, false, false, false, false, false, false, false, false, false, false]) rfl rfl rfl (by kernel_rfl) (by kernel_rfl) (by kernel_rfl) (by kernel_rfl) (fun _ _ _ h => h) (by rfl) ?hv304x35 hS0 ?h304x35
                      case hv304x35 => intro u hSu; clear hSu; go_simp; (try with_reducible rfl)
                      (try simp only [Act.put, List.setIfInBounds_toArray, List.set_cons_zero, List.set_cons_succ])
                      refine regN_takeC [48, 47, 42, 41, 40, 37, 36] (i := 35) (d := (some 53)) (v := ?v304x36) (l2 := #[true, true, true, true, true, true, true, true, true, true, true, true, true, true, true, true, true, true, true, true, true, true, true, true, true, true, true, true, true, true, true, true, true, true, true, true, false, false, false, false, false, false, false, false, false, false, false, false, false, false, false, false, false, false]) rfl rfl rfl (by kernel_rfl) (by kernel_rfl) (by kernel_rfl) (by kernel_rfl) (fun _ _ _ h => h) (by rfl) ?hv304x36 hS0 ?h304x36
                      case hv304x36 => intro u hSu; clear hSu; go_simp; (try with_reducible rfl)
                      (try simp only [Act.put, List.setIfInBounds_toArray, List.set_cons_zero, List.set_cons_succ])
                      refine regN_takeC [48, 47, 42, 41, 40, 37] (i := 36) (d := (some 54)) (v := ?v304x37) (l2 := #[true, true, true, true, true, true, true, true, true, true, true, true, true, true, true, true, true, true, true, true, true, true, true, true, true, true, true, true, true, true, true, true, true, true, true, true, true, false, false, false, false, false, false, false, false, false, false, false, false, false, false, false, false, false]) rfl rfl rfl (by kernel_rfl) (by kernel_rfl) (by kernel_rfl) (by kernel_rfl) (fun _ _ _ h => h) (by rfl) ?hv304x37 hS0 ?h304x37
                      case hv304x37 => intro u hSu; have s0 := (Below.block hSu _ yr).trans RB2.out; have s1 := (Below.block hSu _ yb).trans XB.out; have s2 := (Below.block hSu _ yf).trans YB.out; obtain ⟨x0, x1, x2, x3, x4, x5⟩ := six_cells s0; obtain ⟨z0, z1, z2, z3⟩ := four_cellsS s1; obtain ⟨t0, t1, t2, _⟩ := three_cells s2; have n0 := lt_heap s0; have n1 := lt_heap s1; have n2 := lt_heap s2; have p0 := (Below.cell hSu (p := ⟨g, o + q * 4, none⟩) hgg).trans e0; clear s0 s1 s2; go_simp; (try with_reducible rfl)
                      (try simp only [Act.put, List.setIfInBounds_toArray, List.set_cons_zero, List.set_cons_succ])
                      refine regN_takeC [48, 47, 42, 41, 40] (i := 37) (d := (some 55)) (v := ?v304x38) (l2 := #[true, true, true, true, true, true, true, true, true, true, true, true, true, true, true, true, true, true, true, true, true, true, true, true, true, true, true, true, true, true, true, true, true, true, true, true, true, true, false, false, false, false, false, false, false, false, false, false, false, false, false, false, false, false]) rfl rfl rfl (by kernel_rfl) (by kernel_rfl) (by kernel_rfl) (by kernel_rfl) (fun _ _ _ h => h) (by rfl) ?hv304x38 hS0 ?h304x38
                      case hv304x38 => intro u hSu; clear hSu; go_simp; (try with_reducible rfl)
                      (try simp only [Act.put, List.setIfInBounds_toArray, List.set_cons_zero, List.set_cons_succ])
                      refine regN_takeC [48, 47, 42, 41, 40, 39] (i := 38) (d := (some 56)) (v := ?v304x39) (l2 := #[true, true, true, true, true, true, true, true, true, true, true, true, true, true, true, true, true, true, true, true, true, true, true, true, true, true, true, true, true, true, true, true, true, true, true, true, true, true, true, false, false, false, false, false, false, false, false, false, false, false, false, false, false, false]) rfl rfl rfl (by kernel_rfl) (by kernel_rfl) (by kernel_rfl) (by kernel_rfl) (fun _ _ _ h => h) (by rfl) ?hv304x39 hS0 ?h304x39
                      case hv304x39 => intro u hSu; clear hSu; go_simp; (try with_reducible rfl)
                      (try simp only [Act.put, List.setIfInBounds_toArray, List.set_cons_zero, List.set_cons_succ])
                      refine regN_takeC [48, 47, 42, 41, 40] (i := 39) (d := (some 57)) (v := ?v304x40) (l2 := #[true, true, true, true, true, true, true, true, true, true, true, true, true, true, true, true, true, true, true, true, true, true, true, true, true, true, true, true, true, true, true, true, true, true, true, true, true, true, true, true, false, false, false, false, false, false, false, false, false, false, false, false, false, false]) rfl rfl rfl (by kernel_rfl) (by kernel_rfl) (by kernel_rfl) (by kernel_rfl) (fun _ _ _ h => h) (by rfl) ?hv304x40 hS0 ?h304x40
                      case hv304x40 => intro u hSu; have s0 := (Below.block hSu _ yr).trans RB2.out; have s1 := (Below.block hSu _ yb).trans XB.out; have s2 := (Below.block hSu _ yf).trans YB.out; obtain ⟨x0, x1, x2, x3, x4, x5⟩ := six_cells s0; obtain ⟨z0, z1, z2, z3⟩ := four_cellsS s1; obtain ⟨t0, t1, t2, _⟩ := three_cells s2; have n0 := lt_heap s0; have n1 := lt_heap s1; have n2 := lt_heap s2; have p0 := (Below.cell hSu (p := ⟨g, o + q * 4, none⟩) hgg).trans e0; clear s0 s1 s2; go_simp; (try with_reducible rfl)
                      (try simp only [Act.put, List.setIfInBounds_toArray, List.set_cons_zero, List.set_cons_succ])
                      refine regN_takeC [48, 47, 42, 41] (i := 40) (d := (some 58)) (v := ?v304x41) (l2 := #[true, true, true, true, true, true, true, true, true, true, true, true, true, true, true, true, true, true, true, true, true, true, true, true, true, true, true, true, true, true, true, true, true, true, true, true, true, true, true, true, true, false, false, false, false, false, false, false, false, false, false, false, false, false]) rfl rfl rfl (by kernel_rfl) (by kernel_rfl) (by kernel_rfl) (by kernel_rfl) (fun _ _ _ h => h) (by rfl) ?hv304x41 hS0 ?h304x41
                      case hv304x41 => intro u hSu; clear hSu; go_simp; (try with_reducible rfl)
                      (try simp only [Act.put, List.setIfInBounds_toArray, List.set_cons_zero, List.set_cons_succ])
                      refine regN_takeC [48, 47, 42] (i := 41) (d := (some 59)) (v := ?v304x42) (l2 := #[true, true, true, true, true, true, true, true, true, true, true, true, true, true, true, true, true, true, true, true, true, true, true, true, true, true, true, true, true, true, true, true, true, true, true, true, true, true, true, true, true, true, false, false, false, false, false, false, false, false, false, false, false, false]) rfl rfl rfl (by kernel_rfl) (by kernel_rfl) (by kernel_rfl) (by kernel_rfl) (fun _ _ _ h => h) (by rfl) ?hv304x42 hS0 ?h304x42
                      case hv304x42 => intro u hSu; clear hSu; go_simp; (try with_reducible rfl)
                      (try simp only [Act.put, List.setIfInBounds_toArray, List.set_cons_zero, List.set_cons_succ])
                      refine regN_takeC [48, 47] (i := 42) (d := (some 60)) (v := ?v304x43) (l2 := #[true, true, true, true, true, true, true, true, true, true, true, true, true, true, true, true, true, true, true, true, true, true, true, true, true, true, true, true, true, true, true, true, true, true, true, true, true, true, true, true, true, true, true, false, false, false, false, false, false, false, false, false, false, false]) rfl rfl rfl (by kernel_rfl) (by kernel_rfl) (by kernel_rfl) (by kernel_rfl) (fun _ _ _ h => h) (by rfl) ?hv304x43 hS0 ?h304x43
                      case hv304x43 => intro u hSu; clear hSu; go_simp; (try with_reducible rfl)
                      (try simp only [Act.put, List.setIfInBounds_toArray, List.set_cons_zero, List.set_cons_succ])
                      refine regN_takeC [48, 46, 44] (i := 43) (d := (some 61)) (v := ?v304x44) (l2 := #[true, true, true, true, true, true, true, true, true, true, true, true, true, true, true, true, true, true, true, true, true, true, true, true, true, true, true, true, true, true, true, true, true, true, true, true, true, true, true, true, true, true, true, true, false, false, false, false, false, false, false, false, false, false]) rfl rfl rfl (by kernel_rfl) (by kernel_rfl) (by kernel_rfl) (by kernel_rfl) (fun _ _ _ h => h) (by rfl) ?hv304x44 hS0 ?h304x44
                      case hv304x44 => intro u hSu; clear hSu; go_simp; (try with_reducible rfl)
                      (try simp only [Act.put, List.setIfInBounds_toArray, List.set_cons_zero, List.set_cons_succ])
                      refine regN_takeC [48, 46] (i := 44) (d := (some 62)) (v := ?v304x45) (l2 := #[true, true, true, true, true, true, true, true, true, true, true, true, true, true, true, true, true, true, true, true, true, true, true, true, true, true, true, true, true, true, true, true, true, true, true, true, true, true, true, true, true, true, true, true, true, false, false, false, false, false, false, false, false, false]) rfl rfl rfl (by kernel_rfl) (by kernel_rfl) (by kernel_rfl) (by kernel_rfl) (fun _ _ _ h => h) (by rfl) ?hv304x45 hS0 ?h304x45
                      case hv304x45 => intro u hSu; have s0 := (Below.block hSu _ yr).trans RB2.out; have s1 := (Below.block hSu _ yb).trans XB.out; have s2 := (Below.block hSu _ yf).trans YB.out; obtain ⟨x0, x1, x2, x3, x4, x5⟩ := six_cells s0; obtain ⟨z0, z1, z2, z3⟩ := four_cellsS s1; obtain ⟨t0, t1, t2, _⟩ := three_cells s2; have n0 := lt_heap s0; have n1 := lt_heap s1; have n2 := lt_heap s2; have p0 := (Below.cell hSu (p := ⟨g, o + q * 4, none⟩) hgg).trans e0; clear s0 s1 s2; go_simp; (try with_reducible rfl)
                      (try simp only [Act.put, List.setIfInBounds_toArray, List.set_cons_zero, List.set_cons_succ])
                      refine regN_takeC [48, 46] (i := 45) (d := (some 63)) (v := ?v304x46) (l2 := #[true, true, true, true, true, true, true, true, true, true, true, true, true, true, true, true, true, true, true, true, true, true, true, true, true, true, true, true, true, true, true, true, true, true, true, true, true, true, true, true, true, true, true, true, true, true, false, false, false, false, false, false, false, false]) rfl rfl rfl (by kernel_rfl) (by kernel_rfl) (by kernel_rfl) (by kernel_rfl) (fun _ _ _ h => h) (by rfl) ?hv304x46 hS0 ?h304x46
                      case hv304x46 => intro u hSu; clear hSu; go_simp; (try with_reducible rfl)
                      (try simp only [Act.put, List.setIfInBounds_toArray, List.set_cons_zero, List.set_cons_succ])
                      refine regN_ready (rs := [46]) (by kernel_rfl) (by simp) ?_
                      refine (AllN.cons (i := 46) (l2 := #[true, true, true, true, true, true, true, true, true, true, true, true, true, true, true, true, true, true, true, true, true, true, true, true, true, true, true, true, true, true, true, true, true, true, true, true, true, true, true, true, true, true, true, true, true, true, true, false, false, false, false, false, false, false]) rfl rfl (fun K hK => ?_) AllN.nil)
                      go_simp
                      go_at_call 57
                      (with_reducible refine (K1.out _ (Below.refl _ _).drew).mono ?_)
                      rintro e w10 ⟨rfl, hb10⟩
                      have HBN := Lib.hid (below_on (show Below W2.heap.size W2 _ from (Below.refl _ _).drew) hb10)
                      clear hb10
                      go_simp
                      have hS1 : ((fun W' : World => Below W2.heap.size W2 W') : World → Prop) _ := (show (fun W' : World => Below W2.heap.size W2 W') _ from HBN.out)
                      refine hK _ _ (fun _ => hS1) ?_
                      clear hK K
                      (try simp only [Act.put, List.setIfInBounds_toArray, List.set_cons_zero, List.set_cons_succ])
                      refine regN_takeC [48] (i := 47) (d := (some 65)) (v := ?v304x47) (l2 := #[true, true, true, true, true, true, true, true, true, true, true, true, true, true, true, true, true, true, true, true, true, true, true, true, true, true, true, true, true, true, true, true, true, true, true, true, true, true, true, true, true, true, true, true, true, true, true, true, false, false, false, false, false, false]) rfl rfl rfl (by kernel_rfl) (by kernel_rfl) (by kernel_rfl) (by kernel_rfl) (fun _ _ _ h => h) (by rfl) ?hv304x47 hS1 ?h304x47
                      case hv304x47 => intro u hSu; clear hSu; go_simp; (try with_reducible rfl)
                      (try simp only [Act.put, List.setIfInBounds_toArray, List.set_cons_zero, List.set_cons_succ])
                      refine regN_take (i := 48) (d := (some 66)) (v := ?v304x48) (l2 := #[true, true, true, true, true, true, true, true, true, true, true, true, true, true, true, true, true, true, true, true, true, true, true, true, true, true, true, true, true, true, true, true, true, true, true, true, true, true, true, true, true, true, true, true, true, true, true, true, true, false, false, false, false, false]) rfl rfl rfl (by kernel_rfl) (by kernel_rfl) (by kernel_rfl) (by kernel_rfl) (fun _ _ _ h => h) (by rfl) ?hv304x48 hS1 ?h304x48
                      case hv304x48 => intro u hSu; clear hSu; go_simp; (try with_reducible rfl)
                      (try simp only [Act.put, List.setIfInBounds_toArray, List.set_cons_zero, List.set_cons_succ])
                      refine regN_takeC [52, 50] (i := 49) (d := (some 67)) (v := ?v304x49) (l2 := #[true, true, true, true, true, true, true, true, true, true, true, true, true, true, true, true, true, true, true, true, true, true, true, true, true, true, true, true, true, true, true, true, true, true, true, true, true, true, true, true, true, true, true, true, true, true, true, true, true, true, false, false, false, false]) rfl rfl rfl (by kernel_rfl) (by kernel_rfl) (by kernel_rfl) (by kernel_rfl) (fun _ _ _ h => h) (by rfl) ?hv304x49 hS1 ?h304x49
                      case hv304x49 => intro u hSu; clear hSu; go_simp; (try with_reducible rfl)
                      (try simp only [Act.put, List.setIfInBounds_toArray, List.set_cons_zero, List.set_cons_succ])
                      refine regN_takeC [52] (i := 50) (d := (some 68)) (v := ?v304x50) (l2 := #[true, true, true, true, true, true, true, true, true, true, true, true, true, true, true, true, true, true, true, true, true, true, true, true, true, true, true, true, true, true, true, true, true, true, true, true, true, true, true, true, true, true, true, true, true, true, true, true, true, true, true, false, false, false]) rfl rfl rfl (by kernel_rfl) (by kernel_rfl) (by kernel_rfl) (by kernel_rfl) (fun _ _ _ h => h) (by rfl) ?hv304x50 hS1 ?h304x50
                      case hv304x50 => intro u hSu; have s0 := (Below.block hSu _ yr).trans RB2.out; have s1 := (Below.block hSu _ yb).trans XB.out; have s2 := (Below.block hSu _ yf).trans YB.out; obtain ⟨x0, x1, x2, x3, x4, x5⟩ := six_cells s0; obtain ⟨z0, z1, z2, z3⟩ := four_cellsS s1; obtain ⟨t0, t1, t2, _⟩ := three_cells s2; have n0 := lt_heap s0; have n1 := lt_heap s1; have n2 := lt_heap s2; have p0 := (Below.cell hSu (p := ⟨g, o + q * 4, none⟩) hgg).trans e0; clear s0 s1 s2; go_simp; (try with_reducible rfl)
                      (try simp only [Act.put, List.setIfInBounds_toArray, List.set_cons_zero, List.set_cons_succ])
                      refine regN_takeC [52] (i := 51) (d := (some 69)) (v := ?v304x51) (l2 := #[true, true, true, true, true, true, true, true, true, true, true, true, true, true, true, true, true, true, true, true, true, true, true, true, true, true, true, true, true, true, true, true, true, true, true, true, true, true, true, true, true, true, true, true, true, true, true, true, true, true, true, true, false, false]) rfl rfl rfl (by kernel_rfl) (by kernel_rfl) (by kernel_rfl) (by kernel_rfl) (fun _ _ _ h => h) (by rfl) ?hv304x51 hS1 ?h304x51
                      case hv304x51 => intro u hSu; clear hSu; go_simp; (try with_reducible rfl)
                      (try simp only [Act.put, List.setIfInBounds_toArray, List.set_cons_zero, List.set_cons_succ])
                      refine regN_ready (rs := [52]) (by kernel_rfl) (by simp) ?_
                      refine (AllN.cons (i := 52) (l2 := #[true, true, true, true, true, true, true, true, true, true, true, true, true, true, true, true, true, true, true, true, true, true, true, true, true, true, true, true, true, true, true, true, true, true, true, true, true, true, true, true, true, true, true, true, true, true, true, true, true, true, true, true, true, false]) rfl rfl (fun K hK => ?_) AllN.nil)
                      go_simp
                      go_at_call 57
                      (with_reducible refine (K2.out _ HBN.out).mono ?_)
                      rintro e w11 ⟨rfl, hb11⟩
                      replace HBN := Lib.hid (below_on HBN.out hb11)
                      clear hb11
                      go_simp
                      have hS2 : ((fun W' : World => Below W2.heap.size W2 W') : World → Prop) _ := (show (fun W' : World => Below W2.heap.size W2 W') _ from HBN.out)
                      refine hK _ _ (fun _ => hS2) ?_
                      clear hK K
                      (try simp only [Act.put, List.setIfInBounds_toArray, List.set_cons_zero, List.set_cons_succ])
                      refine regN_ready (rs := [53]) (by kernel_rfl) (by simp) ?_
                      refine (AllN.cons (i := 53) (l2 := #[true, true, true, true, true, true, true, true, true, true, true, true, true, true, true, true, true, true, true, true, true, true, true, true, true, true, true, true, true, true, true, true, true, true, true, true, true, true, true, true, true, true, true, true, true, true, true, true, true, true, true, true, true, true]) rfl rfl (fun K hK => ?_) AllN.nil)
                      go_simp
                      refine hK _ _ (fun h => absurd rfl h) ?_
                      clear hK K
                      (try simp only [Act.put, List.setIfInBounds_toArray, List.set_cons_zero, List.set_cons_succ])
                      refine regN_done (by kernel_rfl) ?_ _
                      cases r2v with
                      | true =>
                        have H := Lib.hid (ckQ_bad HN.out hlt (by rw [HSM.out, decide_eq_false hle]; exact HVAL.out))
                        go_wp2
                        go_ret
                        exact ⟨by rw [← HE.out, H.out]; rfl, below_on HB.out (below_on HBR2.out HBN.out)⟩
                      | false =>
                        go_wp2
                        exact ⟨⟨(q + 1) + 1, hlt, by go_num, rk_succ HALL.out (by rw [HSM.out, decide_eq_false hle]; exact HVAL.out), below_on HBR2.out HBN.out⟩, by simp [intOf]; omega⟩
    · obtain rfl : n = j := by omega
      have H := Lib.hid (ckQ_ok HN.out HALL.out)
      clear hPr
      go_wp2
      go_ret
      exact ⟨by rw [← HE.out, H.out]; rfl, below_on HB.out HBR.out⟩

end Go.Proofs.YtdppooflbjlbcaaDoor.I
