import Derived.Test.YtdppooflbjlbcaaDoorVs
import Derived.Test.YtdppooflbjlbcaaDoorInOwn
import Derived.Test.YtdppooflbjlbcaaDoorCd
import Derived.Test.YtdppooflbjlbcaaDoorWa
import Derived.Test.YtdppooflbjlbcaaDoorWcM
import Derived.Laws.ResultCell
import Derived.BigQuiet

/- Wd -/
/- Layer 22: stack maps in memory, rows of them of a call's own. (Written by gen/wd.py.) -/
namespace Go.Proofs.YtdppooflbjlbcaaDoor.I
open Go.ChangeShapes Go.WideShapes Go.ChangeAt Go.RowKit Go.PlainAid
set_option linter.unusedSimpArgs false
set_option linter.unusedVariables false

/-- a stack map -/
structure SM where
  x : Int
  f : FM
def SMs (w : World) (A : Option Addr) (L : List SM) : Prop :=
  L = [] ∨ ∃ g o, A = some ⟨g, o, none⟩ ∧ g < w.heap.size ∧ ∀ (k : Nat) (m : SM), L[k]? = some m → m.f.ok w ∧ w.cell? ⟨g, o + k * 4, none⟩ = some (.int .i64 m.x) ∧ w.cell? ⟨g, o + k * 4 + 1, none⟩ = some (.slice m.f.A1 m.f.n1 m.f.c1) ∧ w.cell? ⟨g, o + k * 4 + 2, none⟩ = some (.slice m.f.A2 m.f.n2 m.f.c2) ∧ w.cell? ⟨g, o + k * 4 + 3, none⟩ = some (.bool m.f.u)
theorem SMs.up {w w' : World} {A : Option Addr} {L : List SM} (h : SMs w A L) (hb : Below w.heap.size w w') : SMs w' A L := by
  rcases h with h | ⟨g, o, hA, hg, hc⟩
  · exact Or.inl h
  · refine Or.inr ⟨g, o, hA, Nat.lt_of_lt_of_le hg hb.size, fun k m hm => ?_⟩
    have e := fun j => hb.cell (p := ⟨g, j, none⟩) hg
    obtain ⟨z, c0, c1, c2, c3⟩ := hc k m hm
    exact ⟨z.up hb, (e _).trans c0, (e _).trans c1, (e _).trans c2, (e _).trans c3⟩
theorem set_three {w : World} {B : Nat} {t : TypeId} {x0 x1 x2 a b c : Value} (hh : w.heap[B]? = some (.cells #[x0, x1, x2] t)) :
    (((w.setCell ⟨B, 0, none⟩ a).setCell ⟨B, 1, none⟩ b).setCell ⟨B, 2, none⟩ c).heap[B]? = some (.cells #[a, b, c] t) := by
  have h0 := heap_setCell_same w B 0 _ _ a hh
  generalize w.setCell ⟨B, 0, none⟩ a = w0 at h0 ⊢
  have h1 := heap_setCell_same w0 B 1 _ _ b h0
  generalize w0.setCell ⟨B, 1, none⟩ b = w1 at h1 ⊢
  exact heap_setCell_same w1 B 2 _ _ c h1
def smcells (m : SM) : List Value := [.int .i64 m.x, .slice m.f.A1 m.f.n1 m.f.c1, .slice m.f.A2 m.f.n2 m.f.c2, .bool m.f.u]
def smrow (L : List SM) : List Value := L.flatMap smcells
theorem smrow_cons (q : SM) (ps : List SM) : smrow (q :: ps) = smcells q ++ smrow ps := by unfold smrow; rw [List.flatMap_cons]
theorem smrow_len (ps : List SM) : (smrow ps).length = ps.length * 4 := by
  induction ps with
  | nil => rfl
  | cons p ps ih => rw [smrow_cons, List.length_append, ih, List.length_cons]; simp [smcells]; omega
theorem smrow_app (ps qs : List SM) : smrow (ps ++ qs) = smrow ps ++ smrow qs := by unfold smrow; simp
theorem smrow_one (p : SM) : smrow [p] = smcells p := by simp [smrow]
theorem smrow_cell (ps : List SM) : ∀ u ∈ smrow ps, u.oneCell' = true := by
  intro u hu
  unfold smrow at hu
  obtain ⟨p, _, h⟩ := List.mem_flatMap.1 hu
  simp [smcells] at h
  rcases h with rfl | rfl | rfl | rfl <;> rfl
theorem smrow_at : ∀ (ps : List SM) (k j : Nat) (p : SM), j < 4 → ps[k]? = some p → (smrow ps)[k * 4 + j]? = (smcells p)[j]?
  | [], k, j, p, _, h => by simp at h
  | q :: ps, 0, j, p, hj, h => by
    simp at h; subst h
    rw [smrow_cons, Nat.zero_mul, Nat.zero_add, List.getElem?_append_left (by simpa [smcells] using hj)]
  | q :: ps, k + 1, j, p, hj, h => by
    have ih := smrow_at ps k j p hj (by simpa using h)
    have l4 : (smcells q).length = 4 := rfl
    rw [smrow_cons, List.getElem?_append_right (by omega), l4, show (k + 1) * 4 + j - 4 = k * 4 + j by omega]
    exact ih
theorem SMs.of_own {w : World} {base e n c : Nat} {A : Option Addr} {L : List SM} (h : w.ownsRow base e 4 (.slice A n c) n (smrow L)) (hok : ∀ i ∈ L, i.f.ok w) : SMs w A L ∧ L.length = n := by
  have hn : L.length = n := by have := h.1; rw [smrow_len] at this; omega
  refine ⟨?_, hn⟩
  rcases Nat.eq_zero_or_pos n with h0 | h0
  · exact Or.inl (List.eq_nil_of_length_eq_zero (by omega))
  · obtain ⟨g, cap, hv, _, hlt⟩ := h.form h0
    have hA : A = some ⟨g, 0, none⟩ := by injection hv
    subst hA
    have hcap : c = cap := by injection hv
    subst hcap
    refine Or.inr ⟨g, 0, rfl, hlt, fun k i hk => ?_⟩
    have hkl : k < L.length := by
      rcases Nat.lt_or_ge k L.length with h | h
      · exact h
      · rw [List.getElem?_eq_none h] at hk; cases hk
    have at' : ∀ j v, j < 4 → (smcells i)[j]? = some v → w.cell? ⟨g, 0 + k * 4 + j, none⟩ = some v := by
      intro j v hj hv
      rw [Nat.zero_add, h.cellAt _ (by omega), smrow_at L k j i hj hk, hv]
    exact ⟨hok i (List.mem_of_getElem? hk), at' 0 _ (by decide) rfl, at' 1 _ (by decide) rfl, at' 2 _ (by decide) rfl, at' 3 _ (by decide) rfl⟩
theorem infoSM : (Tryd.prog.info? 51).map (fun i => (i.zero, i.size, i.bytes)) = some (some (.agg #[.int .i64 0, .slice none 0 0, .slice none 0 0, .bool false]), 4, 64) := by kernel_rfl
theorem wpList_append_sm {w : World} {ops : Array Oper} {rest : List Oper} {o : Oper} {a : Act} {Q : Exit → Act → World → Prop} (hg : o.guard = none) (s x : Operand)
    (hop : o.op = Op.call { callee := Callee.builtin Builtin.append, args := #[s, x], argTypes := #[24, 24] })
    (base n B : Nat) (L : List SM) (i : SM) (v : Value) (hs : a.eval s = v) (hown : w.ownsRow base 51 4 v n (smrow L)) (hx : a.eval x = .slice (some ⟨B, 0, none⟩) 1 1)
    (hi : ∀ j u, (smcells i)[j]? = some u → w.cell? ⟨B, j, none⟩ = some u) (hb : n ≤ 100000) (hbase : base ≤ w.heap.size)
    (h : ∀ v' w', w'.ownsRow base 51 4 v' (n + 1) (smrow (L ++ [i])) → w.grownBy w' v.ownBlock → wpList Tryd.prog ops Q rest (a.put o.dst v') w') : wpList Tryd.prog ops Q (o :: rest) a w := by
  obtain ⟨i0, hi0, hz0, hz1, hz2⟩ := info_parts infoSM
  refine _root_.Go.wpList_append_own (w := w) hg s x 24 hop base 51 i0 _ 4 64 Tryd.underlying24 hi0 hz0 hz1 hz2 rfl (by decide) v n (smrow L) hs hown ⟨B, 0, none⟩ 1 1 (smcells i) hx rfl (fun j u hu => by
    rcases Nat.eq_zero_or_pos j with rfl | hj
    · simpa [Addr.add] using hi 0 u hu
    · have : j ≠ 0 := by omega
      simpa [Addr.add, this] using hi j u hu) (by rw [← smrow_one]; exact smrow_cell _) (by unfold maxLen; omega) (by omega) hbase ?_
  intro v' w' h1 h2 _
  exact h v' w' (by rw [smrow_app, smrow_one]; exact h1) h2
theorem smcells_at {w : World} {B : Nat} {m : SM} {t : TypeId} (h : w.heap[B]? = some (.cells (smcells m).toArray t)) : ∀ j u, (smcells m)[j]? = some u → w.cell? ⟨B, j, none⟩ = some u := by
  intro j u hu
  simp [World.cell?, h, hu]
theorem own_below4 {w w' : World} {base e size n : Nat} {v : Value} {xs : List Value} (h : w.ownsRow base e size v n xs) (hb : Below w.heap.size w w') : w'.ownsRow base e size v n xs := own_below h hb
theorem own_baseM {w : World} {base base' e size n : Nat} {v : Value} {xs : List Value} (hb : base' ≤ base) (h : w.ownsRow base e size v n xs) : w.ownsRow base' e size v n xs :=
  ⟨h.1, h.2.imp id fun ⟨g, cap, cur, h1, h2, h3⟩ => ⟨g, cap, cur, h1, Nat.le_trans hb h2, h3⟩⟩
structure NxtM (W wr : World) (L : List SM) (v : Value) : Prop where
  own : wr.ownsRow W.heap.size 51 4 v L.length (smrow L)
  bel : Below W.heap.size W wr
theorem NxtM.start {W : World} : NxtM W W [] (.slice none 0 0) := ⟨World.ownsRow_nil _ _ _ _, Below.refl _ _⟩
theorem NxtM.up {W wr w2 : World} {L : List SM} {v : Value} (N : NxtM W wr L v) (h : Below wr.heap.size wr w2) : NxtM W w2 L v := by
  refine ⟨?_, below_on N.bel h⟩
  exact own_below4 N.own h
/-- a call returns a row of maps that lies in cells of its own -/
def SmOwn (w : World) (L : List SM) (e : Ending) (w' : World) : Prop :=
  ∃ v, e = .returned v ∧ w'.ownsRow w.heap.size 51 4 v L.length (smrow L) ∧ Below w.heap.size w w'
theorem NxtM.ret {w W wr : World} {L : List SM} {v : Value} (hb : Below w.heap.size w W) (N : NxtM W wr L v) : SmOwn w L (.returned v) wr :=
  ⟨v, rfl, own_baseM hb.size N.own, below_on hb N.bel⟩

end Go.Proofs.YtdppooflbjlbcaaDoor.I

/- We -/
/- Layer 22: FrameAt, ints, few, Maps. (Written by gen/we.py.) -/
namespace Go.Proofs.YtdppooflbjlbcaaDoor.I
open Go.ChangeShapes Go.WideShapes Go.ChangeAt Go.RowKit Go.PlainAid
set_option linter.unusedSimpArgs false
set_option linter.unusedVariables false

theorem fr_size : (Tryd.prog.info? 49).map (·.size) = some 3 := by kernel_rfl
theorem fr_under : ∃ fs, Tryd.prog.underlying 49 = some (.struct fs) := ⟨_, Tryd.underlying49⟩
theorem fr_ret {fn : Func} (hf : fn.results = #[.cell 4 49, .tmp 5]) {a : Act} {w : World} {B : Nat} {x0 x1 x2 : Value} (ht : a.tmps.getD 4 undef = .pointer (some ⟨B, 0, none⟩)) (hg : w.heap[B]? = some (.cells #[x0, x1, x2] 49)) :
    (results fn a.tmps).run Tryd.prog w = .ok (.tuple #[.agg #[x0, x1, x2], a.tmps.getD 5 undef]) w := by
  rw [results_cell_tmp hf, ht]
  obtain ⟨fs, hu⟩ := fr_under
  have hl := run_loadVar_row (P := Tryd.prog) w B 49 49 #[x0, x1, x2] (0, 0) _ hg hu rfl fr_size
  simp [asAddr, Result.andThen, hl]
def atX (x : Int) (m : SM) : Bool := m.x == x
def faF (ms : List SM) (x : Int) : FM := match ms.find? (atX x) with | some m => m.f | none => fmZ
def faB (ms : List SM) (x : Int) : Bool := (ms.find? (atX x)).isSome
theorem fa_here {ms : List SM} {x : Int} {k : Nat} {m : SM} (h : (ms.take k).any (atX x) = false) (hm : ms[k]? = some m) (hx : m.x = x) : faF ms x = m.f ∧ faB ms x = true := by
  have e : ms.find? (atX x) = some m := by
    have hs : ms = ms.take k ++ m :: ms.drop (k + 1) := by
      have hl := get_ltF hm
      have h2 : ms[k] = m := by rw [List.getElem?_eq_getElem hl] at hm; exact Option.some.inj hm
      rw [← h2, List.getElem_cons_drop, List.take_append_drop]
    rw [hs, List.find?_append]
    have h1 : (ms.take k).find? (atX x) = none := by
      rw [List.find?_eq_none]
      intro y hy
      rw [List.any_eq_false] at h
      exact h y hy
    rw [h1]
    simp [List.find?_cons, atX, hx]
  unfold faF faB
  rw [e]
  exact ⟨rfl, rfl⟩
theorem fa_none {ms : List SM} {x : Int} (h : ms.any (atX x) = false) : faF ms x = fmZ ∧ faB ms x = false := by
  have e : ms.find? (atX x) = none := by
    rw [List.find?_eq_none]
    intro y hy
    rw [List.any_eq_false] at h
    exact h y hy
  unfold faF faB
  rw [e]
  exact ⟨rfl, rfl⟩
theorem SMs.fok {w : World} {A : Option Addr} {L : List SM} (h : SMs w A L) : ∀ m ∈ L, m.f.ok w := by
  intro m hm
  rcases h with h | ⟨g, o, _, _, hc⟩
  · rw [h] at hm; cases hm
  · obtain ⟨k, hk⟩ := List.mem_iff_getElem?.1 hm
    exact (hc k m hk).1
theorem faF_ok {w : World} {A : Option Addr} {ms : List SM} (h : SMs w A ms) (x : Int) : (faF ms x).ok w := by
  unfold faF
  cases e : ms.find? (atX x) with
  | none => exact fmZ_ok w
  | some m => exact h.fok m (List.mem_of_find?_eq_some e)
theorem four_cellsS {W : World} {B : Nat} {a b c d : Value} {t : TypeId} (hh : W.heap[B]? = some (.cells #[a, b, c, d] t)) :
    W.cell? ⟨B, 0, none⟩ = some a ∧ W.cell? ⟨B, 1, none⟩ = some b ∧ W.cell? ⟨B, 2, none⟩ = some c ∧ W.cell? ⟨B, 3, none⟩ = some d := by
  refine ⟨?_, ?_, ?_, ?_⟩ <;> simp [World.cell?, hh]
set_option maxRecDepth 100000 in
set_option maxHeartbeats 8000000 in
theorem fa_any {A : Option Addr} {n cap : Nat} {ms : List SM} (x : Int) (w : World) (hn : ms.length = n) (hN : n ≤ 9223372036854775807) (hp : SMs w A ms) :
    Calls Tryd.prog 24 #[.slice A n cap, .int .i64 x] w fun e w' => e = .returned (.tuple #[(Value.agg #[Value.slice (FM.A1 (faF ms x)) (FM.n1 (faF ms x)) (FM.c1 (faF ms x)), Value.slice (FM.A2 (faF ms x)) (FM.n2 (faF ms x)) (FM.c2 (faF ms x)), Value.bool (FM.u (faF ms x))]), .bool (faB ms x)]) ∧ Below w.heap.size w w' := by
  have HP := Lib.hid hp
  have HN := Lib.hid hn
  clear hp hn
  obtain ⟨F, hF⟩ : ∃ F, faF ms x = F := ⟨_, rfl⟩
  obtain ⟨b, hb⟩ : ∃ b, faB ms x = b := ⟨_, rfl⟩
  have HF := Lib.hid hF
  have HBB := Lib.hid hb
  rw [hF, hb]
  clear hF hb
  go_enter Tryd.func24, Tryd.ntmps24
  go_upto_region 2 with fail
  have H0 := World.alloc_heap_new w (.cells #[.slice none 0 0, .slice none 0 0, .bool false] 49)
  have hB := below_al (Below.refl _ w) (.cells #[.slice none 0 0, .slice none 0 0, .bool false] 49)
  generalize w.alloc (.cells #[.slice none 0 0, .slice none 0 0, .bool false] 49) = W1 at H0 hB ⊢
  have HP1 := Lib.hid (HP.out.up hB)
  have HB := Lib.hid hB
  have HR := Lib.hid H0
  clear H0 hB HP
  go_loopw [10] (fun z wr => ∃ k : Nat, k ≤ n ∧ z = .int .i64 k ∧ (ms.take k).any (atX x) = false ∧ Below W1.heap.size W1 wr) (fun z _ => n - (intOf z).toNat)
  case atStart => exact ⟨0, Nat.zero_le _, rfl, rfl, Below.refl _ _⟩
  case round =>
    obtain ⟨k, hk, rfl, hall, hbr⟩ := hrel
    have HALL := Lib.hid hall
    have HBR := Lib.hid hbr
    have hRr := (hbr.block _ (lt_heap HR.out)).trans HR.out
    have hPr := HP1.out.up hbr
    clear hall hbr
    by_cases hlt : k < n
    · obtain ⟨m, hm⟩ := get_someF (l := ms) (k := k) (by rw [HN.out]; exact hlt)
      rcases hPr with h0 | ⟨g, o, rfl, hg, hcell⟩
      · rw [h0] at hm; simp at hm
      · obtain ⟨_, a0, a1, a2, a3⟩ := hcell k m hm
        have hk0 : (0 : Int) ≤ (k : Int) := by omega
        have hk1 : (k : Int) < (n : Int) := by omega
        have HAT := Lib.hid (any_take (p := atX x) hm)
        have HM := Lib.hid hm
        have yr := lt_heap hRr
        have HRr := Lib.hid hRr
        obtain ⟨f0, f1, f2, _⟩ := three_cells hRr
        clear hcell hm hRr
        by_cases hx : m.x = x
        · have hh := fa_here HALL.out HM.out hx
          have HF2 := Lib.hid (show F = m.f by rw [← HF.out]; exact hh.1)
          have HB2 := Lib.hid (show b = true by rw [← HBB.out]; exact hh.2)
          clear hh
          subst hx
          go_upto_region 5 with fail
          have hX := World.alloc_heap_new wr (.cells #[.int .i64 m.x, .slice m.f.A1 m.f.n1 m.f.c1, .slice m.f.A2 m.f.n2 m.f.c2, .bool m.f.u] 51)
          have hR2 := Lib.hid (laid_old (o' := .cells #[.int .i64 m.x, .slice m.f.A1 m.f.n1 m.f.c1, .slice m.f.A2 m.f.n2 m.f.c2, .bool m.f.u] 51) HRr.out)
          have hbx := below_al (Below.refl _ wr) (.cells #[.int .i64 m.x, .slice m.f.A1 m.f.n1 m.f.c1, .slice m.f.A2 m.f.n2 m.f.c2, .bool m.f.u] 51)
          generalize wr.alloc (.cells #[.int .i64 m.x, .slice m.f.A1 m.f.n1 m.f.c1, .slice m.f.A2 m.f.n2 m.f.c2, .bool m.f.u] 51) = wx at hX hR2 hbx ⊢
          obtain ⟨x0, x1, x2, x3⟩ := four_cellsS hX
          have yx := lt_heap hX
          clear f0 f1 f2 a0 a1 a2 a3
          obtain ⟨f0, f1, f2, fz0, fz1, fz2⟩ := three_cells hR2.out
          have yw := lt_heap hR2.out
          go_wp2
          refine bodyPost_ret (fr_ret rfl rfl (set_three hR2.out)) rfl ⟨?_, ?_⟩
          · rw [HF2.out, HB2.out]; rfl
          · exact below_st (below_st (below_st (below_on HB.out (below_on HBR.out hbx)) (Nat.le_refl _) _) (Nat.le_refl _) _) (Nat.le_refl _) _
        · have e1 : (m.x == x) = false := by simpa using hx
          go_wp2
          refine ⟨⟨k + 1, hlt, by go_num, ?_, below_al HBR.out _⟩, by simp [intOf]; omega⟩
          rw [HAT.out, HALL.out]
          exact e1
    · obtain rfl : n = k := by omega
      have hh := fa_none (x := x) (ms := ms) (by have := HALL.out; rwa [List.take_of_length_le (by rw [HN.out]; exact Nat.le_refl _)] at this)
      have HF2 := Lib.hid (show F = fmZ by rw [← HF.out]; exact hh.1)
      have HB2 := Lib.hid (show b = false by rw [← HBB.out]; exact hh.2)
      have HRr := Lib.hid hRr
      obtain ⟨f0, f1, f2, fz0, fz1, fz2⟩ := three_cells hRr
      have yw := lt_heap hRr
      clear hh hPr hRr
      go_wp2
      refine bodyPost_ret (fr_ret rfl rfl (set_three HRr.out)) rfl ⟨?_, ?_⟩
      · rw [HF2.out, HB2.out]; rfl
      · exact below_st (below_st (below_st (below_on HB.out HBR.out) (Nat.le_refl _) _) (Nat.le_refl _) _) (Nat.le_refl _) _

end Go.Proofs.YtdppooflbjlbcaaDoor.I

/- Wf -/
/- Layer 22: ints, few, Maps. (Written by gen/wf.py.) -/
namespace Go.Proofs.YtdppooflbjlbcaaDoor.I
open Go.ChangeShapes Go.WideShapes Go.ChangeAt Go.RowKit Go.PlainAid
set_option linter.unusedSimpArgs false
set_option linter.unusedVariables false

set_option maxRecDepth 100000 in
set_option maxHeartbeats 8000000 in
theorem ints_yes {A B : Option Addr} {n c d : Nat} {L : List Int} (w : World) (hn : L.length = n) (hN : n ≤ 9223372036854775807) (hA : Row w w.heap.size A L) (hB : Row w w.heap.size B L) :
    Calls Tryd.prog 26 #[.slice A n c, .slice B n d] w fun e w' => e = .returned (.bool true) ∧ Below w.heap.size w w' := by
  have HA := Lib.hid hA
  have HB := Lib.hid hB
  have HN := Lib.hid hn
  clear hA hB hn
  go_enter Tryd.func26, Tryd.ntmps26
  go_wp2
  go_loopw [5] (fun z wr => ∃ k : Nat, k ≤ n ∧ z = .int .i64 k ∧ Below w.heap.size w wr) (fun z _ => n - (intOf z).toNat)
  case atStart => exact ⟨0, Nat.zero_le _, rfl, Below.refl _ _⟩
  case round =>
    obtain ⟨k, hk, rfl, hbr⟩ := hrel
    have HBR := Lib.hid hbr
    have hP := HA.out.up hbr
    have hQ := HB.out.up hbr
    clear hbr
    by_cases hlt : k < n
    · obtain ⟨x, hx⟩ := get_someF (l := L) (k := k) (by rw [HN.out]; exact hlt)
      obtain ⟨gp, op, rfl, hgp, hcp⟩ := row_get hP hx
      obtain ⟨gq, oq, rfl, hgq, hcq⟩ := row_get hQ hx
      have hj0 : (0 : Int) ≤ (k : Int) := by omega
      have hj1 : (k : Int) < (n : Int) := by omega
      clear hP hQ hx
      go_upto_region 4 with fail
      go_quiet (fail)
      go_wp2
      exact ⟨⟨k + 1, hlt, by go_num, below_drV HBR.out _⟩, by simp [intOf]; omega⟩
    · obtain rfl : n = k := by omega
      clear hP hQ
      go_wp2
      go_ret
      exact ⟨rfl, HBR.out⟩
theorem vtE_all (P : List VT) : allB vtE P P = true := allB_yes ⟨rfl, fun j a b ha hb => by
  rw [ha] at hb
  rw [← Option.some.inj hb]
  exact vtE_self a⟩
theorem eqM_self (f : FM) : eqM f f = true := by
  unfold eqM
  rw [vtE_all, vtE_all]
  simp
set_option maxRecDepth 100000 in
set_option maxHeartbeats 16000000 in
theorem maps_yes {A B : Option Addr} {n c d : Nat} {L : List SM} (w : World) (hn : L.length = n) (hN : n ≤ 9223372036854775807) (hA : SMs w A L) (hB : SMs w B L) :
    Calls Tryd.prog 29 #[.slice A n c, .slice B n d] w fun e w' => e = .returned (.bool true) ∧ Below w.heap.size w w' := by
  have HA := Lib.hid hA
  have HB := Lib.hid hB
  have HN := Lib.hid hn
  clear hA hB hn
  go_enter Tryd.func29, Tryd.ntmps29
  go_wp2
  go_loopw [5] (fun z wr => ∃ k : Nat, k ≤ n ∧ z = .int .i64 k ∧ Below w.heap.size w wr) (fun z _ => n - (intOf z).toNat)
  case atStart => exact ⟨0, Nat.zero_le _, rfl, Below.refl _ _⟩
  case round =>
    obtain ⟨k, hk, rfl, hbr⟩ := hrel
    have HBR := Lib.hid hbr
    have hP := HA.out.up hbr
    have hQ := HB.out.up hbr
    clear hbr
    by_cases hlt : k < n
    · obtain ⟨m, hm⟩ := get_someF (l := L) (k := k) (by rw [HN.out]; exact hlt)
      rcases hP with h0 | ⟨gp, op, rfl, hgp, hcp⟩
      · rw [h0] at hm; simp at hm
      rcases hQ with h0 | ⟨gq, oq, rfl, hgq, hcq⟩
      · rw [h0] at hm; simp at hm
      obtain ⟨fok, a0, a1, a2, a3⟩ := hcp k m hm
      obtain ⟨_, b0, b1, b2, b3⟩ := hcq k m hm
      have KE := Lib.hid (fun (W : World) (hW : Below wr.heap.size wr W) => by
        have := reqM m.f m.f W (fok.up hW) (fok.up hW)
        rw [eqM_self] at this
        exact this)
      have hj0 : (0 : Int) ≤ (k : Int) := by omega
      have hj1 : (k : Int) < (n : Int) := by omega
      clear hcp hcq hm fok
      go_upto_region 6 with fail
      go_region_held3 (fun w' => w'.cell? ⟨gp, op + k * 4, none⟩ = some (.int .i64 m.x) ∧ w'.cell? ⟨gp, op + k * 4 + 1, none⟩ = some (.slice m.f.A1 m.f.n1 m.f.c1) ∧ w'.cell? ⟨gp, op + k * 4 + 2, none⟩ = some (.slice m.f.A2 m.f.n2 m.f.c2) ∧ w'.cell? ⟨gp, op + k * 4 + 3, none⟩ = some (.bool m.f.u) ∧ w'.cell? ⟨gq, oq + k * 4, none⟩ = some (.int .i64 m.x) ∧ w'.cell? ⟨gq, oq + k * 4 + 1, none⟩ = some (.slice m.f.A1 m.f.n1 m.f.c1) ∧ w'.cell? ⟨gq, oq + k * 4 + 2, none⟩ = some (.slice m.f.A2 m.f.n2 m.f.c2) ∧ w'.cell? ⟨gq, oq + k * 4 + 3, none⟩ = some (.bool m.f.u) ∧ gp < w'.heap.size ∧ gq < w'.heap.size ∧ Below wr.heap.size wr w') (((try go_split_ands); (repeat' apply And.intro) <;> (first | assumption | exact (Below.refl _ _).drew | (first | exact below_on (w := wr) (by assumption) hq | exact Below.drew (by assumption) | assumption) | exact (Below.cell hq (by first | omega | (simp; omega))).trans (by assumption) | (have := hq.size; omega) | (simp; omega) | go_keep)))
        (first | (go_at_call 32; (with_reducible refine (KE.out _ (by first | assumption | (go_split_ands; assumption))).mono ?_); rintro e w2 ⟨rfl, hq⟩))
      go_split_ands
      have hend : Below wr.heap.size wr w2 := by assumption
      go_wp2
      exact ⟨⟨k + 1, hlt, by go_num, below_on HBR.out hend⟩, by simp [intOf]; omega⟩
    · obtain rfl : n = k := by omega
      clear hP hQ
      go_wp2
      go_ret
      exact ⟨rfl, HBR.out⟩
/-- code as a parameter hands it over (layer 22 bounds the targets itself) -/
structure Cd.raw22 (w : World) (c : Cd) : Prop where
  il : c.is.length = c.n
  iw : Ins w w.heap.size c.iA c.is
  ib : c.n ≤ 9223372036854775807
  hl : c.hs.length = c.hn
  hw : Hds w w.heap.size c.hA c.hs
  hb : c.hn ≤ 9223372036854775807
  nz : ∀ i ∈ c.is, i.nz
theorem Cd.raw22.up {w w' : World} {c : Cd} (h : c.raw22 w) (hb : Below w.heap.size w w') : c.raw22 w' := ⟨h.il, h.iw.up hb, h.ib, h.hl, h.hw.up hb, h.hb, h.nz⟩
def fw22 (c : Cd) : Prop := c.n ≤ 300 ∧ c.hn ≤ 60 ∧ ∀ i ∈ c.is, i.tn ≤ 100
theorem Cd.raw22.k22 {w : World} {c : Cd} (h : c.raw22 w) (hf : fw22 c) : c.k22 w :=
  ⟨⟨h.il, h.iw, by have := hf.1; omega, h.hl, h.hw, by have := hf.2.1; omega, h.nz, fun i hi => by have := hf.2.2 i hi; omega⟩,
   ⟨h.il, h.iw, by have := hf.1; omega, h.hl, h.hw, by have := hf.2.1; omega, h.nz, fun i hi => by have := hf.2.2 i hi; omega⟩,
   ⟨hf.1, hf.2.1, hf.2.2⟩⟩
def tnB (i : In) : Bool := decide (100 < i.tn)
set_option maxRecDepth 100000 in
set_option maxHeartbeats 8000000 in
theorem few22_any (c : Cd) (w : World) (hok : c.raw22 w) (b : Bool) (hb : (b = true ∧ fw22 c) ∨ (b = false ∧ ¬ fw22 c)) : Calls Tryd.prog 22 #[(Value.agg #[Value.int IntKind.i64 (Cd.st c), Value.int IntKind.i64 (Cd.lo c), Value.slice (Cd.iA c) (Cd.n c) (Cd.ic c), Value.slice (Cd.hA c) (Cd.hn c) (Cd.hc c), Value.slice (Cd.mA c) (Cd.mn c) (Cd.mc c), Value.slice (Cd.lA c) (Cd.ln c) (Cd.lc c)])] w fun e w' => e = .returned (.bool b) ∧ Below w.heap.size w w' := by
  have hB : Below w.heap.size w w := Below.refl _ _
  have OK := Lib.hid hok
  have HBB := Lib.hid hb
  clear hok hb
  by_cases h1 : c.n ≤ 300
  · by_cases h2 : c.hn ≤ 60
    · obtain ⟨A9, hA9⟩ : ∃ A, c.iA = A := ⟨_, rfl⟩
      have HA9 := Lib.hid hA9
      clear hA9
      go_enter Tryd.func22, Tryd.ntmps22
      go_upto_region 1 with fail
      have R := World.alloc_heap_new w (.cells #[.int .i64 c.st, .int .i64 c.lo, .slice c.iA c.n c.ic, .slice c.hA c.hn c.hc, .slice c.mA c.mn c.mc, .slice c.lA c.ln c.lc] 27)
      replace hB := below_al hB (.cells #[.int .i64 c.st, .int .i64 c.lo, .slice c.iA c.n c.ic, .slice c.hA c.hn c.hc, .slice c.mA c.mn c.mc, .slice c.lA c.ln c.lc] 27)
      generalize w.alloc (.cells #[.int .i64 c.st, .int .i64 c.lo, .slice c.iA c.n c.ic, .slice c.hA c.hn c.hc, .slice c.mA c.mn c.mc, .slice c.lA c.ln c.lc] 27) = W1 at R hB ⊢
      obtain ⟨r0, r1, r2, r3, r4, r5⟩ := six_cells R
      have y1 := lt_heap R
      replace R := Lib.hid R
      have OK1 := Lib.hid (OK.out.up hB)
      have HB := Lib.hid hB
      clear hB
      go_upto_region 4 with fail
      clear r0 r1 r2 r3 r4 r5
      go_loopw [3] (fun z wr => ∃ k : Nat, k ≤ c.n ∧ z = .int .i64 k ∧ (c.is.take k).any tnB = false ∧ Below W1.heap.size W1 wr) (fun z _ => c.n - (intOf z).toNat)
      case atStart => exact ⟨0, Nat.zero_le _, rfl, rfl, Below.refl _ _⟩
      case round =>
        obtain ⟨k, hk, rfl, hall, hbr⟩ := hrel
        have HALL := Lib.hid hall
        have HBR := Lib.hid hbr
        have OKr := Lib.hid (OK1.out.up hbr)
        have RBr := (hbr.block _ y1).trans R.out
        clear hall hbr
        obtain ⟨r0, r1, r2, r3, r4, r5⟩ := six_cells RBr
        have yr := lt_heap RBr
        clear RBr
        by_cases hlt : k < c.n
        · obtain ⟨i, hi⟩ := get_someF (l := c.is) (k := k) (by rw [OKr.out.il]; exact hlt)
          have hiw := OKr.out.iw
          rw [HA9.out] at hiw r2
          rcases hiw with h0 | ⟨g, o, rfl, hg, hcell⟩
          · rw [h0] at hi; simp at hi
          · obtain ⟨_, _, _, _, _, _, a5, _⟩ := hcell k _ hi
            have HAT := Lib.hid (any_take (p := tnB) hi)
            have HIM := Lib.hid (List.mem_of_getElem? hi)
            have hk0 : (0 : Int) ≤ (k : Int) := by omega
            have hk1 : (k : Int) < (c.n : Int) := by omega
            clear hcell hi
            by_cases ht : 100 < i.tn
            · have e1 : (100 : Int) < (i.tn : Int) := by omega
              have hb : b = false := by
                rcases HBB.out with h | h
                · have := h.2.2.2 i HIM.out; omega
                · exact h.1
              subst hb
              go_wp2
              go_ret
              exact ⟨rfl, below_on HB.out HBR.out⟩
            · have e1 : ¬ (100 : Int) < (i.tn : Int) := by omega
              go_wp2
              exact ⟨⟨k + 1, hlt, by go_num, by rw [HAT.out, HALL.out]; show decide (100 < i.tn) = false; exact decide_eq_false ht, HBR.out⟩, by simp [intOf]; omega⟩
        · obtain ⟨hnk⟩ : c.n = k := by omega
          have hb : b = true := by
            rcases HBB.out with h | h
            · exact h.1
            · exact absurd ⟨h1, h2, fun i hi => by
                have h9 := HALL.out
                rw [List.take_of_length_le (by rw [OKr.out.il]; exact Nat.le_refl _), List.any_eq_false] at h9
                have := h9 i hi
                unfold tnB at this
                have h8 : ¬ 100 < i.tn := by simpa using this
                omega⟩ h.2
          subst hb
          go_wp2
          go_ret
          exact ⟨rfl, below_on HB.out HBR.out⟩
    · have hb : b = false := by
        rcases HBB.out with h | h
        · exact absurd h.2.2.1 h2
        · exact h.1
      subst hb
      go_enter Tryd.func22, Tryd.ntmps22
      go_upto_region 1 with fail
      have R := World.alloc_heap_new w (.cells #[.int .i64 c.st, .int .i64 c.lo, .slice c.iA c.n c.ic, .slice c.hA c.hn c.hc, .slice c.mA c.mn c.mc, .slice c.lA c.ln c.lc] 27)
      replace hB := below_al hB (.cells #[.int .i64 c.st, .int .i64 c.lo, .slice c.iA c.n c.ic, .slice c.hA c.hn c.hc, .slice c.mA c.mn c.mc, .slice c.lA c.ln c.lc] 27)
      generalize w.alloc (.cells #[.int .i64 c.st, .int .i64 c.lo, .slice c.iA c.n c.ic, .slice c.hA c.hn c.hc, .slice c.mA c.mn c.mc, .slice c.lA c.ln c.lc] 27) = W1 at R hB ⊢
      obtain ⟨r0, r1, r2, r3, r4, r5⟩ := six_cells R
      have y1 := lt_heap R
      replace R := Lib.hid R
      go_wp2
      go_ret
      exact ⟨rfl, hB⟩
  · have hb : b = false := by
      rcases HBB.out with h | h
      · exact absurd h.2.1 h1
      · exact h.1
    subst hb
    go_enter Tryd.func22, Tryd.ntmps22
    go_upto_region 1 with fail
    have R := World.alloc_heap_new w (.cells #[.int .i64 c.st, .int .i64 c.lo, .slice c.iA c.n c.ic, .slice c.hA c.hn c.hc, .slice c.mA c.mn c.mc, .slice c.lA c.ln c.lc] 27)
    replace hB := below_al hB (.cells #[.int .i64 c.st, .int .i64 c.lo, .slice c.iA c.n c.ic, .slice c.hA c.hn c.hc, .slice c.mA c.mn c.mc, .slice c.lA c.ln c.lc] 27)
    generalize w.alloc (.cells #[.int .i64 c.st, .int .i64 c.lo, .slice c.iA c.n c.ic, .slice c.hA c.hn c.hc, .slice c.mA c.mn c.mc, .slice c.lA c.ln c.lc] 27) = W1 at R hB ⊢
    obtain ⟨r0, r1, r2, r3, r4, r5⟩ := six_cells R
    have y1 := lt_heap R
    replace R := Lib.hid R
    go_wp2
    go_ret
    exact ⟨rfl, hB⟩

end Go.Proofs.YtdppooflbjlbcaaDoor.I

/- Wg -/
/- Layer 22: Select. (Written by gen/wg.py.) -/
namespace Go.Proofs.YtdppooflbjlbcaaDoor.I
open Go.ChangeShapes Go.WideShapes Go.ChangeAt Go.RowKit Go.PlainAid
set_option linter.unusedSimpArgs false
set_option linter.unusedVariables false

theorem bsr_any {A : Option Addr} {n c : Nat} {L : List Int} (x : Int) (w : World) (hn : L.length = n) (hN : n < 4611686018427387904) (hr : Row w w.heap.size A L) (hs : L.Pairwise (· ≤ ·)) :
    Calls Tryd.prog 50 #[.slice A n c, .int .i64 x] w fun e w' => (∃ p : Int, e = .returned (.tuple #[.int .i64 p, .bool (L.contains x)])) ∧ Below w.heap.size w w' := by
  rcases hr with h0 | ⟨g, o, rfl, hg, hc⟩
  · subst h0
    obtain rfl : n = 0 := hn.symm
    refine (Tryd.slices_BinarySearch_int_empty A c x w).mono ?_
    rintro e w' ⟨rfl, rfl⟩
    exact ⟨⟨0, rfl⟩, Below.refl _ _⟩
  · refine (Tryd.slices_BinarySearch_int g o n c L x w (by omega) hN (fun j hj => ?_) (by rw [List.take_of_length_le (by omega)]; exact hs)).mono ?_
    · rw [List.getD_eq_getElem?_getD, List.getElem?_eq_getElem hj]
      exact hc j _ (List.getElem?_eq_getElem hj)
    · rintro e w' ⟨rfl, q, rfl⟩
      rw [List.take_of_length_le (by omega)]
      exact ⟨⟨_, rfl⟩, below_drV (Below.refl _ _) q⟩
theorem rowsI_sorted (P : Nat → Bool) : ∀ n, (rowsI P n).Pairwise (· < ·) := by
  intro n
  induction n with
  | zero => exact List.Pairwise.nil
  | succ n ih =>
    rw [rowsI_succ, List.pairwise_append]
    refine ⟨ih, ?_, fun a ha b hb => ?_⟩
    · split
      · exact List.pairwise_singleton _ _
      · exact List.Pairwise.nil
    · split at hb
      · obtain rfl := List.mem_singleton.1 hb
        obtain ⟨i, hi, _, rfl⟩ := rowsI_mem.1 ha
        omega
      · cases hb
/-- the maps at the indexes of a list -/
def inX (L : List Int) (m : SM) : Bool := L.contains m.x
def slL (L : List Int) (ms : List SM) : List SM := ms.filter (inX L)
theorem sl_take {L : List Int} {ms : List SM} {k : Nat} {m : SM} (h : ms[k]? = some m) : slL L (ms.take (k + 1)) = slL L (ms.take k) ++ (if inX L m = true then [m] else []) := by
  unfold slL
  rw [take_snocF h, List.filter_append]
  congr 1
  cases hh : inX L m <;> simp [List.filter_cons, hh]
theorem sl_len (L : List Int) (ms : List SM) (k : Nat) : (slL L (ms.take k)).length ≤ k := by
  unfold slL
  exact Nat.le_trans (List.length_filter_le _ _) (by rw [List.length_take]; omega)
theorem NxtM.yes {W wr w4 : World} {L : List SM} {v v' : Value} {m : SM} {o : Obj} (N : NxtM W wr L v) (ho : w4.ownsRow W.heap.size 51 4 v' (L.length + 1) (smrow (L ++ [m]))) (hg : (wr.alloc o).grownBy w4 v.ownBlock) : NxtM W w4 (L ++ [m]) v' :=
  ⟨by rw [List.length_append]; exact ho, grown_own (below_al N.bel o) (N.own.alloc o) hg⟩
set_option maxRecDepth 100000 in
set_option maxHeartbeats 16000000 in
theorem sl_any {A : Option Addr} {n cap : Nat} {ms : List SM} (c : Cd) (w : World) (hok : c.k22 w) (hn : ms.length = n) (hN : n ≤ 10000) (hp : SMs w A ms) :
    Calls Tryd.prog 30 #[(Value.agg #[Value.int IntKind.i64 (Cd.st c), Value.int IntKind.i64 (Cd.lo c), Value.slice (Cd.iA c) (Cd.n c) (Cd.ic c), Value.slice (Cd.hA c) (Cd.hn c) (Cd.hc c), Value.slice (Cd.mA c) (Cd.mn c) (Cd.mc c), Value.slice (Cd.lA c) (Cd.ln c) (Cd.lc c)]), .slice A n cap] w (SmOwn w (slL (rqL c) ms)) := by
  have hB : Below w.heap.size w w := Below.refl _ _
  have OK := Lib.hid hok
  have HP := Lib.hid hp
  have HN := Lib.hid hn
  clear hok hp hn
  obtain ⟨L, hL⟩ : ∃ L, rqL c = L := ⟨_, rfl⟩
  have HSO := Lib.hid (show L.Pairwise (· ≤ ·) by rw [← hL]; exact (rowsI_sorted _ _).imp (fun h => Int.le_of_lt h))
  have HLL := Lib.hid (show L.length ≤ 300 by rw [← hL]; exact Nat.le_trans (rowsI_len _ _) OK.out.fw.n)
  have KR := Lib.hid (fun (W : World) (hW : Below w.heap.size w W) => by
    have := rq_any c W (OK.out.up hW)
    rw [hL] at this
    exact this)
  rw [hL]
  clear hL
  go_enter Tryd.func30, Tryd.ntmps30
  go_upto_region 1 with fail
  have R := World.alloc_heap_new w (.cells #[.int .i64 c.st, .int .i64 c.lo, .slice c.iA c.n c.ic, .slice c.hA c.hn c.hc, .slice c.mA c.mn c.mc, .slice c.lA c.ln c.lc] 27)
  replace hB := below_al hB (.cells #[.int .i64 c.st, .int .i64 c.lo, .slice c.iA c.n c.ic, .slice c.hA c.hn c.hc, .slice c.mA c.mn c.mc, .slice c.lA c.ln c.lc] 27)
  generalize w.alloc (.cells #[.int .i64 c.st, .int .i64 c.lo, .slice c.iA c.n c.ic, .slice c.hA c.hn c.hc, .slice c.mA c.mn c.mc, .slice c.lA c.ln c.lc] 27) = W1 at R hB ⊢
  obtain ⟨r0, r1, r2, r3, r4, r5⟩ := six_cells R
  have y1 := lt_heap R
  replace R := Lib.hid R
  go_upto_region 2 with (go_at_call 27; (with_reducible refine (KR.out _ hB).mono ?_); rintro e w2 ⟨vr, rfl, ho, hb2⟩)
  have HB := Lib.hid (below_on hB hb2)
  have HP2 := Lib.hid (HP.out.up HB.out)
  obtain ⟨AR, cr, rfl, _, _, _⟩ := own_form ho
  have HR := Lib.hid (Row.of_own ho).1
  obtain ⟨ln, hln⟩ : ∃ ln, L.length = ln := ⟨_, rfl⟩
  have HLN := Lib.hid hln
  rw [hln]
  have hl3 : ln ≤ 300 := by rw [← hln]; exact HLL.out
  clear r0 r1 r2 r3 r4 r5 y1 R ho hb2 hB hln HP KR
  clear W1
  go_wp2
  go_loopw [6, 15] (fun v z wr => ∃ k : Nat, k ≤ n ∧ z = .int .i64 k ∧ NxtM w2 wr (slL L (ms.take k)) v) (fun _ z _ => n - (intOf z).toNat)
  case atStart => exact ⟨0, Nat.zero_le _, rfl, NxtM.start⟩
  case round =>
    obtain ⟨k, hk, rfl, N⟩ := hrel
    have HNX := Lib.hid N
    have hPr := HP2.out.up N.bel
    have HRr := Lib.hid (HR.out.up N.bel)
    have hzr := N.bel.size
    have hsl := sl_len L ms k
    clear N
    by_cases hlt : k < n
    · obtain ⟨m, hm⟩ := get_someF (l := ms) (k := k) (by rw [HN.out]; exact hlt)
      rcases hPr with h0 | ⟨g, o, rfl, hg, hcell⟩
      · rw [h0] at hm; simp at hm
      · obtain ⟨_, a0, a1, a2, a3⟩ := hcell k m hm
        have HSL := Lib.hid (sl_take (L := L) hm)
        have hk0 : (0 : Int) ≤ (k : Int) := by omega
        have hk1 : (k : Int) < (n : Int) := by omega
        clear hcell hm
        go_upto_region 6 with fail
        have hX := World.alloc_heap_new wr (.cells #[.int .i64 m.x, .slice m.f.A1 m.f.n1 m.f.c1, .slice m.f.A2 m.f.n2 m.f.c2, .bool m.f.u] 51)
        have hbx := below_al (Below.refl _ wr) (.cells #[.int .i64 m.x, .slice m.f.A1 m.f.n1 m.f.c1, .slice m.f.A2 m.f.n2 m.f.c2, .bool m.f.u] 51)
        generalize hxb : wr.heap.size = xb at hX hzr ⊢
        generalize wr.alloc (.cells #[.int .i64 m.x, .slice m.f.A1 m.f.n1 m.f.c1, .slice m.f.A2 m.f.n2 m.f.c2, .bool m.f.u] 51) = wx at hX hbx ⊢
        have HXX := Lib.hid hX
        obtain ⟨x0, x1, x2, x3⟩ := four_cellsS hX
        have yx := lt_heap hX
        clear a0 a1 a2 a3 hX
        have HNY := Lib.hid (HNX.out.up hbx)
        have HRy := Lib.hid (HRr.out.up hbx)
        obtain ⟨b, hb⟩ : ∃ b, L.contains m.x = b := ⟨_, rfl⟩
        have KS0 := bsr_any (c := cr) m.x wx HLN.out (by omega) HRy.out HSO.out
        rw [hb] at KS0
        have KS := Lib.hid KS0
        have HIN := Lib.hid (show inX L m = b from hb)
        clear hb KS0
        go_upto_region 7 with (go_at_call 50; (with_reducible refine KS.out.mono ?_); rintro e w3 ⟨⟨p, rfl⟩, hb3⟩)
        have HX3 := Lib.hid ((hb3.block _ yx).trans HXX.out)
        have HNZ := Lib.hid (HNY.out.up hb3)
        have hz3 := HNZ.out.bel.size
        clear x0 x1 x2 x3 yx hb3 hbx HNY HRy HXX
        obtain ⟨x0, x1, x2, x3⟩ := four_cellsS HX3.out
        have yx := lt_heap HX3.out
        obtain ⟨sl, hsl2⟩ : ∃ sl, (slL L (ms.take k)).length = sl := ⟨_, rfl⟩
        rw [hsl2] at hsl
        have HOW := HNZ.out.own
        rw [hsl2] at HOW
        have HOWN := Lib.hid HOW
        have HSN := Lib.hid hsl2
        clear HOW hsl2
        cases b with
        | true =>
          have HS2 := Lib.hid (show slL L (ms.take (k + 1)) = slL L (ms.take k) ++ [m] by rw [HSL.out, HIN.out, if_pos rfl])
          go_wp2_with (at_builtin; refine wpList_append_sm (by rfl) _ _ (by rfl) w2.heap.size sl w3.heap.size (slL L (ms.take k)) m _ (by rfl) (HOWN.out.alloc _) (by rfl) (smcells_at (World.alloc_heap_new _ _)) (by omega) (by simp; omega) ?_; intro v4 w4 ho4 hg4)
          exact ⟨⟨k + 1, hlt, by go_num, by rw [HS2.out]; exact HNZ.out.yes (by rw [HSN.out]; exact ho4) hg4⟩, by simp [intOf]; omega⟩
        | false =>
          have HS2 := Lib.hid (show slL L (ms.take (k + 1)) = slL L (ms.take k) by rw [HSL.out, HIN.out]; simp)
          go_wp2
          exact ⟨⟨k + 1, hlt, by go_num, by rw [HS2.out]; exact HNZ.out⟩, by simp [intOf]; omega⟩
    · obtain rfl : n = k := by omega
      have HFI := Lib.hid (show slL L (ms.take n) = slL L ms by rw [List.take_of_length_le (by rw [HN.out]; exact Nat.le_refl _)])
      clear hPr
      go_wp2
      go_ret
      rw [← HFI.out]
      exact HNX.out.ret HB.out

end Go.Proofs.YtdppooflbjlbcaaDoor.I
