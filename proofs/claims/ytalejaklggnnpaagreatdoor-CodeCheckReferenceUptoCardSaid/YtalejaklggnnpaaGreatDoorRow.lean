import Derived.Test.YtalejaklggnnpaaGreatDoorIn
import Derived.Laws.AppendOwnNone
import Derived.Laws.OwnMore
/- Rows of numbers: appended, handed back. -/
namespace Go.Proofs.YtalejaklggnnpaaGreatDoor.I
open Go.ChangeShapes Go.WideShapes Go.ChangeAt Go.RowKit Go.PlainAid
set_option linter.unusedSimpArgs false
set_option linter.unusedVariables false
def Ri (L : List Int) : List Value := L.map (Value.int .i64)
theorem ri_len (L : List Int) : (Ri L).length = L.length := List.length_map _
theorem ri_one (L : List Int) : ∀ u ∈ Ri L, u.oneCell' = true := by
 intro u hu
 obtain ⟨x, _, rfl⟩ := List.mem_map.1 hu
 rfl
theorem ri_app (L M : List Int) : Ri (L ++ M) = Ri L ++ Ri M := List.map_append
/-- the form of a row of the call's own -/
theorem own_form {w : World} {base e size n : Nat} {v : Value} {xs : List Value} (h : w.ownsRow base e size v n xs) : ∃ A c, v = .slice A n c ∧ n ≤ c ∧ c ≤ maxLen ∧ (A = none → c = 0) := by
 rcases h.2 with ⟨rfl, h0⟩ | ⟨g, cap, cur, rfl, _, _, h1, h2, _⟩
 ·
  exact ⟨none, 0, by rw [h0], by omega, Nat.zero_le _, fun _ => rfl⟩
 ·
  exact ⟨_, cap, rfl, h1, h2, fun h => by cases h⟩
theorem Row.of_own {w : World} {base e n c : Nat} {A : Option Addr} {L : List Int} (h : w.ownsRow base e 1 (.slice A n c) n (Ri L)) : Row w w.heap.size A L ∧ L.length = n := by
 have hn : L.length = n := by have := h.1; rw [ri_len] at this; omega
 refine ⟨?_, hn⟩
 cases L with
 | nil => exact Or.inl rfl
 | cons x xs =>
  obtain ⟨g, cap, hv, _, hlt⟩ := h.form (by rw [← hn, List.length_cons]; omega)
  have hA : A = some ⟨g, 0, none⟩ := by injection hv
  subst hA
  have hcap : c = cap := by injection hv
  subst hcap
  refine Or.inr ⟨g, 0, rfl, hlt, fun j y hj => ?_⟩
  have hjl : j < (x :: xs).length := by
   rcases Nat.lt_or_ge j (x :: xs).length with h | h
   ·
    exact h
   ·
    rw [List.getElem?_eq_none h] at hj; cases hj
  rw [Nat.zero_add, h.cellAt j (by omega)]
  unfold Ri
  rw [List.getElem?_map, hj]; rfl
theorem Row.news {w : World} {B : Nat} {ad : Addr} {L : List Int} (h : Row w B (some ad) L) : ∀ j u, (Ri L)[j]? = some u → w.cell? (ad.add j) = some u := by
 intro j u hu
 rcases h with rfl | ⟨g, o, hA, hg, hc⟩
 ·
  simp [Ri] at hu
 ·
  obtain rfl : ad = ⟨g, o, none⟩ := by injection hA
  unfold Ri at hu
  rw [List.getElem?_map] at hu
  cases hx : L[j]? with
  | none => rw [hx] at hu; cases hu
  | some x =>
   rw [hx] at hu
   injection hu with hu
   rw [← hu]
   have := hc j x hx
   rcases Nat.eq_zero_or_pos j with rfl | hj
   ·
    simpa [Addr.add] using this
   ·
    have : j ≠ 0 := by omega
    simpa [Addr.add, this] using hc j x hx
theorem Row.one {w : World} {g : Nat} {x : Int} {B : Nat} (h : w.cell? ⟨g, 0, none⟩ = some (.int .i64 x)) (hg : g < B) : Row w B (some ⟨g, 0, none⟩) [x] := by
 refine Or.inr ⟨g, 0, rfl, hg, fun j y hj => ?_⟩
 cases j with
 | zero => injection hj with hj; rw [← hj]; exact h
 | succ j => simp at hj
theorem ten_cell0 {W : World} {B : Nat} {x : Value} {t : TypeId} (h : W.heap[B]? = some (.cells #[x] t)) : W.cell? ⟨B, 0, none⟩ = some x := by simp [World.cell?, h]
theorem grown_cell {w w' : World} {row : Option Nat} {B j : Nat} (h : w.grownBy w' row) (hB : B < w.heap.size) (hr : row ≠ some B) : w'.cell? ⟨B, j, none⟩ = w.cell? ⟨B, j, none⟩ := by
 have := h.block B hB (fun e => hr e.symm)
 simp [World.cell?, this]
theorem grown_own {w W w' : World} {e size n : Nat} {v : Value} {xs : List Value} (hb : Below w.heap.size w W) (ho : W.ownsRow w.heap.size e size v n xs) (h : W.grownBy w' v.ownBlock) : Below w.heap.size w w' :=
 hb.trans (grown_below h (fun k hk => (ho.lt k hk).1) hb.size)
theorem infoI : (Tryz.prog.info? 3).map (fun i => (i.zero, i.size, i.bytes)) = some (some (.int .i64 0), 1, 8) := by kernel_rfl
theorem wpList_append_ints {w : World} {ops : Array Oper} {rest : List Oper} {o : Oper} {a : Act} {Q : Exit → Act → World → Prop} (hg : o.guard = none) (s x : Operand)
  (hop : o.op = Op.call { callee := Callee.builtin Builtin.append, args := #[s, x], argTypes := #[42, 42] })
  (base n m c B : Nat) (xs L : List Int) (v : Value) (A : Option Addr) (hs : a.eval s = v) (hown : w.ownsRow base 3 1 v n (Ri xs)) (hx : a.eval x = .slice A m c)
  (hrow : Row w B A L) (hl : L.length = m) (hnil : A = none → c = 0) (hb : (n + m) * 8 ≤ 140737488355328) (hbase : base ≤ w.heap.size)
  (h : ∀ v' w', w'.ownsRow base 3 1 v' (n + m) (Ri (xs ++ L)) → w.grownBy w' v.ownBlock → wpList Tryz.prog ops Q rest (a.put o.dst v') w') : wpList Tryz.prog ops Q (o :: rest) a w := by
 obtain ⟨i0, hi, hz0, hz1, hz2⟩ := info_parts infoI
 cases A with
 | none =>
  obtain rfl : c = 0 := hnil rfl
  obtain rfl : L = [] := by
   rcases hrow with h | ⟨g, o, hA, _⟩
   ·
    exact h
   ·
    cases hA
  obtain rfl : m = 0 := hl.symm
  exact wpList_append_own_none hg s x 42 hop base 3 i0 1 Tryz.underlying42 hi v n (Ri xs) hs hown hx (h v w (by rw [List.append_nil]; exact hown) (World.grownBy.refl _ _))
 | some ad =>
  refine _root_.Go.wpList_append_own (w := w) hg s x 42 hop base 3 i0 (.int .i64 0) 1 8 Tryz.underlying42 hi hz0 hz1 hz2 rfl (by decide) v n (Ri xs) hs hown ad m c (Ri L) hx (by rw [ri_len]; omega) hrow.news (ri_one L) (by unfold maxLen; omega) (by omega) hbase ?_
  intro v' w' h1 h2 _
  exact h v' w' (by rw [ri_app]; exact h1) h2
set_option maxRecDepth 100000 in
theorem run_append_keep (ty : TypeId) {w : World} {base n g cap m c B : Nat} {xs L : List Int} {ad : Addr} (hown : w.ownsRow base 3 1 (.slice (some ⟨g, 0, none⟩) n cap) n (Ri xs)) (hrow : Row w B (some ad) L) (hl : L.length = m) (hb : n + m ≤ 10000000) (hbase : base ≤ w.heap.size) :
  ∃ v' w', (Builtin.append_ #[42, 42] ty #[.slice (some ⟨g, 0, none⟩) n cap, .slice (some ad) m c]).run Tryz.prog w = .ok v' w' ∧ w'.ownsRow base 3 1 v' (n + m) (Ri (xs ++ L)) ∧ w.grownBy w' (some g) ∧ ∀ j, j < n → w'.cell? ⟨g, j, none⟩ = w.cell? ⟨g, j, none⟩ := by
 obtain ⟨i0, hi, hz0, hz1, hz2⟩ := info_parts infoI
 have hnl : (Ri L).length = m * 1 := by rw [ri_len]; omega
 obtain ⟨v', w', hr, h1, h2, _⟩ := run_append_own (P := Tryz.prog) w base 42 ty 3 i0 (.int .i64 0) 1 8 Tryz.underlying42 hi hz0 hz1 hz2 rfl (by decide) (.slice (some ⟨g, 0, none⟩) n cap) n (Ri xs) hown ad m c (Ri L) hnl hrow.news (ri_one L) (by unfold maxLen; omega) (by omega) hbase
 refine ⟨v', w', hr, by rw [ri_app]; exact h1, h2, fun j hj => ?_⟩
 have hxl : (Ri xs).length = n := by have := hown.1; omega
 have hlt : g < w.heap.size := (hown.lt g rfl).2
 by_cases hroom : n + m ≤ cap
 ·
  rcases hown.2 with ⟨hv, _⟩ | ⟨g', cap', cur, hv, hbg, hg, hnc, hcm, hcs, htake⟩
  ·
   cases hv
  ·
   have e1 : g = g' := by injection hv with h _ _; injection h with h; injection h
   have e2 : cap = cap' := by injection hv
   subst e1 e2
   have hr2 := run_append_room (P := Tryz.prog) w 42 ty 3 i0 Tryz.underlying42 hi g n cap cur hg ad m c (Ri L) (by rw [hz1]; exact hnl) hrow.news (ri_one L) hroom (by rw [hz1, hnl]; omega)
   rw [hr2] at hr
   injection hr with hv' hw'
   rw [← hv'] at h1
   rw [h1.cellAt j (by omega), hown.cellAt j (by omega), List.getElem?_append_left (by omega)]
 ·
  obtain ⟨v2, w2, hr2, g1, g2⟩ := run_append_arg_grows (P := Tryz.prog) w 42 ty 3 i0 (.int .i64 0) 1 8 Tryz.underlying42 hi hz0 hz1 hz2 rfl (by decide) ⟨g, 0, none⟩ n cap (Ri xs) (by omega) (hown.cells (g := g) rfl) ad m c (Ri L) hnl hrow.news (by omega) (by unfold maxLen; omega) (by omega)
  rw [hr2] at hr
  injection hr with hv' hw'
  rw [← hw']
  exact grown_cell g2 hlt (fun e => by cases e)
set_option maxRecDepth 100000 in
theorem step_append_keep {w : World} {ops : Array Oper} {o : Oper} {a : Act} {K : Act → World → Prop} {Q : Exit → Act → World → Prop} {E : Prop} (hg : o.guard = none) (s x : Operand)
  (hop : o.op = Op.call { callee := Callee.builtin Builtin.append, args := #[s, x], argTypes := #[42, 42] })
  (base n m c g cap : Nat) (xs L : List Int) (ad : Addr) (hs : a.eval s = .slice (some ⟨g, 0, none⟩) n cap) (hown : w.ownsRow base 3 1 (.slice (some ⟨g, 0, none⟩) n cap) n (Ri xs)) (hx : a.eval x = .slice (some ad) m c)
  (hrow : Row w w.heap.size (some ad) L) (hl : L.length = m) (hb : n + m ≤ 10000000) (hbase : base ≤ w.heap.size)
  (h : ∀ v' w', w'.ownsRow base 3 1 v' (n + m) (Ri (xs ++ L)) → Below base w w' → (∀ j, j < n → w'.cell? ⟨g, j, none⟩ = w.cell? ⟨g, j, none⟩) → K (a.put o.dst v') w') : if Region.wanted o (yielded ops a.tmps) = true then Oper.wp Tryz.prog o a w K Q else E := by
 have hw : Region.wanted o (yielded ops a.tmps) = true := by simp [Region.wanted, hg]
 rw [if_pos hw]
 obtain ⟨v', w', hr, h1, h2, h3⟩ := run_append_keep o.type (c := c) hown hrow hl hb hbase
 unfold Oper.wp execOp
 simp only [hop, resolve, invoke, builtin, Sem.run_bind, Sem.run_pure, Result.andThen_ok, List.map_toArray, List.map_cons, List.map_nil, hs, hx, hr]
 exact h v' w' h1 (grown_below h2 (fun k hk => by injection hk with hk; rw [← hk]; exact (hown.lt g rfl).1) hbase) h3
/-- what a function hands back that returns numbers -/
def IntsRet (w : World) (L : List Int) (e : Ending) (w' : World) : Prop :=
 ∃ A c, e = .returned (.slice A L.length c) ∧ L.length ≤ c ∧ c ≤ maxLen ∧ (A = none → c = 0) ∧ Row w' w'.heap.size A L ∧ Below w.heap.size w w'
theorem ints_nil (w : World) {w' : World} (h : Below w.heap.size w w') : IntsRet w [] (.returned (.slice none 0 0)) w' := ⟨none, 0, rfl, Nat.le_refl _, Nat.zero_le _, fun _ => rfl, Or.inl rfl, h⟩
theorem ints_own {w w' : World} {base n : Nat} {v : Value} {L : List Int} (h : w'.ownsRow base 3 1 v n (Ri L)) (hb : Below w.heap.size w w') : IntsRet w L (.returned v) w' := by
 obtain ⟨A, c, rfl, h1, h2, h3⟩ := own_form h
 obtain ⟨hr, rfl⟩ := Row.of_own h
 exact ⟨A, c, rfl, h1, h2, h3, hr, hb⟩
theorem own_one {w : World} (x : Int) {base : Nat} (hb : base ≤ w.heap.size) : (w.alloc (.cells #[.int .i64 x] 3)).ownsRow base 3 1 (.slice (some ⟨w.heap.size, 0, none⟩) 1 1) 1 (Ri [x]) :=
 World.ownsRow_lit w #[.int .i64 x] 1 hb (by unfold maxLen; omega) rfl
theorem own_below {w w' : World} {base e size n : Nat} {v : Value} {xs : List Value} (h : w.ownsRow base e size v n xs) (hb : Below w.heap.size w w') : w'.ownsRow base e size v n xs := by
 refine ⟨h.1, ?_⟩
 rcases h.2 with h2 | ⟨g, cap, cur, hv, hg, hh, rest⟩
 ·
  exact Or.inl h2
 ·
  exact Or.inr ⟨g, cap, cur, hv, hg, (hb.block g (lt_heap hh)).trans hh, rest⟩
theorem own_below2 {w w' : World} {base e size n : Nat} {v : Value} {xs : List Value} (hb : Below w.heap.size w w') (h : w.ownsRow base e size v n xs) : w'.ownsRow base e size v n xs := own_below h hb
/-- nil only without capacity -/
def In.nz (i : In) : Prop := (i.kA = none → i.kc = 0) ∧ (i.tA = none → i.tc = 0)
end Go.Proofs.YtalejaklggnnpaaGreatDoor.I
