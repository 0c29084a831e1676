/- Layer 5: Add, in the reference. -/
import Derived.Test.YthfegbhbokhlkaaGreatDoorPoolAddThree
namespace Go.Proofs.YthfegbhbokhlkaaGreatDoor
open Go.ChangeShapes Go.WideShapes Go.ChangeAt Go.RowKit Go.PlainAid
set_option linter.unusedSimpArgs false
set_option linter.unusedVariables false

theorem new_at {W : World} {o : Obj} {B : Nat} (hB : B = W.heap.size) : (W.alloc o).heap[B]? = some o := by subst hB; exact World.alloc_heap_new _ _
/-- a row of constants that the call has made itself -/
def OwnP (w : World) (base : Nat) (A : Option Addr) (n c : Nat) (L : List Cn) : Prop := L.length = n ∧ n ≤ c ∧ ((n = 0 ∧ c = 0) ∨ w.ownsRow base 80 5 (.slice A n c) n (pcells L))
theorem OwnP.pool {w : World} {base n c : Nat} {A : Option Addr} {L : List Cn} (h : OwnP w base A n c L) : Pool w w.heap.size A L := by
  rcases h with ⟨h1, _, ⟨h2, _⟩ | h2⟩
  · have : L = [] := List.eq_nil_of_length_eq_zero (by omega)
    subst this
    exact Pool.nil _ _ _
  · exact Pool.of_own h2 h1
theorem OwnP.below {w w' : World} {base n c : Nat} {A : Option Addr} {L : List Cn} (h : OwnP w base A n c L) (hb : Below w.heap.size w w') : OwnP w' base A n c L := ⟨h.1, h.2.1, h.2.2.imp id fun h => owns_below h hb⟩
theorem OwnP.more {w : World} {base base' n c : Nat} {A : Option Addr} {L : List Cn} (h : OwnP w base A n c L) (hb : base' ≤ base) : OwnP w base' A n c L :=
  ⟨h.1, h.2.1, h.2.2.imp id fun h => ⟨h.1, h.2.imp id fun ⟨g, cap, cur, h1, h2, h3⟩ => ⟨g, cap, cur, h1, Nat.le_trans hb h2, h3⟩⟩⟩
theorem OwnP.alloc {w : World} {base n c : Nat} {A : Option Addr} {L : List Cn} (h : OwnP w base A n c L) (o : Obj) : OwnP (w.alloc o) base A n c L := h.below ((Below.refl _ _).alloc (Nat.le_refl _) o)
theorem OwnP.drew {w : World} {base n c : Nat} {A : Option Addr} {L : List Cn} (h : OwnP w base A n c L) : OwnP w.drew base A n c L := h.below (Below.refl _ _).drew

theorem run_append_copy {w : World} (ty : TypeId) {B : Nat} {A : Option Addr} {n c : Nat} {L : List Cn} (hL : Pool w w.heap.size A L) (hn : L.length = n) (hN : n ≤ 100000) :
    ∃ A' c' w', (Builtin.append_ #[22, 22] ty #[.slice (some ⟨B, 0, none⟩) 0 0, .slice A n c]).run Tryz.prog w = .ok (.slice A' n c') w' ∧ OwnP w' w.heap.size A' n c' L ∧ Below w.heap.size w w' := by
  rcases hL.cells with rfl | ⟨g, o, rfl, _, hc⟩
  · obtain rfl : n = 0 := hn.symm
    refine ⟨some ⟨B, 0, none⟩, 0, w, ?_, ⟨rfl, Nat.le_refl _, Or.inl ⟨rfl, rfl⟩⟩, Below.refl _ _⟩
    obtain ⟨i0, hi, hz0, hz1, hz2⟩ := info_parts infoC
    cases A with
    | none => simp [Builtin.append_, run_underlying Tryz.underlying22, sizeOf, typeInfo, hi, Builtin.lenOf, Builtin.firstCells, storeCells]
    | some b => simp [Builtin.append_, run_underlying Tryz.underlying22, sizeOf, typeInfo, hi, Builtin.lenOf, Builtin.firstCells, storeCells, loadCells, loadCellsFrom]
  · rcases Nat.eq_zero_or_pos n with h0 | h0
    · subst h0
      obtain rfl : L = [] := List.eq_nil_of_length_eq_zero hn
      refine ⟨some ⟨B, 0, none⟩, 0, w, ?_, ⟨rfl, Nat.le_refl _, Or.inl ⟨rfl, rfl⟩⟩, Below.refl _ _⟩
      obtain ⟨i0, hi, hz0, hz1, hz2⟩ := info_parts infoC
      simp [Builtin.append_, run_underlying Tryz.underlying22, sizeOf, typeInfo, hi, Builtin.lenOf, Builtin.firstCells, storeCells, loadCells, loadCellsFrom]
    · obtain ⟨g', cap, w', hr, h1, h2⟩ := run_append_pool (A := some ⟨B, 0, none⟩) (n := 0) (L := []) (c := c) ty (Pool.nil w _ _) rfl (by omega) hc hn h0 hN
      rw [Nat.zero_add] at hr h1
      exact ⟨_, cap, w', hr, ⟨hn, own_cap h1, Or.inr h1⟩, h2⟩
theorem run_append_own_pool {w : World} (ty : TypeId) {base n c : Nat} {A : Option Addr} {L : List Cn} (hO : OwnP w base A n c L) (hN : n ≤ 100000) (hb : base ≤ w.heap.size)
    {gx ox m cx : Nat} {M : List Cn} (hM : ∀ j u, (pcells M)[j]? = some u → w.cell? ⟨gx, ox + j, none⟩ = some u) (hm : M.length = m) (hm0 : 0 < m) (hmN : m ≤ 100000) :
    ∃ A' c' w', (Builtin.append_ #[22, 22] ty #[.slice A n c, .slice (some ⟨gx, ox, none⟩) m cx]).run Tryz.prog w = .ok (.slice A' (n + m) c') w' ∧ OwnP w' base A' (n + m) c' (L ++ M) ∧ Below base w w' := by
  have hlen : (L ++ M).length = n + m := by rw [List.length_append, hO.1, hm]
  rcases hO.2.2 with ⟨h1, h2⟩ | h
  · subst h1; subst h2
    obtain rfl : L = [] := List.eq_nil_of_length_eq_zero hO.1
    obtain ⟨g', cap, w', hr, h1, h2⟩ := run_append_pool (A := A) (n := 0) (L := []) (c := cx) ty (Pool.nil w _ _) rfl (by omega) hM hm hm0 hmN
    exact ⟨_, cap, w', hr, OwnP.more ⟨hlen, own_cap h1, Or.inr h1⟩ hb, h2.mono hb⟩
  · obtain ⟨i0, hi, hz0, hz1, hz2⟩ := info_parts infoC
    obtain ⟨g, cap, w', hr, h1, h2, _, _⟩ := run_append_lies (P := Tryz.prog) w 22 ty base 80 i0 (.agg #[.int .i64 0, .string ⟨#[]⟩, .int .i64 0, .int .i64 0, .int .i64 0]) 5 48 Tryz.underlying22 hi hz0 hz1 hz2 rfl (by decide) (.slice A n c) n (pcells L) h ⟨gx, ox, none⟩ m cx (pcells M) (by rw [pcells_len, hm]) (fun j u hj => by rw [Addr.add_lit]; exact hM j u hj) (pcells_cell M) hm0 (by unfold maxLen; omega) (by omega) hb w.heap.size rfl
    rw [← pcells_app] at h1
    refine ⟨_, cap, w', hr, ⟨hlen, own_cap h1, Or.inr h1⟩, grown_below h2 (fun k hk => ?_) hb⟩
    rcases h.2 with ⟨hv, _⟩ | ⟨g2, cap2, cur2, hv, hg2, _⟩
    · rw [hv] at hk; cases hk
    · rw [hv] at hk
      have : g2 = k := Option.some.inj hk
      omega
theorem wp_append_copy {w : World} {o : Oper} {a : Act} {K : Act → World → Prop} {Q : Exit → Act → World → Prop} (s x : Operand) (hop : o.op = Op.call { callee := Callee.builtin Builtin.append, args := #[s, x], argTypes := #[22, 22] })
    {B n c : Nat} {A : Option Addr} {L : List Cn} (hs : a.eval s = .slice (some ⟨B, 0, none⟩) 0 0) (hx : a.eval x = .slice A n c) (hL : Pool w w.heap.size A L) (hn : L.length = n) (hN : n ≤ 100000)
    (hK : ∀ A' c' w', OwnP w' w.heap.size A' n c' L → Below w.heap.size w w' → K (a.put o.dst (.slice A' n c')) w') : o.wp Tryz.prog a w K Q := by
  obtain ⟨A', c', w', hr, h2, h3⟩ := run_append_copy o.type (B := B) (c := c) hL hn hN
  unfold Oper.wp execOp
  simp only [hop, resolve, invoke, builtin, Sem.run_bind, Sem.run_pure, Result.andThen_ok, List.map_toArray, List.map_cons, List.map_nil, hs, hx, hr]
  exact hK A' c' w' h2 h3
theorem wpList_append_copy {w : World} {ops : Array Oper} {rest : List Oper} {o : Oper} {a : Act} {Q : Exit → Act → World → Prop} (hg : o.guard = none) (s x : Operand) (hop : o.op = Op.call { callee := Callee.builtin Builtin.append, args := #[s, x], argTypes := #[22, 22] })
    {B n c : Nat} {A : Option Addr} {L : List Cn} (hs : a.eval s = .slice (some ⟨B, 0, none⟩) 0 0) (hx : a.eval x = .slice A n c) (hL : Pool w w.heap.size A L) (hn : L.length = n) (hN : n ≤ 100000)
    (hK : ∀ A' c' w', OwnP w' w.heap.size A' n c' L → Below w.heap.size w w' → wpList Tryz.prog ops Q rest (a.put o.dst (.slice A' n c')) w') : wpList Tryz.prog ops Q (o :: rest) a w :=
  wpList_plain hg fun _ hK' => wp_append_copy s x hop hs hx hL hn hN fun A' c' w' h2 h3 => hK' _ _ (hK A' c' w' h2 h3)
theorem step_append_copy {w : World} {ops : Array Oper} {o : Oper} {a : Act} {K : Act → World → Prop} {Q : Exit → Act → World → Prop} {E : Prop} (hgd : o.guard = none) (s x : Operand) (hop : o.op = Op.call { callee := Callee.builtin Builtin.append, args := #[s, x], argTypes := #[22, 22] })
    {B n c : Nat} {A : Option Addr} {L : List Cn} (hs : a.eval s = .slice (some ⟨B, 0, none⟩) 0 0) (hx : a.eval x = .slice A n c) (hL : Pool w w.heap.size A L) (hn : L.length = n) (hN : n ≤ 100000)
    (hK : ∀ A' c' w', OwnP w' w.heap.size A' n c' L → Below w.heap.size w w' → K (a.put o.dst (.slice A' n c')) w') : if Region.wanted o (yielded ops a.tmps) = true then Oper.wp Tryz.prog o a w K Q else E := by
  have hw : Region.wanted o (yielded ops a.tmps) = true := by simp [Region.wanted, hgd]
  rw [if_pos hw]
  exact wp_append_copy s x hop hs hx hL hn hN hK
theorem wp_append_own {w : World} {o : Oper} {a : Act} {K : Act → World → Prop} {Q : Exit → Act → World → Prop} (s x : Operand) (hop : o.op = Op.call { callee := Callee.builtin Builtin.append, args := #[s, x], argTypes := #[22, 22] })
    {base n c : Nat} {A : Option Addr} {L : List Cn} (hs : a.eval s = .slice A n c) (hO : OwnP w base A n c L) (hN : n ≤ 100000) (hb : base ≤ w.heap.size) {gx ox m cx : Nat} {M : List Cn} (hx : a.eval x = .slice (some ⟨gx, ox, none⟩) m cx) (hM : ∀ j u, (pcells M)[j]? = some u → w.cell? ⟨gx, ox + j, none⟩ = some u) (hm : M.length = m) (hm0 : 0 < m) (hmN : m ≤ 100000)
    (hK : ∀ A' c' w', OwnP w' base A' (n + m) c' (L ++ M) → Below base w w' → K (a.put o.dst (.slice A' (n + m) c')) w') : o.wp Tryz.prog a w K Q := by
  obtain ⟨A', c', w', hr, h2, h3⟩ := run_append_own_pool o.type (cx := cx) hO hN hb hM hm hm0 hmN
  unfold Oper.wp execOp
  simp only [hop, resolve, invoke, builtin, Sem.run_bind, Sem.run_pure, Result.andThen_ok, List.map_toArray, List.map_cons, List.map_nil, hs, hx, hr]
  exact hK A' c' w' h2 h3
theorem wpList_append_own {w : World} {ops : Array Oper} {rest : List Oper} {o : Oper} {a : Act} {Q : Exit → Act → World → Prop} (hg : o.guard = none) (s x : Operand) (hop : o.op = Op.call { callee := Callee.builtin Builtin.append, args := #[s, x], argTypes := #[22, 22] })
    {base n c : Nat} {A : Option Addr} {L : List Cn} (hs : a.eval s = .slice A n c) (hO : OwnP w base A n c L) (hN : n ≤ 100000) (hb : base ≤ w.heap.size) {gx ox m cx : Nat} {M : List Cn} (hx : a.eval x = .slice (some ⟨gx, ox, none⟩) m cx) (hM : ∀ j u, (pcells M)[j]? = some u → w.cell? ⟨gx, ox + j, none⟩ = some u) (hm : M.length = m) (hm0 : 0 < m) (hmN : m ≤ 100000)
    (hK : ∀ A' c' w', OwnP w' base A' (n + m) c' (L ++ M) → Below base w w' → wpList Tryz.prog ops Q rest (a.put o.dst (.slice A' (n + m) c')) w') : wpList Tryz.prog ops Q (o :: rest) a w :=
  wpList_plain hg fun _ hK' => wp_append_own s x hop hs hO hN hb hx hM hm hm0 hmN fun A' c' w' h2 h3 => hK' _ _ (hK A' c' w' h2 h3)
theorem step_append_own {w : World} {ops : Array Oper} {o : Oper} {a : Act} {K : Act → World → Prop} {Q : Exit → Act → World → Prop} {E : Prop} (hgd : o.guard = none) (s x : Operand) (hop : o.op = Op.call { callee := Callee.builtin Builtin.append, args := #[s, x], argTypes := #[22, 22] })
    {base n c : Nat} {A : Option Addr} {L : List Cn} (hs : a.eval s = .slice A n c) (hO : OwnP w base A n c L) (hN : n ≤ 100000) (hb : base ≤ w.heap.size) {gx ox m cx : Nat} {M : List Cn} (hx : a.eval x = .slice (some ⟨gx, ox, none⟩) m cx) (hM : ∀ j u, (pcells M)[j]? = some u → w.cell? ⟨gx, ox + j, none⟩ = some u) (hm : M.length = m) (hm0 : 0 < m) (hmN : m ≤ 100000)
    (hK : ∀ A' c' w', OwnP w' base A' (n + m) c' (L ++ M) → Below base w w' → K (a.put o.dst (.slice A' (n + m) c')) w') : if Region.wanted o (yielded ops a.tmps) = true then Oper.wp Tryz.prog o a w K Q else E := by
  have hw : Region.wanted o (yielded ops a.tmps) = true := by simp [Region.wanted, hgd]
  rw [if_pos hw]
  exact wp_append_own s x hop hs hO hN hb hx hM hm hm0 hmN hK

end Go.Proofs.YthfegbhbokhlkaaGreatDoor
