/- Layer 5: rows of constants; append onto them; Add, in the package. -/
import Derived.Test.YthfegbhbokhlkaaGreatDoorPoolAdd
import Derived.ArgAppend
import Derived.Deep.AppendLies
import Derived.Test.YthfegbhbokhlkaaGreatDoorDescPsig
namespace Go.Proofs.YthfegbhbokhlkaaGreatDoor
open Go.ChangeShapes Go.WideShapes Go.ChangeAt Go.RowKit Go.PlainAid
set_option linter.unusedSimpArgs false
set_option linter.unusedVariables false

/-! ### the cells of a row of constants -/
def cnCells (p : Cn) : List Value := [.int .i64 p.t, .string p.s, .int .i64 p.n, .int .i64 p.a, .int .i64 p.b]
def pcells (ps : List Cn) : List Value := ps.flatMap cnCells
theorem pcells_cons (q : Cn) (ps : List Cn) : pcells (q :: ps) = cnCells q ++ pcells ps := by unfold pcells; rw [List.flatMap_cons]
theorem pcells_len (ps : List Cn) : (pcells ps).length = ps.length * 5 := by
  induction ps with
  | nil => rfl
  | cons p ps ih => rw [pcells_cons, List.length_append, ih, List.length_cons]; simp [cnCells]; omega
theorem pcells_app (ps qs : List Cn) : pcells (ps ++ qs) = pcells ps ++ pcells qs := by unfold pcells; simp
theorem pcells_one (p : Cn) : pcells [p] = cnCells p := by simp [pcells]
theorem pcells_cell (ps : List Cn) : ∀ u ∈ pcells ps, u.oneCell' = true := by
  intro u hu
  unfold pcells at hu
  obtain ⟨p, _, h⟩ := List.mem_flatMap.1 hu
  simp [cnCells] at h
  rcases h with rfl | rfl | rfl | rfl | rfl <;> rfl
theorem pcells_at : ∀ (ps : List Cn) (i : Nat) (p : Cn), ps[i]? = some p → (pcells ps)[i * 5]? = some (.int .i64 p.t) ∧ (pcells ps)[i * 5 + 1]? = some (.string p.s) ∧ (pcells ps)[i * 5 + 2]? = some (.int .i64 p.n) ∧ (pcells ps)[i * 5 + 3]? = some (.int .i64 p.a) ∧ (pcells ps)[i * 5 + 4]? = some (.int .i64 p.b)
  | [], i, p, h => by simp at h
  | q :: ps, 0, p, h => by
    simp at h; subst h
    exact ⟨rfl, rfl, rfl, rfl, rfl⟩
  | q :: ps, i + 1, p, h => by
    have ih := pcells_at ps i p (by simpa using h)
    rw [pcells_cons]
    have l5 : (cnCells q).length = 5 := rfl
    refine ⟨?_, ?_, ?_, ?_, ?_⟩
    · rw [List.getElem?_append_right (by omega), l5, show (i + 1) * 5 - 5 = i * 5 by omega]; exact ih.1
    · rw [List.getElem?_append_right (by omega), l5, show (i + 1) * 5 + 1 - 5 = i * 5 + 1 by omega]; exact ih.2.1
    · rw [List.getElem?_append_right (by omega), l5, show (i + 1) * 5 + 2 - 5 = i * 5 + 2 by omega]; exact ih.2.2.1
    · rw [List.getElem?_append_right (by omega), l5, show (i + 1) * 5 + 3 - 5 = i * 5 + 3 by omega]; exact ih.2.2.2.1
    · rw [List.getElem?_append_right (by omega), l5, show (i + 1) * 5 + 4 - 5 = i * 5 + 4 by omega]; exact ih.2.2.2.2
theorem pcells_read {w : World} {g o : Nat} {ps : List Cn} (h : ∀ (i : Nat) (c : Cn), ps[i]? = some c → w.cell? ⟨g, o + i * 5, none⟩ = some (.int .i64 c.t) ∧ w.cell? ⟨g, o + i * 5 + 1, none⟩ = some (.string c.s) ∧ w.cell? ⟨g, o + i * 5 + 2, none⟩ = some (.int .i64 c.n) ∧ w.cell? ⟨g, o + i * 5 + 3, none⟩ = some (.int .i64 c.a) ∧ w.cell? ⟨g, o + i * 5 + 4, none⟩ = some (.int .i64 c.b)) :
    ∀ j u, (pcells ps)[j]? = some u → w.cell? ⟨g, o + j, none⟩ = some u := by
  intro j u hj
  have hl : j < ps.length * 5 := by
    rcases Nat.lt_or_ge j (pcells ps).length with h1 | h1
    · rwa [pcells_len] at h1
    · rw [List.getElem?_eq_none h1] at hj; cases hj
  have hi : j / 5 < ps.length := by omega
  have hp : ps[j / 5]? = some (ps[j / 5]'hi) := List.getElem?_eq_getElem _
  obtain ⟨c0, c1, c2, c3, c4⟩ := h _ _ hp
  obtain ⟨d0, d1, d2, d3, d4⟩ := pcells_at _ _ _ hp
  rcases (by omega : j = j / 5 * 5 ∨ j = j / 5 * 5 + 1 ∨ j = j / 5 * 5 + 2 ∨ j = j / 5 * 5 + 3 ∨ j = j / 5 * 5 + 4) with e | e | e | e | e <;> rw [e] at hj ⊢ <;> (try simp only [← Nat.add_assoc])
  · rw [c0, ← hj, d0]
  · rw [c1, ← hj, d1]
  · rw [c2, ← hj, d2]
  · rw [c3, ← hj, d3]
  · rw [c4, ← hj, d4]
theorem Pool.cells {w : World} {B : Nat} {A : Option Addr} {L : List Cn} (h : Pool w B A L) : L = [] ∨ ∃ g o, A = some ⟨g, o, none⟩ ∧ g < B ∧ ∀ j u, (pcells L)[j]? = some u → w.cell? ⟨g, o + j, none⟩ = some u :=
  h.imp id fun ⟨g, o, hA, hg, hc⟩ => ⟨g, o, hA, hg, pcells_read hc⟩
theorem Pool.nil (w : World) (B : Nat) (A : Option Addr) : Pool w B A [] := Or.inl rfl
theorem Pool.of_own {w : World} {base e n c : Nat} {A : Option Addr} {ps : List Cn} (h : w.ownsRow base e 5 (.slice A n c) n (pcells ps)) (hn : ps.length = n) : Pool w w.heap.size A ps := by
  cases ps with
  | nil => exact Or.inl rfl
  | cons p ps =>
    obtain ⟨g, cap, hv, _, hlt⟩ := h.form (by rw [← hn, List.length_cons]; omega)
    have hA : A = some ⟨g, 0, none⟩ := by injection hv
    subst hA
    have hcap : c = cap := by injection hv
    subst hcap
    refine Or.inr ⟨g, 0, rfl, hlt, fun i q hi => ?_⟩
    obtain ⟨a, b, d, e', f⟩ := pcells_at _ i q hi
    have hil : i < (p :: ps).length := by
      rcases Nat.lt_or_ge i (p :: ps).length with h | h
      · exact h
      · rw [List.getElem?_eq_none h] at hi; cases hi
    refine ⟨?_, ?_, ?_, ?_, ?_⟩
    · rw [h.cellAt _ (by omega), Nat.zero_add]; exact a
    · rw [h.cellAt _ (by omega), Nat.zero_add]; exact b
    · rw [h.cellAt _ (by omega), Nat.zero_add]; exact d
    · rw [h.cellAt _ (by omega), Nat.zero_add]; exact e'
    · rw [h.cellAt _ (by omega), Nat.zero_add]; exact f
theorem own_cap {w : World} {base e size n m c : Nat} {A : Option Addr} {xs : List Value} (h : w.ownsRow base e size (.slice A n c) m xs) : m ≤ c := by
  rcases h.2 with ⟨hv, h0⟩ | ⟨g, cap, cur, hv, _, _, h1, _⟩
  · omega
  · have : c = cap := by injection hv
    omega
theorem grown_below {w w' : World} {row : Option Nat} {B : Nat} (h : w.grownBy w' row) (hr : ∀ k, row = some k → B ≤ k) (hB : B ≤ w.heap.size) : Below B w w' :=
  ⟨h.os, h.tape, h.output, h.size, fun k hk => h.block k (Nat.lt_of_lt_of_le hk hB) (fun e => by have := hr k e.symm; omega)⟩

theorem infoC : (Tryz.prog.info? 80).map (fun i => (i.zero, i.size, i.bytes)) = some (some (.agg #[.int .i64 0, .string ⟨#[]⟩, .int .i64 0, .int .i64 0, .int .i64 0]), 5, 48) := by kernel_rfl

/-- append of some constants onto a full row that came in: a new row -/
theorem run_append_pool {w : World} (ty : TypeId) {A : Option Addr} {n : Nat} {L : List Cn} (hL : Pool w w.heap.size A L) (hn : L.length = n) (hN : n ≤ 100000)
    {gx ox m c : Nat} {M : List Cn} (hM : ∀ j u, (pcells M)[j]? = some u → w.cell? ⟨gx, ox + j, none⟩ = some u) (hm : M.length = m) (hm0 : 0 < m) (hmN : m ≤ 100000) :
    ∃ g cap w', (Builtin.append_ #[22, 22] ty #[.slice A n n, .slice (some ⟨gx, ox, none⟩) m c]).run Tryz.prog w = .ok (.slice (some ⟨g, 0, none⟩) (n + m) cap) w' ∧
      w'.ownsRow w.heap.size 80 5 (.slice (some ⟨g, 0, none⟩) (n + m) cap) (n + m) (pcells (L ++ M)) ∧ Below w.heap.size w w' := by
  obtain ⟨i0, hi, hz0, hz1, hz2⟩ := info_parts infoC
  have hl := pcells_len M
  have fin : ∀ v' w', (Builtin.append_ #[22, 22] ty #[.slice A n n, .slice (some ⟨gx, ox, none⟩) m c]).run Tryz.prog w = .ok v' w' → w'.ownsRow w.heap.size 80 5 v' (n + m) (pcells L ++ pcells M) → w.grownBy w' none → ∃ g cap w', (Builtin.append_ #[22, 22] ty #[.slice A n n, .slice (some ⟨gx, ox, none⟩) m c]).run Tryz.prog w = .ok (.slice (some ⟨g, 0, none⟩) (n + m) cap) w' ∧
      w'.ownsRow w.heap.size 80 5 (.slice (some ⟨g, 0, none⟩) (n + m) cap) (n + m) (pcells (L ++ M)) ∧ Below w.heap.size w w' := by
    intro v' w' hr hown hgrow
    obtain ⟨g, cap, rfl, _, _⟩ := hown.form (by omega)
    rw [← pcells_app] at hown
    exact ⟨g, cap, w', hr, hown, grown_below hgrow (fun k hk => by cases hk) (Nat.le_refl _)⟩
  have news : ∀ j u, (pcells M)[j]? = some u → w.cell? ((⟨gx, ox, none⟩ : Addr).add j) = some u := fun j u hj => by rw [Addr.add_lit]; exact hM j u hj
  cases A with
  | some b =>
    obtain ⟨v', w', hr, h1, h2⟩ := run_append_arg_grows (P := Tryz.prog) w 22 ty 80 i0 (.agg #[.int .i64 0, .string ⟨#[]⟩, .int .i64 0, .int .i64 0, .int .i64 0]) 5 48 Tryz.underlying22 hi hz0 hz1 hz2 rfl (by decide) b n n (pcells L) (by rw [pcells_len, hn]) (by
      intro j u hj
      rcases hL.cells with rfl | ⟨g, o, hA, _, hc⟩
      · simp [pcells] at hj
      · obtain rfl := Option.some.inj hA
        rw [Addr.add_lit]
        exact hc j u hj) ⟨gx, ox, none⟩ m c (pcells M) (by rw [hl, hm]) news (by omega) (by unfold maxLen; omega) (by omega)
    exact fin v' w' hr h1 h2
  | none =>
    have h0 : L = [] := by
      rcases hL with rfl | ⟨g, o, hA, _⟩
      · rfl
      · cases hA
    subst h0
    obtain rfl : n = 0 := hn.symm
    obtain ⟨v', w', hr, h1, h2, _⟩ := run_append_own (P := Tryz.prog) w w.heap.size 22 ty 80 i0 (.agg #[.int .i64 0, .string ⟨#[]⟩, .int .i64 0, .int .i64 0, .int .i64 0]) 5 48 Tryz.underlying22 hi hz0 hz1 hz2 rfl (by decide) (.slice none 0 0) 0 [] (World.ownsRow_nil w _ _ 5) ⟨gx, ox, none⟩ m c (pcells M) (by rw [hl, hm]) news (pcells_cell M) (by unfold maxLen; omega) (by omega) (Nat.le_refl _)
    exact fin v' w' hr (by simpa [pcells] using h1) h2
theorem wp_append_pool {w : World} {o : Oper} {a : Act} {K : Act → World → Prop} {Q : Exit → Act → World → Prop} (s x : Operand)
    (hop : o.op = Op.call { callee := Callee.builtin Builtin.append, args := #[s, x], argTypes := #[22, 22] })
    {A : Option Addr} {n : Nat} {L : List Cn} (hs : a.eval s = .slice A n n) (hL : Pool w w.heap.size A L) (hn : L.length = n) (hN : n ≤ 100000)
    {gx ox m c : Nat} {M : List Cn} (hx : a.eval x = .slice (some ⟨gx, ox, none⟩) m c) (hM : ∀ j u, (pcells M)[j]? = some u → w.cell? ⟨gx, ox + j, none⟩ = some u) (hm : M.length = m) (hm0 : 0 < m) (hmN : m ≤ 100000)
    (hK : ∀ g cap w', w'.ownsRow w.heap.size 80 5 (.slice (some ⟨g, 0, none⟩) (n + m) cap) (n + m) (pcells (L ++ M)) → Below w.heap.size w w' → K (a.put o.dst (.slice (some ⟨g, 0, none⟩) (n + m) cap)) w') : o.wp Tryz.prog a w K Q := by
  obtain ⟨g, cap, w', hr, h2, h3⟩ := run_append_pool o.type hL hn hN hM hm hm0 hmN (c := c)
  unfold Oper.wp execOp
  simp only [hop, resolve, invoke, builtin, Sem.run_bind, Sem.run_pure, Result.andThen_ok, List.map_toArray, List.map_cons, List.map_nil, hs, hx, hr]
  exact hK g cap w' h2 h3
theorem wpList_append_pool {w : World} {ops : Array Oper} {rest : List Oper} {o : Oper} {a : Act} {Q : Exit → Act → World → Prop} (hg : o.guard = none) (s x : Operand)
    (hop : o.op = Op.call { callee := Callee.builtin Builtin.append, args := #[s, x], argTypes := #[22, 22] })
    {A : Option Addr} {n : Nat} {L : List Cn} (hs : a.eval s = .slice A n n) (hL : Pool w w.heap.size A L) (hn : L.length = n) (hN : n ≤ 100000)
    {gx ox m c : Nat} {M : List Cn} (hx : a.eval x = .slice (some ⟨gx, ox, none⟩) m c) (hM : ∀ j u, (pcells M)[j]? = some u → w.cell? ⟨gx, ox + j, none⟩ = some u) (hm : M.length = m) (hm0 : 0 < m) (hmN : m ≤ 100000)
    (hK : ∀ g cap w', w'.ownsRow w.heap.size 80 5 (.slice (some ⟨g, 0, none⟩) (n + m) cap) (n + m) (pcells (L ++ M)) → Below w.heap.size w w' → wpList Tryz.prog ops Q rest (a.put o.dst (.slice (some ⟨g, 0, none⟩) (n + m) cap)) w') : wpList Tryz.prog ops Q (o :: rest) a w :=
  wpList_plain hg fun _ hK' => wp_append_pool s x hop hs hL hn hN hx hM hm hm0 hmN fun g cap w' h2 h3 => hK' _ _ (hK g cap w' h2 h3)
theorem step_append_pool {w : World} {ops : Array Oper} {o : Oper} {a : Act} {K : Act → World → Prop} {Q : Exit → Act → World → Prop} {E : Prop} (hgd : o.guard = none) (s x : Operand)
    (hop : o.op = Op.call { callee := Callee.builtin Builtin.append, args := #[s, x], argTypes := #[22, 22] })
    {A : Option Addr} {n : Nat} {L : List Cn} (hs : a.eval s = .slice A n n) (hL : Pool w w.heap.size A L) (hn : L.length = n) (hN : n ≤ 100000)
    {gx ox m c : Nat} {M : List Cn} (hx : a.eval x = .slice (some ⟨gx, ox, none⟩) m c) (hM : ∀ j u, (pcells M)[j]? = some u → w.cell? ⟨gx, ox + j, none⟩ = some u) (hm : M.length = m) (hm0 : 0 < m) (hmN : m ≤ 100000)
    (hK : ∀ g cap w', w'.ownsRow w.heap.size 80 5 (.slice (some ⟨g, 0, none⟩) (n + m) cap) (n + m) (pcells (L ++ M)) → Below w.heap.size w w' → K (a.put o.dst (.slice (some ⟨g, 0, none⟩) (n + m) cap)) w') :
    if Region.wanted o (yielded ops a.tmps) = true then Oper.wp Tryz.prog o a w K Q else E := by
  have hw : Region.wanted o (yielded ops a.tmps) = true := by simp [Region.wanted, hgd]
  rw [if_pos hw]
  exact wp_append_pool s x hop hs hL hn hN hx hM hm hm0 hmN hK
/-- one constant in a block of its own -/
theorem one_cells {W : World} {B : Nat} {x : Cn} {t : TypeId} (h : W.heap[B]? = some (.cells #[.int .i64 x.t, .string x.s, .int .i64 x.n, .int .i64 x.a, .int .i64 x.b] t)) : ∀ j u, (pcells [x])[j]? = some u → W.cell? ⟨B, 0 + j, none⟩ = some u := by
  intro j u hj
  rw [pcells_one] at hj
  have := World.news_of_block h j u (by simpa [cnCells] using hj)
  rwa [Addr.add_lit] at this

end Go.Proofs.YthfegbhbokhlkaaGreatDoor
