/- Layer 42: rows of values (kind, number) in memory. -/
import Derived.Test.YtgiglbjkijlchaaIn0
import Derived.Test.YtgiglbjkijlchaaReg
import Derived.Laws.AppendOwnNone
import Derived.Laws.OwnMore
namespace Go.Proofs.Ytgiglbjkijlchaa
open Go.ChangeShapes Go.WideShapes Go.ChangeAt Go.RowKit Go.PlainAid
set_option linter.unusedSimpArgs false
set_option linter.unusedVariables false

abbrev Va := Int × Int
def prow (L : List Va) : List Value := L.flatMap fun p => [.int .i64 p.1, .int .i64 p.2]
theorem prow_len (L : List Va) : (prow L).length = L.length * 2 := by
  unfold prow
  induction L with
  | nil => rfl
  | cons p L ih => rw [List.flatMap_cons, List.length_append, ih, List.length_cons]; simp; omega
theorem prow_app (L M : List Va) : prow (L ++ M) = prow L ++ prow M := by unfold prow; simp
theorem prow_at : ∀ (L : List Va) (k : Nat) (p : Va), L[k]? = some p → (prow L)[k * 2]? = some (.int .i64 p.1) ∧ (prow L)[k * 2 + 1]? = some (.int .i64 p.2)
  | [], k, p, h => by simp at h
  | x :: L, 0, p, h => by
    obtain rfl : x = p := by simpa using h
    exact ⟨rfl, rfl⟩
  | x :: L, k + 1, p, h => by
    have ih := prow_at L k p (by simpa using h)
    rw [show (k + 1) * 2 = k * 2 + 1 + 1 by omega]
    exact ⟨ih.1, ih.2⟩
theorem prow_one : ∀ (L : List Va), ∀ u ∈ prow L, u.oneCell' = true
  | [], u, h => by cases h
  | p :: L, u, h => by
    unfold prow at h
    rw [List.flatMap_cons] at h
    rcases List.mem_append.1 h with h | h
    · simp at h
      rcases h with rfl | rfl <;> rfl
    · exact prow_one L u h
theorem prow_take (L : List Va) (k : Nat) : prow (L.take k) = (prow L).take (k * 2) := by
  induction L generalizing k with
  | nil => simp [prow]
  | cons p L ih =>
    cases k with
    | zero => simp [prow]
    | succ k =>
      have := ih k
      unfold prow at *
      rw [List.take_succ_cons, List.flatMap_cons, this, List.flatMap_cons, show (k + 1) * 2 = k * 2 + 2 by omega]
      rfl
theorem get_someF {α : Type} {l : List α} {k : Nat} (h : k < l.length) : ∃ x, l[k]? = some x := ⟨l[k], List.getElem?_eq_getElem _⟩
theorem get_ltF {α : Type} {l : List α} {k : Nat} {x : α} (h : l[k]? = some x) : k < l.length := by
  rcases Nat.lt_or_ge k l.length with h' | h'
  · exact h'
  · rw [List.getElem?_eq_none h'] at h; cases h
theorem lt_heapV {W : World} {B : Nat} {o : Obj} (h : W.heap[B]? = some o) : B < W.heap.size := by
  rcases Nat.lt_or_ge B W.heap.size with h' | h'
  · exact h'
  · rw [Array.getElem?_eq_none h'] at h; cases h
theorem infoV : (Try.prog.info? 42).map (fun i => (i.zero, i.size, i.bytes)) = some (some (.agg #[.int .i64 0, .int .i64 0]), 2, 16) := by kernel_rfl
/-- where a grown row lies: where it lay, or in a new block -/
def Lies (w : World) (v v' : Value) : Prop := v'.ownBlock = v.ownBlock ∨ ∃ g, v'.ownBlock = some g ∧ w.heap.size ≤ g
theorem Lies.refl (w : World) (v : Value) : Lies w v v := Or.inl rfl
theorem info_partsV {i? : Option TypeInfo} {z : Option Value} {s b : Nat} (h : i?.map (fun i => (i.zero, i.size, i.bytes)) = some (z, s, b)) : ∃ i, i? = some i ∧ i.zero = z ∧ i.size = s ∧ i.bytes = b := by
  cases i? with
  | none => cases h
  | some i =>
    have h := Option.some.inj h
    injection h with h1 h2
    injection h2 with h2 h3
    exact ⟨i, rfl, h1, h2, h3⟩
theorem wpList_app {w : World} {ops : Array Oper} {rest : List Oper} {o : Oper} {a : Act} {Q : Exit → Act → World → Prop} (hg : o.guard = none) (s x : Operand)
    (hop : o.op = Op.call { callee := Callee.builtin Builtin.append, args := #[s, x], argTypes := #[22, 22] })
    (base n m c : Nat) (L M : List Va) (v : Value) (ad : Addr) (hs : a.eval s = v) (hown : w.ownsRow base 42 2 v n (prow L)) (hx : a.eval x = .slice (some ad) m c)
    (hm : M.length = m) (h0 : 0 < m) (hnews : ∀ (j : Nat) (u : Value), (prow M)[j]? = some u → w.cell? (ad.add j) = some u) (hb : n + m ≤ 10000000) (hbase : base ≤ w.heap.size)
    (h : ∀ A' c' w', w'.ownsRow base 42 2 (.slice A' (n + m) c') (n + m) (prow (L ++ M)) → w.grownBy w' v.ownBlock → Lies w v (.slice A' (n + m) c') → wpList Try.prog ops Q rest (a.put o.dst (.slice A' (n + m) c')) w') : wpList Try.prog ops Q (o :: rest) a w := by
  obtain ⟨i0, hi, hz0, hz1, hz2⟩ := info_partsV infoV
  refine _root_.Go.wpList_append_lies w hg s x 22 hop base 42 i0 (.agg #[.int .i64 0, .int .i64 0]) 2 16 Try.underlying22 hi hz0 hz1 hz2 rfl (by decide) v n (prow L) hs hown ad m c (prow M) hx (by rw [prow_len, hm]) hnews (prow_one M) h0 (by unfold maxLen; omega) (by omega) hbase w.heap.size rfl ?_
  intro g cap w' h1 h2 h3 h4
  refine h (some ⟨g, 0, none⟩) cap w' (by rw [prow_app]; exact h1) h2 ?_
  rcases h3 with h3 | h3
  · exact Or.inl h3.symm
  · exact Or.inr ⟨g, rfl, by omega⟩
theorem step_app {w : World} {ops : Array Oper} {o : Oper} {a : Act} {K : Act → World → Prop} {Q : Exit → Act → World → Prop} {E : Prop} (hg : o.guard = none) (s x : Operand)
    (hop : o.op = Op.call { callee := Callee.builtin Builtin.append, args := #[s, x], argTypes := #[22, 22] })
    (base n m c : Nat) (L M : List Va) (v : Value) (ad : Addr) (hs : a.eval s = v) (hown : w.ownsRow base 42 2 v n (prow L)) (hx : a.eval x = .slice (some ad) m c)
    (hm : M.length = m) (h0 : 0 < m) (hnews : ∀ (j : Nat) (u : Value), (prow M)[j]? = some u → w.cell? (ad.add j) = some u) (hb : n + m ≤ 10000000) (hbase : base ≤ w.heap.size)
    (h : ∀ A' c' w', w'.ownsRow base 42 2 (.slice A' (n + m) c') (n + m) (prow (L ++ M)) → w.grownBy w' v.ownBlock → Lies w v (.slice A' (n + m) c') → K (a.put o.dst (.slice A' (n + m) c')) w') : if Region.wanted o (yielded ops a.tmps) = true then Oper.wp Try.prog o a w K Q else E := by
  obtain ⟨i0, hi, hz0, hz1, hz2⟩ := info_partsV infoV
  refine _root_.Go.step_append_lies w hg s x 22 hop base 42 i0 (.agg #[.int .i64 0, .int .i64 0]) 2 16 Try.underlying22 hi hz0 hz1 hz2 rfl (by decide) v n (prow L) hs hown ad m c (prow M) hx (by rw [prow_len, hm]) hnews (prow_one M) h0 (by unfold maxLen; omega) (by omega) hbase w.heap.size rfl ?_
  intro g cap w' h1 h2 h3 h4
  refine h (some ⟨g, 0, none⟩) cap w' (by rw [prow_app]; exact h1) h2 ?_
  rcases h3 with h3 | h3
  · exact Or.inl h3.symm
  · exact Or.inr ⟨g, rfl, by omega⟩
/-- an own row, shortened -/
theorem own_short {w : World} {base e size n m c : Nat} {A : Option Addr} {xs : List Value} (h : w.ownsRow base e size (.slice A n c) n xs) (hm : m ≤ n) : w.ownsRow base e size (.slice A m c) m (xs.take (m * size)) := by
  have hmul : m * size ≤ n * size := Nat.mul_le_mul_right _ hm
  refine ⟨by rw [List.length_take, h.1]; omega, ?_⟩
  rcases h.2 with ⟨hv, hn⟩ | ⟨g, cap, cur, hv, hg, hh, hnc, hcm, hcs, htk⟩
  · injection hv with h1 h2 h3
    subst h1 h3 h2
    obtain rfl : m = 0 := by omega
    exact Or.inl ⟨rfl, rfl⟩
  · injection hv with h1 h2 h3
    subst h1 h3
    refine Or.inr ⟨g, c, cur, rfl, hg, hh, by omega, hcm, hcs, ?_⟩
    rw [← htk, List.take_take, Nat.min_eq_left hmul]
theorem own_below {w w' : World} {base e size n : Nat} {v : Value} {xs : List Value} (h : w.ownsRow base e size v n xs) (hb : Below w.heap.size w w') : w'.ownsRow base e size v n xs := by
  refine ⟨h.1, ?_⟩
  rcases h.2 with h2 | ⟨g, cap, cur, hv, hg, hh, rest⟩
  · exact Or.inl h2
  · exact Or.inr ⟨g, cap, cur, hv, hg, (hb.block g (lt_heapV hh)).trans hh, rest⟩
/-- values in memory -/
def VRow (w : World) (A : Option Addr) (L : List Va) : Prop :=
  L = [] ∨ ∃ g o, A = some ⟨g, o, none⟩ ∧ g < w.heap.size ∧ ∀ (k : Nat) (p : Va), L[k]? = some p → w.cell? ⟨g, o + k * 2, none⟩ = some (.int .i64 p.1) ∧ w.cell? ⟨g, o + k * 2 + 1, none⟩ = some (.int .i64 p.2)
theorem VRow.up {w w' : World} {A : Option Addr} {L : List Va} (h : VRow w A L) (hb : Below w.heap.size w w') : VRow w' A L := by
  rcases h with h | ⟨g, o, hA, hg, hc⟩
  · exact Or.inl h
  · refine Or.inr ⟨g, o, hA, Nat.lt_of_lt_of_le hg hb.size, fun k p hp => ?_⟩
    have e := fun j => hb.cell (p := ⟨g, j, none⟩) hg
    obtain ⟨c0, c1⟩ := hc k p hp
    exact ⟨(e _).trans c0, (e _).trans c1⟩
theorem VRow.news {w : World} {ad : Addr} {L : List Va} (h : VRow w (some ad) L) (j : Nat) (u : Value) (hu : (prow L)[j]? = some u) : w.cell? (ad.add j) = some u := by
  rcases h with h | ⟨g, o, hA, hg, hc⟩
  · rw [h] at hu; simp [prow] at hu
  · obtain rfl := Option.some.inj hA
    have hj := get_ltF hu
    rw [prow_len] at hj
    obtain ⟨p, hp⟩ := get_someF (l := L) (k := j / 2) (by omega)
    obtain ⟨e0, e1⟩ := prow_at L (j / 2) p hp
    obtain ⟨c0, c1⟩ := hc (j / 2) p hp
    rcases Nat.mod_two_eq_zero_or_one j with h2 | h2
    · rw [show j / 2 * 2 = j by omega] at e0 c0
      rw [e0] at hu
      rw [← hu, Addr.add_lit]
      exact c0
    · rw [show j / 2 * 2 + 1 = j by omega] at e1
      rw [show o + j / 2 * 2 + 1 = o + j by omega] at c1
      rw [e1] at hu
      rw [← hu, Addr.add_lit]
      exact c1
theorem VRow.of_own {w : World} {base n c : Nat} {A : Option Addr} {L : List Va} (h : w.ownsRow base 42 2 (.slice A n c) n (prow L)) : VRow w A L ∧ L.length = n := by
  have hl : L.length = n := by have := h.1; rw [prow_len] at this; omega
  refine ⟨?_, hl⟩
  rcases Nat.eq_zero_or_pos n with h0 | h0
  · exact Or.inl (List.eq_nil_of_length_eq_zero (by omega))
  · obtain ⟨g, c4, hv, _, hg⟩ := h.form h0
    injection hv with hA _ hc
    subst hA
    refine Or.inr ⟨g, 0, rfl, hg, fun k p hp => ?_⟩
    have hk := get_ltF hp
    obtain ⟨e0, e1⟩ := prow_at L k p hp
    rw [Nat.zero_add]
    exact ⟨by rw [h.cellAt (k * 2) (by omega), e0], by rw [h.cellAt (k * 2 + 1) (by omega), e1]⟩
theorem row_new {W : World} {B : Nat} {L : List Va} (h : W.heap[B]? = some (.cells (prow L).toArray 42)) : VRow W (some ⟨B, 0, none⟩) L := by
  refine Or.inr ⟨B, 0, rfl, lt_heapV h, fun k p hp => ?_⟩
  obtain ⟨e0, e1⟩ := prow_at L k p hp
  rw [Nat.zero_add]
  simp [World.cell?, h, e0, e1]

end Go.Proofs.Ytgiglbjkijlchaa
