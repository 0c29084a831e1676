/- Layer 8: rows of instructions of a call's own. -/
import Derived.Test.YtdppooflbjlbcaaDoorInNum
namespace Go.Proofs.YtdppooflbjlbcaaDoor.I
open Go.ChangeShapes Go.WideShapes Go.ChangeAt Go.RowKit Go.PlainAid
set_option linter.unusedSimpArgs false
set_option linter.unusedVariables false

def icells (i : In) : List Value := [.int .i64 i.op, .int .i64 i.a, .int .i64 i.b, .int .i64 i.t, .slice i.kA i.kn i.kc, .slice i.tA i.tn i.tc, .string i.r1, .string i.r2, .string i.r3, .string i.s]
def irow (L : List In) : List Value := L.flatMap icells
theorem irow_cons (q : In) (ps : List In) : irow (q :: ps) = icells q ++ irow ps := by unfold irow; rw [List.flatMap_cons]
theorem irow_len (ps : List In) : (irow ps).length = ps.length * 10 := by
  induction ps with
  | nil => rfl
  | cons p ps ih => rw [irow_cons, List.length_append, ih, List.length_cons]; simp [icells]; omega
theorem irow_app (ps qs : List In) : irow (ps ++ qs) = irow ps ++ irow qs := by unfold irow; simp
theorem irow_one (p : In) : irow [p] = icells p := by simp [irow]
theorem irow_cell (ps : List In) : ∀ u ∈ irow ps, u.oneCell' = true := by
  intro u hu
  unfold irow at hu
  obtain ⟨p, _, h⟩ := List.mem_flatMap.1 hu
  simp [icells] at h
  rcases h with rfl | rfl | rfl | rfl | rfl | rfl | rfl | rfl | rfl | rfl <;> rfl
theorem irow_at : ∀ (ps : List In) (k j : Nat) (p : In), j < 10 → ps[k]? = some p → (irow ps)[k * 10 + j]? = (icells p)[j]?
  | [], k, j, p, _, h => by simp at h
  | q :: ps, 0, j, p, hj, h => by
    simp at h; subst h
    rw [irow_cons, Nat.zero_mul, Nat.zero_add, List.getElem?_append_left (by simpa [icells] using hj)]
  | q :: ps, k + 1, j, p, hj, h => by
    have ih := irow_at ps k j p hj (by simpa using h)
    have l10 : (icells q).length = 10 := rfl
    rw [irow_cons, List.getElem?_append_right (by omega), l10, show (k + 1) * 10 + j - 10 = k * 10 + j by omega]
    exact ih
theorem Ins.of_own {w : World} {base e n c : Nat} {A : Option Addr} {L : List In} (h : w.ownsRow base e 10 (.slice A n c) n (irow L)) (hok : ∀ i ∈ L, i.ok w w.heap.size) : Ins w w.heap.size A L ∧ L.length = n := by
  have hn : L.length = n := by have := h.1; rw [irow_len] at this; omega
  refine ⟨?_, hn⟩
  rcases Nat.eq_zero_or_pos n with h0 | h0
  · exact Or.inl (List.eq_nil_of_length_eq_zero (by omega))
  · obtain ⟨g, cap, hv, _, hlt⟩ := h.form h0
    have hA : A = some ⟨g, 0, none⟩ := by injection hv
    subst hA
    have hcap : c = cap := by injection hv
    subst hcap
    refine Or.inr ⟨g, 0, rfl, hlt, fun k i hk => ?_⟩
    have hkl : k < L.length := by
      rcases Nat.lt_or_ge k L.length with h | h
      · exact h
      · rw [List.getElem?_eq_none h] at hk; cases hk
    have at' : ∀ j v, j < 10 → (icells i)[j]? = some v → w.cell? ⟨g, 0 + k * 10 + j, none⟩ = some v := by
      intro j v hj hv
      rw [Nat.zero_add, h.cellAt _ (by omega), irow_at L k j i hj hk, hv]
    exact ⟨hok i (List.mem_of_getElem? hk), at' 0 _ (by decide) rfl, at' 1 _ (by decide) rfl, at' 2 _ (by decide) rfl, at' 3 _ (by decide) rfl, at' 4 _ (by decide) rfl, at' 5 _ (by decide) rfl, at' 6 _ (by decide) rfl, at' 7 _ (by decide) rfl, at' 8 _ (by decide) rfl, at' 9 _ (by decide) rfl⟩
theorem infoN : (Tryd.prog.info? 43).map (fun i => (i.zero, i.size, i.bytes)) = some (some (.agg #[.int .i64 0, .int .i64 0, .int .i64 0, .int .i64 0, .slice none 0 0, .slice none 0 0, .string ⟨#[]⟩, .string ⟨#[]⟩, .string ⟨#[]⟩, .string ⟨#[]⟩]), 10, 144) := by kernel_rfl
theorem wpList_append_inst {w : World} {ops : Array Oper} {rest : List Oper} {o : Oper} {a : Act} {Q : Exit → Act → World → Prop} (hg : o.guard = none) (s x : Operand)
    (hop : o.op = Op.call { callee := Callee.builtin Builtin.append, args := #[s, x], argTypes := #[22, 22] })
    (base n B : Nat) (L : List In) (i : In) (v : Value) (hs : a.eval s = v) (hown : w.ownsRow base 43 10 v n (irow L)) (hx : a.eval x = .slice (some ⟨B, 0, none⟩) 1 1)
    (hi : ∀ j u, (icells i)[j]? = some u → w.cell? ⟨B, j, none⟩ = some u) (hb : n ≤ 100000) (hbase : base ≤ w.heap.size)
    (h : ∀ v' w', w'.ownsRow base 43 10 v' (n + 1) (irow (L ++ [i])) → w.grownBy w' v.ownBlock → wpList Tryd.prog ops Q rest (a.put o.dst v') w') : wpList Tryd.prog ops Q (o :: rest) a w := by
  obtain ⟨i0, hi0, hz0, hz1, hz2⟩ := info_parts infoN
  refine _root_.Go.wpList_append_own (w := w) hg s x 22 hop base 43 i0 _ 10 144 Tryd.underlying22 hi0 hz0 hz1 hz2 rfl (by decide) v n (irow L) hs hown ⟨B, 0, none⟩ 1 1 (icells i) hx rfl (fun j u hu => by
    rcases Nat.eq_zero_or_pos j with rfl | hj
    · simpa [Addr.add] using hi 0 u hu
    · have : j ≠ 0 := by omega
      simpa [Addr.add, this] using hi j u hu) (by rw [← irow_one]; exact irow_cell _) (by unfold maxLen; omega) (by omega) hbase ?_
  intro v' w' h1 h2 _
  exact h v' w' (by rw [irow_app, irow_one]; exact h1) h2

end Go.Proofs.YtdppooflbjlbcaaDoor.I
