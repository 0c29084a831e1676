/- Layer 16: the reference's Reach. -/
import Derived.Test.YthifmcnemeiphaaDoorHm
namespace Go.Proofs.YthifmcnemeiphaaDoor
open Go.ChangeShapes Go.WideShapes Go.ChangeAt Go.RowKit Go.PlainAid Go.Maps
set_option linter.unusedSimpArgs false
set_option linter.unusedVariables false

set_option maxRecDepth 100000 in
theorem run_append_strs (ty : TypeId) {w : World} {base n g cap m c B : Nat} {xs L : List ByteArray} {A : Option Addr} (hown : w.ownsRow base 9 1 (.slice (some ⟨g, 0, none⟩) n cap) n (strs xs)) (hrow : SRow w B A L) (hl : L.length = m) (hnil : A = none → c = 0) (hb : n + m ≤ 8796093022208) (hbase : base ≤ w.heap.size) :
    ∃ g' cap' w', (Builtin.append_ #[28, 28] ty #[.slice (some ⟨g, 0, none⟩) n cap, .slice A m c]).run Tryd.prog w = .ok (.slice (some ⟨g', 0, none⟩) (n + m) cap') w' ∧ w'.ownsRow base 9 1 (.slice (some ⟨g', 0, none⟩) (n + m) cap') (n + m) (strs (xs ++ L)) ∧ w.grownBy w' (some g) ∧ (g' = g ∨ g' = w.heap.size) := by
  obtain ⟨i0, hi, hz0, hz1, hz2⟩ := info_parts infoS
  cases A with
  | none =>
    obtain rfl : c = 0 := hnil rfl
    obtain rfl : L = [] := by
      rcases hrow with h | ⟨g, o, hA, _⟩
      · exact h
      · cases hA
    obtain rfl : m = 0 := hl.symm
    have hr := run_append_owned_none (P := Tryd.prog) (w := w) base 28 ty 9 i0 1 Tryd.underlying28 hi (.slice (some ⟨g, 0, none⟩) n cap) n (strs xs) hown
    exact ⟨g, cap, w, hr, by rw [List.append_nil]; exact hown, World.grownBy.refl _ _, Or.inl rfl⟩
  | some ad =>
    have hnl : (strs L).length = m * 1 := by rw [strs_len]; omega
    rcases Nat.eq_zero_or_pos m with rfl | hm
    · obtain rfl : L = [] := List.length_eq_zero_iff.1 hl
      rcases hown.2 with ⟨hv, _⟩ | ⟨g2, cap2, cur, hv, hbg, hg, hnc, hcm, hcs, htake⟩
      · cases hv
      · have e1 : g = g2 := by injection hv with h _ _; injection h with h; injection h
        have e2 : cap = cap2 := by injection hv
        subst e1 e2
        have hr := run_append_room (P := Tryd.prog) w 28 ty 9 i0 Tryd.underlying28 hi g n cap cur hg ad 0 c [] (by simp) (fun j u h => by simp at h) (fun u h => by simp at h) (by omega) (by rw [hz1]; simp; omega)
        obtain ⟨v', w', hr2, h1, h2, _⟩ := run_append_own (P := Tryd.prog) w base 28 ty 9 i0 (.string ⟨#[]⟩) 1 16 Tryd.underlying28 hi hz0 hz1 hz2 rfl (by decide) (.slice (some ⟨g, 0, none⟩) n cap) n (strs xs) hown ad 0 c [] (by simp) (fun j u h => by simp at h) (fun u h => by simp at h) (by unfold maxLen; omega) (by omega) hbase
        have e := hr.symm.trans hr2
        injection e with e1 e2
        rw [← e1] at h1 hr2
        exact ⟨g, cap, w', hr2, by rw [List.append_nil]; rw [List.append_nil] at h1; exact h1, h2, Or.inl rfl⟩
    · obtain ⟨g', cap', w', hr, h1, h2, h3, _⟩ := run_append_lies (P := Tryd.prog) w 28 ty base 9 i0 (.string ⟨#[]⟩) 1 16 Tryd.underlying28 hi hz0 hz1 hz2 rfl (by decide) (.slice (some ⟨g, 0, none⟩) n cap) n (strs xs) hown ad m c (strs L) hnl hrow.news (strs_one L) hm (by unfold maxLen; omega) (by omega) hbase w.heap.size rfl
      refine ⟨g', cap', w', hr, by rw [strs_app]; exact h1, h2, ?_⟩
      rcases h3 with h3 | h3
      · exact Or.inl (Option.some.inj h3).symm
      · exact Or.inr h3
set_option maxRecDepth 100000 in
theorem wpList_append_strsL {w : World} {ops : Array Oper} {rest : List Oper} {o : Oper} {a : Act} {Q : Exit → Act → World → Prop} (hgd : o.guard = none) (s x : Operand)
    (hop : o.op = Op.call { callee := Callee.builtin Builtin.append, args := #[s, x], argTypes := #[28, 28] })
    (base n m c g cap B : Nat) (xs L : List ByteArray) (A : Option Addr) (hs : a.eval s = .slice (some ⟨g, 0, none⟩) n cap) (hown : w.ownsRow base 9 1 (.slice (some ⟨g, 0, none⟩) n cap) n (strs xs)) (hx : a.eval x = .slice A m c)
    (hrow : SRow w B A L) (hl : L.length = m) (hnil : A = none → c = 0) (hb : n + m ≤ 8796093022208) (hbase : base ≤ w.heap.size)
    (h : ∀ g' cap' w', w'.ownsRow base 9 1 (.slice (some ⟨g', 0, none⟩) (n + m) cap') (n + m) (strs (xs ++ L)) → w.grownBy w' (some g) → (g' = g ∨ g' = w.heap.size) → wpList Tryd.prog ops Q rest (a.put o.dst (.slice (some ⟨g', 0, none⟩) (n + m) cap')) w') : wpList Tryd.prog ops Q (o :: rest) a w := by
  refine wpList_plain hgd fun K hK => ?_
  obtain ⟨g', cap', w', hr, h1, h2, h3⟩ := run_append_strs o.type (c := c) hown hrow hl hnil hb hbase
  unfold Oper.wp
  simp [execOp, hop, resolve, invoke, builtin, hs, hx, hr, Result.andThen]
  exact hK _ _ (h g' cap' w' h1 h2 h3)
end Go.Proofs.YthifmcnemeiphaaDoor
