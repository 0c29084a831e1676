/- Rows of numbers: where a grown row lies. -/
import Derived.Test.YtdppooflbjlbcaaDoorInOwn
import Derived.Deep.AppendLies
namespace Go.Proofs.YtdppooflbjlbcaaDoor.I
open Go.ChangeShapes Go.WideShapes Go.ChangeAt Go.RowKit Go.PlainAid
set_option linter.unusedSimpArgs false
set_option linter.unusedVariables false

/-- where a grown row lies: where it lay, or in a new block -/
def Lies (w : World) (v v' : Value) : Prop := v'.ownBlock = v.ownBlock ∨ ∃ g, v'.ownBlock = some g ∧ w.heap.size ≤ g
theorem step_append_lies_ints {w : World} {ops : Array Oper} {o : Oper} {a : Act} {K : Act → World → Prop} {Q : Exit → Act → World → Prop} {E : Prop} (hg : o.guard = none) (s x : Operand)
    (hop : o.op = Op.call { callee := Callee.builtin Builtin.append, args := #[s, x], argTypes := #[32, 32] })
    (base n c : Nat) (xs : List Int) (y : Int) (v : Value) (ad : Addr) (hs : a.eval s = v) (hown : w.ownsRow base 3 1 v n (Ri xs)) (hx : a.eval x = .slice (some ad) 1 c)
    (hrow : Row w w.heap.size (some ad) [y]) (hb : n + 1 ≤ 10000000) (hbase : base ≤ w.heap.size)
    (h : ∀ A' c' w', w'.ownsRow base 3 1 (.slice A' (n + 1) c') (n + 1) (Ri (xs ++ [y])) → w.grownBy w' v.ownBlock → Lies w v (.slice A' (n + 1) c') → K (a.put o.dst (.slice A' (n + 1) c')) w') : if Region.wanted o (yielded ops a.tmps) = true then Oper.wp Tryd.prog o a w K Q else E := by
  obtain ⟨i0, hi, hz0, hz1, hz2⟩ := info_parts infoI
  refine _root_.Go.step_append_lies w hg s x 32 hop base 3 i0 (.int .i64 0) 1 8 Tryd.underlying32 hi hz0 hz1 hz2 rfl (by decide) v n (Ri xs) hs hown ad 1 c (Ri [y]) hx rfl hrow.news (ri_one [y]) Nat.zero_lt_one (by unfold maxLen; omega) (by omega) hbase w.heap.size rfl ?_
  intro g cap w' h1 h2 h3 h4
  refine h (some ⟨g, 0, none⟩) cap w' (by rw [ri_app]; exact h1) h2 ?_
  rcases h3 with h3 | h3
  · exact Or.inl h3.symm
  · exact Or.inr ⟨g, rfl, by omega⟩
/-- two rows apart -/
def Apt (v v2 : Value) : Prop := v.ownBlock = none ∨ v.ownBlock ≠ v2.ownBlock
theorem Apt.kept {W w4 : World} {B e n : Nat} {v v2 : Value} {xs : List Value} (h : Apt v v2) (h2 : W.ownsRow B e 1 v2 n xs) (hg : W.grownBy w4 v.ownBlock) : w4.ownsRow B e 1 v2 n xs := by
  refine h2.kept hg ?_
  rcases h with h | h
  · rw [h]; exact Classical.em _
  · exact Or.inr (fun e => h e.symm)
theorem Apt.keptR {W w4 : World} {B e n : Nat} {v v2 : Value} {xs : List Value} (h : Apt v v2) (h2 : W.ownsRow B e 1 v n xs) (hg : W.grownBy w4 v2.ownBlock) : w4.ownsRow B e 1 v n xs := h2.kept hg (by
  rcases h with h | h
  · exact Or.inl h
  · exact Or.inr h)
theorem Apt.grow {W : World} {B e n : Nat} {v v' v2 : Value} {xs : List Value} (h : Apt v v2) (h2 : W.ownsRow B e 1 v2 n xs) (hl : Lies W v v') : Apt v' v2 := by
  rcases hl with hl | ⟨g, hl, hg⟩
  · unfold Apt; rw [hl]; exact h
  · refine Or.inr (fun e => ?_)
    rw [hl] at e
    have := (h2.lt g e.symm).2
    omega
theorem Apt.growR {W : World} {B e n : Nat} {v v2 v2' : Value} {xs : List Value} (h : Apt v v2) (h1 : W.ownsRow B e 1 v n xs) (hl : Lies W v2 v2') : Apt v v2' := by
  rcases hl with hl | ⟨g, hl, hg⟩
  · unfold Apt; rw [hl]; exact h
  · refine Or.inr (fun e => ?_)
    rw [hl] at e
    have := (h1.lt g e).2
    omega

end Go.Proofs.YtdppooflbjlbcaaDoor.I
