/- Layer 16: a row of entries of one's own (append). -/
import Derived.Test.YthifmcnemeiphaaDoorIl
namespace Go.Proofs.YthifmcnemeiphaaDoor
open Go.ChangeShapes Go.WideShapes Go.ChangeAt Go.RowKit Go.PlainAid Go.Maps
set_option linter.unusedSimpArgs false
set_option linter.unusedVariables false

def crow (L : List CI) : List Value := L.flatMap fun x => [.string x.nm, .string x.su, .slice x.iA x.n x.c, .bool x.isI]
theorem crow_len (L : List CI) : (crow L).length = L.length * 4 := by
  unfold crow
  induction L with
  | nil => rfl
  | cons p L ih => rw [List.flatMap_cons, List.length_append, ih, List.length_cons]; simp; omega
theorem crow_snoc (L : List CI) (x : CI) : crow (L ++ [x]) = crow L ++ [.string x.nm, .string x.su, .slice x.iA x.n x.c, .bool x.isI] := by unfold crow; simp
theorem crow_at : ∀ (L : List CI) (k : Nat) (x : CI), L[k]? = some x → (crow L)[k * 4]? = some (.string x.nm) ∧ (crow L)[k * 4 + 1]? = some (.string x.su) ∧ (crow L)[k * 4 + 2]? = some (.slice x.iA x.n x.c) ∧ (crow L)[k * 4 + 3]? = some (.bool x.isI)
  | [], k, p, h => by simp at h
  | y :: L, 0, x, h => by
    obtain rfl : y = x := by simpa using h
    exact ⟨rfl, rfl, rfl, rfl⟩
  | y :: L, k + 1, x, h => by
    have ih := crow_at L k x (by simpa using h)
    rw [show (k + 1) * 4 = k * 4 + 1 + 1 + 1 + 1 by omega]
    exact ih
theorem infoCI : (Tryd.prog.info? 30).map (fun i => (i.zero, i.size, i.bytes)) = some (some (.agg #[.string ⟨#[]⟩, .string ⟨#[]⟩, .slice none 0 0, .bool false]), 4, 64) := by kernel_rfl
theorem cis_of_own {w : World} {base n c : Nat} {A : Option Addr} {L : List CI} (h : w.ownsRow base 30 4 (.slice A n c) n (crow L)) (hn : L.length = n) (hok : ∀ x ∈ L, x.ok w w.heap.size) : CIs w w.heap.size A L := by
  rcases Nat.eq_zero_or_pos n with h0 | h0
  · exact Or.inl (List.length_eq_zero_iff.1 (by omega))
  · obtain ⟨g, cap, hv, hb, hlt⟩ := h.form h0
    injection hv with hA _ hc
    subst hA hc
    refine Or.inr ⟨g, 0, rfl, hlt, fun k x hx => ⟨hok x (List.mem_of_getElem? hx), ?_⟩⟩
    have hk := lt_of_some hx
    obtain ⟨c0, c1, c2, c3⟩ := crow_at L k x hx
    rw [Nat.zero_add]
    refine ⟨?_, ?_, ?_, ?_⟩
    · rw [h.cellAt _ (by omega)]; exact c0
    · rw [h.cellAt _ (by omega)]; exact c1
    · rw [h.cellAt _ (by omega)]; exact c2
    · rw [h.cellAt _ (by omega)]; exact c3
theorem own_lit0C {w : World} {B : Nat} (hB : B ≤ w.heap.size) : (w.alloc (.cells #[] 30)).ownsRow B 30 4 (.slice (some ⟨w.heap.size, 0, none⟩) 0 0) 0 (crow []) :=
  ⟨rfl, Or.inr ⟨w.heap.size, 0, #[], rfl, hB, World.alloc_heap_new _ _, Nat.zero_le _, Nat.zero_le _, rfl, rfl⟩⟩
set_option maxRecDepth 100000 in
theorem wpList_append_liesC {w : World} {ops : Array Oper} {rest : List Oper} {o : Oper} {a : Act} {Q : Exit → Act → World → Prop} (hg : o.guard = none) (s x : Operand)
    (hop : o.op = Op.call { callee := Callee.builtin Builtin.append, args := #[s, x], argTypes := #[22, 22] })
    (base n B : Nat) (L : List CI) (y : CI) (v : Value) (hs : a.eval s = v) (hown : w.ownsRow base 30 4 v n (crow L)) (hx : a.eval x = .slice (some ⟨B, 0, none⟩) 1 1)
    (hbx : w.heap[B]? = some (.cells #[.string y.nm, .string y.su, .slice y.iA y.n y.c, .bool y.isI] 30)) (hb : n ≤ 1000000) (hbase : base ≤ w.heap.size)
    (h : ∀ A' c' w', w'.ownsRow base 30 4 (.slice A' (n + 1) c') (n + 1) (crow (L ++ [y])) → w.grownBy w' v.ownBlock → wpList Tryd.prog ops Q rest (a.put o.dst (.slice A' (n + 1) c')) w') : wpList Tryd.prog ops Q (o :: rest) a w := by
  obtain ⟨⟨h0, h1, h2, h3⟩, _⟩ := four_cells hbx
  obtain ⟨i0, hi0, hz0, hz1, hz2⟩ := info_parts infoCI
  refine _root_.Go.wpList_append_lies w hg s x 22 hop base 30 i0 _ 4 64 Tryd.underlying22 hi0 hz0 hz1 hz2 rfl (by decide) v n (crow L) hs hown ⟨B, 0, none⟩ 1 1 [.string y.nm, .string y.su, .slice y.iA y.n y.c, .bool y.isI] hx rfl (fun j u hu => by
    match j, hu with
    | 0, hu => obtain rfl := Option.some.inj hu; simpa [Addr.add] using h0
    | 1, hu => obtain rfl := Option.some.inj hu; simpa [Addr.add] using h1
    | 2, hu => obtain rfl := Option.some.inj hu; simpa [Addr.add] using h2
    | 3, hu => obtain rfl := Option.some.inj hu; simpa [Addr.add] using h3) (fun u hu => by
    simp at hu
    rcases hu with rfl | rfl | rfl | rfl <;> rfl) Nat.zero_lt_one (by unfold maxLen; omega) (by omega) hbase w.heap.size rfl ?_
  intro g cap w' h1 h2 h3 h4
  exact h (some ⟨g, 0, none⟩) cap w' (by rw [crow_snoc]; exact h1) h2
end Go.Proofs.YthifmcnemeiphaaDoor
