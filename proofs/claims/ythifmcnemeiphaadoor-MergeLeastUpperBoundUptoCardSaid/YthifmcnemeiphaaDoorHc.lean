/- Layer 16: the index of a long list: a map from names to places. -/
import Derived.Test.YthifmcnemeiphaaDoorHb
import Derived.Maps.Own
import Derived.Maps.OwnOps
import Derived.Maps.OwnSet
import Derived.Maps.Views
import Derived.StringKeys
namespace Go.Proofs.YthifmcnemeiphaaDoor
open Go.ChangeShapes Go.WideShapes Go.ChangeAt Go.RowKit Go.PlainAid Go.Maps
set_option linter.unusedSimpArgs false
set_option linter.unusedVariables false

theorem str_key {s : ByteArray} (hs : s.size ≤ 9223372036854775807) : keyOf Tryd.prog 9 (.string s) = some (.string s.data.toList) := Go.WideMaps.keyOf_string_mk Tryd.underlying9 hs
theorem int_zero (w : World) : (zeroValue 3).run Tryd.prog w = .ok (.int .i64 0) w := by kernel_rfl
theorem tl_data (s : ByteArray) : s.toList = s.data.toList := ByteArray.toList_eq _
/-- block b holds the places of the first entries of L by their names -/
def Idx (w : World) (b n : Nat) (L : List CI) : Prop :=
  ∃ D : DataW Unit, w.ownsMap Tryd.prog 9 (plainElem Tryd.prog 3) b n D ∧ IsMap D ∧ ∀ s : ByteArray, D.atKey (.string s.data.toList) (.lit (.int .i64 0)) = .lit (.int .i64 (fI L s)) ∧ has D (.string s.data.toList) = fB L s
theorem idx_made (w : World) : Idx (w.alloc (.map #[] 0)) w.heap.size 0 [] :=
  ⟨.map [], World.ownsMap_made w _ _ _, ⟨_, rfl⟩, fun s => ⟨rfl, rfl⟩⟩
theorem Idx.lt {w : World} {b n : Nat} {L : List CI} (h : Idx w b n L) : b < w.heap.size := by
  obtain ⟨D, h1, _⟩ := h; exact h1.lt
theorem Idx.kept {w w' : World} {b n : Nat} {L : List CI} {row : Option Nat} (h : Idx w b n L) (hg : w.grownBy w' row) (hne : some b ≠ row) : Idx w' b n L := by
  obtain ⟨D, h1, h2, h3⟩ := h; exact ⟨D, h1.kept hg hne, h2, h3⟩
theorem Idx.alloc {w : World} {b n : Nat} {L : List CI} (h : Idx w b n L) (o : Obj) : Idx (w.alloc o) b n L := by
  obtain ⟨D, h1, h2, h3⟩ := h; exact ⟨D, h1.alloc o, h2, h3⟩
theorem Idx.more {w : World} {b n n' : Nat} {L : List CI} (h : Idx w b n L) (hn : n ≤ n') : Idx w b n' L := by
  obtain ⟨D, h1, h2, h3⟩ := h; exact ⟨D, h1.mono hn, h2, h3⟩
theorem Idx.below {w w' : World} {b n : Nat} {L : List CI} (h : Idx w b n L) (hb : Below w.heap.size w w') : Idx w' b n L := by
  have hl := h.lt
  obtain ⟨D, ⟨es, clock, h1, F, h4, h5⟩, h2, h3⟩ := h
  exact ⟨D, ⟨es, clock, (hb.block b hl).trans h1, F, h4, h5⟩, h2, h3⟩
theorem Idx.look {w : World} {b n : Nat} {L : List CI} (h : Idx w b n L) {s : ByteArray} (hs : s.size ≤ 9223372036854775807) : (Instr.lookup 88 (.map (some b)) (.string s) true).run Tryd.prog w = .ok (.tuple #[.int .i64 (fI L s), .bool (fB L s)]) w := by
  obtain ⟨D, h1, _, h3⟩ := h
  obtain ⟨v, ps, hrun, hv⟩ := h1.look_ok (string_keyed Tryd.underlying9) Tryd.underlying88 (int_zero w) (plainElem_int Tryd.underlying3 (by decide)) (str_key hs)
  obtain ⟨c, rfl, hc, hwc⟩ := plainElem_int_inv Tryd.underlying3 hv
  have hc' := congrArg Prod.fst hc
  simp only at hc'
  rw [(h3 s).1] at hc'
  simp only [DataW.lit.injEq, Lit.int.injEq, true_and] at hc'
  rw [hrun, (h3 s).2, hc']
theorem Idx.put {w' : World} {b n k : Nat} {L : List CI} {D : DataW Unit} (hk : k < L.length) (h2 : IsMap D) (h3 : ∀ s : ByteArray, D.atKey (.string s.data.toList) (.lit (.int .i64 0)) = .lit (.int .i64 (fI (L.take k) s)) ∧ has D (.string s.data.toList) = fB (L.take k) s)
    (hf : fB (L.take k) L[k].nm = false) (h' : w'.ownsMap Tryd.prog 9 (plainElem Tryd.prog 3) b (n + 1) (D.put (.string L[k].nm.data.toList) (.lit (.int .i64 k)))) : Idx w' b (n + 1) (L.take (k + 1)) := by
  have hl : (L.take k).length = k := by rw [List.length_take]; omega
  have hl1 : (L.take (k + 1)).length = k + 1 := by rw [List.length_take]; omega
  have hle : ∀ s, fnd (L.take k) s ≤ k := fun s => by have := fnd_le (L.take k) s; omega
  refine ⟨_, h', ?_, fun t => ?_⟩
  · obtain ⟨es, rfl⟩ := h2; exact ⟨_, rfl⟩
  · by_cases e : t.data.toList = L[k].nm.data.toList
    · have hf' : fnd (L.take k) L[k].nm = k := by
        have h := hle L[k].nm
        unfold fB at hf
        have := of_decide_eq_false hf
        omega
      have ht : t = L[k].nm := toList_iff.1 (by rw [tl_data, tl_data, e])
      have h4 := fnd_take hk hf'
      rw [if_pos rfl] at h4
      rw [e, atKey_put_same h2 (by trivial), has_put_same h2 (by trivial)]
      unfold fI fB
      rw [ht, h4, hl1, if_pos (by omega), decide_eq_true (by omega)]
      exact ⟨rfl, rfl⟩
    · rw [atKey_put_other (fun h => e (by injection h)), has_put_other (fun h => e (by injection h)), (h3 t).1, (h3 t).2]
      rcases Nat.lt_or_ge (fnd (L.take k) t) k with hlt | hge
      · have h4 := fnd_take_hit hk hlt
        unfold fI fB
        rw [h4, hl, hl1, if_pos hlt, if_pos (by omega), decide_eq_true hlt, decide_eq_true (by omega)]
        exact ⟨rfl, rfl⟩
      · have h4 := fnd_take (s := t) hk (by have := hle t; omega)
        rw [if_neg (fun h => e (by rw [← tl_data, ← tl_data]; exact h.symm))] at h4
        unfold fI fB
        rw [h4, hl, hl1, if_neg (by omega), if_neg (by omega), decide_eq_false (by omega), decide_eq_false (by omega)]
        exact ⟨rfl, rfl⟩
theorem Idx.skip {w : World} {b n k : Nat} {L : List CI} (hk : k < L.length) (hf : fB (L.take k) L[k].nm = true) (h : Idx w b n (L.take k)) : Idx w b n (L.take (k + 1)) := by
  have hl : (L.take k).length = k := by rw [List.length_take]; omega
  have hl1 : (L.take (k + 1)).length = k + 1 := by rw [List.length_take]; omega
  have hle : ∀ s, fnd (L.take k) s ≤ k := fun s => by have := fnd_le (L.take k) s; omega
  obtain ⟨D, h1, h2, h3⟩ := h
  refine ⟨D, h1, h2, fun t => ?_⟩
  rw [(h3 t).1, (h3 t).2]
  rcases Nat.lt_or_ge (fnd (L.take k) t) k with hlt | hge
  · have h4 := fnd_take_hit hk hlt
    unfold fI fB
    rw [h4, hl, hl1, if_pos hlt, if_pos (by omega), decide_eq_true hlt, decide_eq_true (by omega)]
    exact ⟨rfl, rfl⟩
  · have hne : ¬ L[k].nm.toList = t.toList := fun e => by
      unfold fB at hf
      rw [toList_iff.1 e, hl] at hf
      have := of_decide_eq_true hf
      omega
    have h4 := fnd_take (s := t) hk (by have := hle t; omega)
    rw [if_neg hne] at h4
    unfold fI fB
    rw [h4, hl, hl1, if_neg (by omega), if_neg (by omega), decide_eq_false (by omega), decide_eq_false (by omega)]
    exact ⟨rfl, rfl⟩
theorem find2_any (b mb n : Nat) (L : List CI) (s : ByteArray) (w : World) (hs : s.size ≤ 9223372036854775807) (hb : w.cell? ⟨b, 0, none⟩ = some (.map (some mb))) (h : Idx w mb n L) :
    Calls Tryd.prog 88 #[.string s, .pointer (some ⟨b, 0, none⟩)] w (FindRet L s w) := by
  have hlk := h.look hs
  clear h
  go_enter Tryd.func88, Tryd.ntmps88
  go_wp2
  go_ret2
  exact ⟨rfl, Below.refl _ _⟩
end Go.Proofs.YthifmcnemeiphaaDoor
