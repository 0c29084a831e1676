/- A set of strings kept as map[string]bool, made by the call itself: what is asked of it, what a store does. -/
import Derived.Test.YthifmcnemeiphaaDoorKit
import Derived.Maps.Own
import Derived.Maps.OwnOps
import Derived.Maps.Views
import Derived.StringKeys
namespace Go.Proofs.YthifmcnemeiphaaDoor
open Go.RowKit Go.Maps
set_option linter.unusedSimpArgs false
set_option linter.unusedVariables false

def hasS (S : List ByteArray) (s : ByteArray) : Bool := S.any fun x => x.data.toList == s.data.toList
theorem has_snoc_same (S : List ByteArray) (s : ByteArray) : hasS (S ++ [s]) s = true := by unfold hasS; simp
theorem has_snoc_other (S : List ByteArray) (s t : ByteArray) (h : ¬ t.data.toList = s.data.toList) : hasS (S ++ [s]) t = hasS S t := by
  unfold hasS
  have : (s.data.toList == t.data.toList) = false := beq_eq_false_iff_ne.2 (fun e => h e.symm)
  rw [List.any_append, List.any_cons, this]; simp

/-- block b holds the set S, in at most n entries -/
def SetOf (w : World) (b n : Nat) (S : List ByteArray) : Prop :=
  ∃ D : DataW Unit, w.ownsMap Tryd.prog 9 (plainElem Tryd.prog 4) b n D ∧ IsMap D ∧ ∀ s : ByteArray, D.atKey (.string s.data.toList) (.lit (.bool false)) = .lit (.bool (hasS S s))
theorem set_key {s : ByteArray} (hs : s.size ≤ maxLen) : keyOf Tryd.prog 9 (.string s) = some (.string s.data.toList) := Go.WideMaps.keyOf_string_mk Tryd.underlying9 hs
theorem set_made (w : World) : SetOf (w.alloc (.map #[] 0)) w.heap.size 0 [] :=
  ⟨.map [], World.ownsMap_made w _ _ _, ⟨_, rfl⟩, fun s => rfl⟩
theorem SetOf.lt {w : World} {b n : Nat} {S : List ByteArray} (h : SetOf w b n S) : b < w.heap.size := by
  obtain ⟨D, h1, _⟩ := h; exact h1.lt
theorem SetOf.kept {w w' : World} {b n : Nat} {S : List ByteArray} {row : Option Nat} (h : SetOf w b n S) (hg : w.grownBy w' row) (hne : some b ≠ row) : SetOf w' b n S := by
  obtain ⟨D, h1, h2, h3⟩ := h; exact ⟨D, h1.kept hg hne, h2, h3⟩
theorem SetOf.alloc {w : World} {b n : Nat} {S : List ByteArray} (h : SetOf w b n S) (o : Obj) : SetOf (w.alloc o) b n S := by
  obtain ⟨D, h1, h2, h3⟩ := h; exact ⟨D, h1.alloc o, h2, h3⟩
theorem bool_zero (w : World) : (zeroValue 4).run Tryd.prog w = .ok (.bool false) w := by kernel_rfl
set_option maxRecDepth 100000 in
theorem SetOf.look {w : World} {b n : Nat} {S : List ByteArray} (h : SetOf w b n S) {s : ByteArray} (hs : s.size ≤ maxLen) : (Instr.lookup 74 (.map (some b)) (.string s) false).run Tryd.prog w = .ok (.bool (hasS S s)) w := by
  obtain ⟨D, h1, _, h3⟩ := h
  obtain ⟨v, ps, hrun, hv⟩ := h1.lookup (string_keyed Tryd.underlying9) Tryd.underlying74 (bool_zero w) (plainElem_bool Tryd.underlying4 false) (set_key hs)
  rw [h3 s] at hv
  have e : v = .bool (hasS S s) := by
    unfold plainElem at hv
    rw [Tryd.underlying4] at hv
    cases v <;> simp at hv
    rw [hv.1]
  rw [e] at hrun
  exact hrun
/-- what the store of true leaves -/
theorem SetOf.put {w' : World} {b n : Nat} {S : List ByteArray} {D : DataW Unit} {s : ByteArray} (h2 : IsMap D) (h3 : ∀ s : ByteArray, D.atKey (.string s.data.toList) (.lit (.bool false)) = .lit (.bool (hasS S s)))
    (h' : w'.ownsMap Tryd.prog 9 (plainElem Tryd.prog 4) b (n + 1) (D.put (.string s.data.toList) (.lit (.bool true)))) : SetOf w' b (n + 1) (S ++ [s]) := by
  refine ⟨_, h', ?_, fun t => ?_⟩
  · obtain ⟨es, rfl⟩ := h2; exact ⟨_, rfl⟩
  · by_cases e : t.data.toList = s.data.toList
    · rw [e, atKey_put_same h2 (by trivial)]
      have : hasS (S ++ [s]) t = true := by
        have h := has_snoc_same S s
        unfold hasS at h ⊢
        rw [e]; exact h
      rw [this]
    · rw [atKey_put_other (fun h => e (by injection h)), h3 t, has_snoc_other S s t e]

end Go.Proofs.YthifmcnemeiphaaDoor
