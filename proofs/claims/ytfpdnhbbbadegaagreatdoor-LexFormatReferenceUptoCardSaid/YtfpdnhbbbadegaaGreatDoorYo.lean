/- Layer 53: slashes written as '::' (strings.ReplaceAll). -/
import Derived.Test.YtfpdnhbbbadegaaGreatDoorYn
import Derived.Lib.SplitLaws
import Derived.Lib.Replace
namespace Go.Proofs.YtfpdnhbbbadegaaGreatDoor
open Go.ChangeShapes Go.WideShapes Go.ChangeAt Go.RowKit Go.PlainAid
set_option linter.unusedSimpArgs false
set_option linter.unusedVariables false

theorem rpL_cons (b : UInt8) (r : List UInt8) : rpL (b :: r) = (if b.toNat = 47 then [58, 58] else [b]) ++ rpL r := by unfold rpL; rw [List.flatMap_cons]
theorem rp_eq : ∀ l : List UInt8, Lib.replaceK [47] [58, 58] (Lib.count l [47]) l = rpL l
  | [] => by rw [Lib.count_miss (by simp [Lib.index])]; rfl
  | b :: r => by
    rw [rpL_cons, ← rp_eq r]
    by_cases h : b = 47
    · subst h
      have hix : Lib.index (47 :: r) [47] = ((0 : Nat) : Int) := by rw [Lib.index]; simp [List.isPrefixOf]
      rw [Lib.count_cons_eq, Nat.add_comm 1, Lib.replaceK_hit _ _ _ _ _ hix]
      simp
    · have hn : ¬ b.toNat = 47 := fun e => h (UInt8.toNat_inj.mp e)
      have hp : ([47] : List UInt8).isPrefixOf (b :: r) = false := by simp [List.isPrefixOf, Ne.symm h]
      have hix : Lib.index (b :: r) [47] = if Lib.index r [47] == -1 then -1 else Lib.index r [47] + 1 := by rw [Lib.index, hp]; simp
      rw [if_neg hn, Lib.count_cons_ne b 47 r h]
      cases hc : Lib.count r [47] with
      | zero => rfl
      | succ k =>
        obtain ⟨i, hi⟩ := Lib.index_of_count (s := r) (old := [47]) (by omega)
        have hi' : Lib.index (b :: r) [47] = ((i + 1 : Nat) : Int) := by
          rw [hix, if_neg (fun e => by have := beq_iff_eq.1 e; omega), hi]; omega
        rw [Lib.replaceK_hit _ _ _ _ _ hi', Lib.replaceK_hit _ _ _ _ _ hi]
        simp
theorem replace_rp (l : List UInt8) : Lib.replaceAll l [47] [58, 58] = rpL l := by
  unfold Lib.replaceAll Lib.replace Lib.replaceNum
  rw [if_neg (by decide), if_pos (Or.inl (by decide))]
  exact rp_eq l
theorem rep_any (s : ByteArray) (hs : s.size ≤ 5000000) (w : World) (hL : Laid w) : Calls Tryz.prog 21 #[.string s, .string ⟨#[47]⟩, .string ⟨#[58, 58]⟩] w fun e w' => e = .returned (.string (bsB (rpL s.data.toList))) ∧ Below w.heap.size w w' := by
  obtain ⟨m, hm⟩ := hL.mx
  have hc : Lib.countB s ⟨#[47]⟩ ≤ s.size := Lib.countB_le ⟨#[47]⟩ (by decide) s.size s (Nat.le_refl _)
  have hz : (⟨#[58, 58]⟩ : ByteArray).size = 2 := rfl
  have h := Tryz.strings_ReplaceAll s ⟨#[47]⟩ ⟨#[58, 58]⟩ m w (by omega) hm (by decide) (by rw [hz]; omega)
  rw [show (⟨#[47]⟩ : ByteArray).data.toList = [47] from rfl, show (⟨#[58, 58]⟩ : ByteArray).data.toList = [58, 58] from rfl, replace_rp] at h
  exact h

end Go.Proofs.YtfpdnhbbbadegaaGreatDoor
