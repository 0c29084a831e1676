/- Layer 53: IsClassName of the lexer and of the reference. -/
import Derived.Test.YtfpdnhbbbadegaaGreatDoorNameLast
import Derived.Test.YtfpdnhbbbadegaaGreatDoorNameCls
import Derived.Test.YtfpdnhbbbadegaaGreatDoorNameTwo
namespace Go.Proofs.YtfpdnhbbbadegaaGreatDoor
open Go.ChangeShapes Go.WideShapes Go.ChangeAt Go.RowKit Go.PlainAid
set_option linter.unusedSimpArgs false
set_option linter.unusedVariables false

theorem pieces_snoc (l : List UInt8) : pieces (l ++ [47]) = pieces l ++ [[]] := by
  induction l with
  | nil => rfl
  | cons c r ih =>
    rw [List.cons_append, pieces_cons, pieces_cons, ih]
    split
    · rfl
    · have := pieces_ne r
      cases h : pieces r with
      | nil => exact absurd h this
      | cons p ps => rfl
theorem clsL_nil : clsL [] = false := by decide
theorem clsL_snoc (l : List UInt8) : clsL (l ++ [47]) = false := by
  unfold clsL
  rw [pieces_snoc, List.all_append]
  simp [okL]
theorem sim_pos {s : ByteArray} (h : clsB s = true) : 0 < (simB s).size := by
  have hc : clsL s.data.toList = true := by unfold clsB at h; rw [Bool.and_eq_true] at h; exact h.2
  unfold simB
  rw [ByteArray.size_extract, Nat.min_self]
  have hb := lastFrom_bd s s.size
  have hI : lastI s = lastFrom s s.size := rfl
  rcases Nat.eq_zero_or_pos s.size with h0 | h0
  · have : s.data.toList = [] := List.eq_nil_of_length_eq_zero (by rw [len_data]; exact h0)
    rw [this, clsL_nil] at hc; cases hc
  · obtain ⟨k, hk⟩ : ∃ k, s.size = k + 1 := ⟨s.size - 1, by omega⟩
    by_cases h47 : bt s k = 47
    · exfalso
      have hl : s.data.toList = s.data.toList.take k ++ [47] := by
        have hkl : k < s.data.toList.length := by rw [len_data]; omega
        have e : s.data.toList.take (k + 1) = s.data.toList := List.take_of_length_le (by rw [len_data]; omega)
        have e2 : s.data.toList[k] = 47 := by
          rw [bt_data, List.getD_eq_getElem?_getD, List.getElem?_eq_getElem hkl] at h47
          exact UInt8.toNat_inj.mp (by have h7 : (47 : UInt8).toNat = 47 := rfl; simp only [Option.getD_some] at h47; omega)
        rw [List.take_add_one, List.getElem?_eq_getElem hkl, e2] at e
        exact e.symm
      rw [hl, clsL_snoc] at hc; cases hc
    · have h2 := lastFrom_bd s k
      have h3 := last_miss s k h47
      rw [hI, hk, h3]
      omega
def lclB (s : ByteArray) : Bool := clsB s && (decide (65 ≤ bt (simB s) 0) && decide (bt (simB s) 0 ≤ 90))
set_option maxRecDepth 100000 in
set_option maxHeartbeats 1000000 in
theorem lcl_any (s : ByteArray) (hs : s.size ≤ 9223372036854775807) (w : World) : Calls Tryz.prog 15 #[.string s] w fun e w' => e = .returned (.bool (lclB s)) ∧ Below w.heap.size w w' := by
  unfold lclB
  have KC := cls_any s w
  cases hc : clsB s with
  | false =>
    rw [hc] at KC
    rw [Bool.false_and]
    go_enter Tryz.func15, Tryz.ntmps15
    go_wp2_with (first | (go_at_call 30; refine KC.mono ?_; rintro e w1 ⟨rfl, hb1⟩))
    go_ret
    exact ⟨rfl, hb1⟩
  | true =>
    rw [hc] at KC
    have hp := sim_pos hc
    have hb := get_bt (simB s)
    have HR := Lib.hid (Bool.true_and (decide (65 ≤ bt (simB s) 0) && decide (bt (simB s) 0 ≤ 90)))
    rw [HR.out]
    obtain ⟨Y, hY⟩ : ∃ Y, simB s = Y := ⟨_, rfl⟩
    have KS := Lib.hid (fun W => (by have h := sim_any s hs W; rw [hY] at h; exact h : Calls Tryz.prog 31 #[.string s] W fun e w' => e = .returned (.string Y) ∧ W = w'))
    rw [hY] at hp hb ⊢
    clear hY HR
    have hb0 := bt_nonneg Y 0
    have hb1 := bt_le Y 0
    go_enter Tryz.func15, Tryz.ntmps15
    go_wp2_with (first | (go_at_call 30; refine KC.mono ?_; rintro e w1 ⟨rfl, hbw⟩) | (go_at_call 31; refine (KS.out _).mono ?_; rintro e w2 ⟨rfl, rfl⟩))
    all_goals
      go_ret
      exact ⟨by first | (simp_all; done) | (simp_all; omega), hbw⟩
set_option maxRecDepth 100000 in
set_option maxHeartbeats 1000000 in
theorem rlcl_any (s : ByteArray) (hs : s.size ≤ 9223372036854775807) (w : World) : Calls Tryz.prog 16 #[.string s] w fun e w' => e = .returned (.bool (lclB s)) ∧ w' = w := by
  unfold lclB
  have KC := rcls_any s hs w
  cases hc : clsB s with
  | false =>
    rw [hc] at KC
    rw [Bool.false_and]
    go_enter Tryz.func16, Tryz.ntmps16
    go_wp2_with (first | (go_at_call 32; refine KC.mono ?_; rintro e w1 ⟨rfl, rfl⟩))
    go_ret
    exact ⟨rfl, rfl⟩
  | true =>
    rw [hc] at KC
    have hp := sim_pos hc
    have hb := get_bt (simB s)
    have HR := Lib.hid (Bool.true_and (decide (65 ≤ bt (simB s) 0) && decide (bt (simB s) 0 ≤ 90)))
    rw [HR.out]
    obtain ⟨Y, hY⟩ : ∃ Y, simB s = Y := ⟨_, rfl⟩
    have KS := Lib.hid (fun W => (by have h := rsim_any s hs W; rw [hY] at h; exact h : Calls Tryz.prog 33 #[.string s] W fun e w' => e = .returned (.string Y) ∧ W = w'))
    rw [hY] at hp hb ⊢
    clear hY HR
    have hb0 := bt_nonneg Y 0
    have hb1 := bt_le Y 0
    go_enter Tryz.func16, Tryz.ntmps16
    go_wp2_with (first | (go_at_call 32; refine KC.mono ?_; rintro e w1 ⟨rfl, rfl⟩) | (go_at_call 33; refine (KS.out _).mono ?_; rintro e w2 ⟨rfl, rfl⟩))
    all_goals
      go_ret
      exact ⟨by first | (simp_all; done) | (simp_all; omega), rfl⟩

end Go.Proofs.YtfpdnhbbbadegaaGreatDoor
