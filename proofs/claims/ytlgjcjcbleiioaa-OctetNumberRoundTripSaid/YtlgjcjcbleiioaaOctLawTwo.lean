/- The statements of layer 2: the examples; Put and the reading functions against the reference. -/
import Derived.Test.YtlgjcjcbleiioaaOctLaw
namespace Go.Proofs.Ytlgjcjcbleiioaa
open Go.ChangeShapes Go.WideShapes Go.ChangeAt Go.RowKit Go.PlainAid
set_option linter.unusedSimpArgs false
set_option linter.unusedVariables false

theorem below_then {w w1 w2 : World} (h1 : Below w.heap.size w w1) (h2 : Below w1.heap.size w1 w2) : Below w.heap.size w w2 := h1.trans (h2.mono h1.size)

def putE (n z : Int) : Int := if ¬ okSize z then 1 else if ¬ fitsP n z then 8 else 0
def putB (n z : Int) : ByteArray := if okSize z ∧ fitsP n z then strOfNums (putL n z) else strOfNums []

theorem put_any (n z : Int) (w : World) :
    Calls Try.prog 9 #[.int .i64 n, .int .i64 z] w fun e w' => e = .returned (.tuple #[.string (putB n z), .int .i64 (putE n z)]) ∧ Below w.heap.size w w' := by
  unfold putE putB
  by_cases hz : okSize z
  · by_cases hf : fitsP n z
    · simp only [hz, hf, not_true_eq_false, and_self, if_true, if_false]; exact put_ok n z hz hf w
    · simp only [hz, hf, not_true_eq_false, not_false_eq_true, and_false, if_true, if_false]
      exact (put_big n z hz hf w).mono fun _ _ ⟨a, b⟩ => ⟨a, below_eq b⟩
  · simp only [hz, not_false_eq_true, false_and, if_true, if_false]
    exact (put_bad n z hz w).mono fun _ _ ⟨a, b⟩ => ⟨a, below_eq b⟩
theorem rput_any (n z : Int) (w : World) :
    Calls Try.prog 10 #[.int .i64 n, .int .i64 z] w fun e w' => e = .returned (.tuple #[.string (putB n z), .int .i64 (putE n z)]) ∧ Below w.heap.size w w' := by
  unfold putE putB
  by_cases hz : okSize z
  · by_cases hf : fitsP n z
    · simp only [hz, hf, not_true_eq_false, and_self, if_true, if_false]; exact rput_ok n z hz hf w
    · simp only [hz, hf, not_true_eq_false, not_false_eq_true, and_false, if_true, if_false]
      exact (rput_big n z hz hf w).mono fun _ _ ⟨a, b⟩ => ⟨a, below_eq b⟩
  · simp only [hz, not_false_eq_true, false_and, if_true, if_false]
    exact (rput_bad n z hz w).mono fun _ _ ⟨a, b⟩ => ⟨a, below_eq b⟩

theorem gets_ex (w : World) :
    Calls Try.prog 18 #[.string ⟨#[120, 0, 1, 97, 98]⟩, .int .i64 1] w fun e w' => e = .returned (.tuple #[.string ⟨#[97]⟩, .int .i64 4, .int .i64 0]) ∧ w = w' := by
  have e1 : unsV ⟨#[120, 0, 1, 97, 98]⟩ 1 2 = 1 := by decide +kernel
  have e2 : unsE ⟨#[120, 0, 1, 97, 98]⟩ 1 2 = 0 := by decide +kernel
  go_enter Try.func18, Try.ntmps18
  go_wp2_with (go_at_call 12; refine (uns_any _ _ _ (by decide) _).mono ?_; rintro e w' ⟨rfl, rfl⟩)
  go_returns
  exact ⟨rfl, rfl⟩
theorem awake_any (w : World) :
    Calls Try.prog 11 #[] w fun e w' => e = .returned (.bool true) ∧ Below w.heap.size w w' := by
  have a1 : putB 258 2 = ⟨#[1, 2]⟩ := by decide +kernel
  have a2 : putE 258 2 = 0 := by decide +kernel
  have b1 : putB (-1) 1 = ⟨#[255]⟩ := by decide +kernel
  have b2 : putE (-1) 1 = 0 := by decide +kernel
  have c1 : sigV ⟨#[255]⟩ 0 1 = -1 := by decide +kernel
  have c2 : unsE ⟨#[255]⟩ 0 1 = 0 := by decide +kernel
  have d1 : unsV ⟨#[255]⟩ 0 1 = 255 := by decide +kernel
  go_enter Try.func11, Try.ntmps11
  go_wp2_with (first | (go_at_call 9; refine (put_any _ _ _).mono ?_; rintro e w1 ⟨rfl, hb1⟩) | (go_at_call 14; refine (sig_any _ _ _ (by decide) _).mono ?_; rintro e w' ⟨rfl, rfl⟩) | (go_at_call 12; refine (uns_any _ _ _ (by decide) _).mono ?_; rintro e w' ⟨rfl, rfl⟩) | (go_at_call 18; refine (gets_ex _).mono ?_; rintro e w' ⟨rfl, rfl⟩))
  go_returns
  exact ⟨rfl, below_then (by assumption) hb1⟩

theorem putref_any (n z : Int) (w : World) :
    Calls Try.prog 3 #[.int .i64 n, .int .i64 z] w fun e w' => e = .returned (.bool true) ∧ Below w.heap.size w w' := by
  go_enter Try.func3, Try.ntmps3
  go_wp2_with (first | (go_at_call 9; refine (put_any _ _ _).mono ?_; rintro e w1 ⟨rfl, hb1⟩) | (go_at_call 10; refine (rput_any _ _ _).mono ?_; rintro e w1 ⟨rfl, hb1⟩) | (go_at_call 11; refine (awake_any _).mono ?_; rintro e w1 ⟨rfl, hb1⟩))
  go_returns
  exact ⟨rfl, below_then (by assumption) (below_then (by assumption) hb1)⟩

theorem getref_any (s : ByteArray) (p z : Int) (hs : s.size ≤ 9223372036854775807) (w : World) :
    Calls Try.prog 4 #[.string s, .int .i64 p, .int .i64 z] w fun e w' => e = .returned (.bool true) ∧ Below w.heap.size w w' := by
  go_enter Try.func4, Try.ntmps4
  go_wp2_with (first | (go_at_call 12; refine (uns_any _ _ _ hs _).mono ?_; rintro e w' ⟨rfl, rfl⟩) | (go_at_call 13; refine (runs_any _ _ _ hs _).mono ?_; rintro e w' ⟨rfl, rfl⟩) | (go_at_call 14; refine (sig_any _ _ _ hs _).mono ?_; rintro e w' ⟨rfl, rfl⟩) | (go_at_call 15; refine (rsig_any _ _ _ hs _).mono ?_; rintro e w' ⟨rfl, rfl⟩) | (go_at_call 11; refine (awake_any _).mono ?_; rintro e w1 ⟨rfl, hb1⟩))
  go_returns
  exact ⟨rfl, hb1⟩

end Go.Proofs.Ytlgjcjcbleiioaa
