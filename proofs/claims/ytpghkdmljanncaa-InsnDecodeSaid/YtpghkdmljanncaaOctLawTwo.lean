/- The statements of layer 2: the examples; Put and the reading functions against the reference. -/
import Derived.Test.YtpghkdmljanncaaOctLaw
namespace Go.Proofs.Ytpghkdmljanncaa
open Go.ChangeShapes Go.WideShapes Go.ChangeAt Go.RowKit Go.PlainAid
set_option linter.unusedSimpArgs false
set_option linter.unusedVariables false

theorem below_then {w w1 w2 : World} (h1 : Below w.heap.size w w1) (h2 : Below w1.heap.size w1 w2) : Below w.heap.size w w2 := h1.trans (h2.mono h1.size)

def putE (n z : Int) : Int := if ¬ okSize z then 1 else if ¬ fitsP n z then 8 else 0
def putB (n z : Int) : ByteArray := if okSize z ∧ fitsP n z then strOfNums (putL n z) else strOfNums []

theorem put_any (n z : Int) (w : World) :
    Calls Try.prog 100 #[.int .i64 n, .int .i64 z] w fun e w' => e = .returned (.tuple #[.string (putB n z), .int .i64 (putE n z)]) ∧ Below w.heap.size w w' := by
  unfold putE putB
  by_cases hz : okSize z
  · by_cases hf : fitsP n z
    · simp only [hz, hf, not_true_eq_false, and_self, if_true, if_false]; exact put_ok n z hz hf w
    · simp only [hz, hf, not_true_eq_false, not_false_eq_true, and_false, if_true, if_false]
      exact (put_big n z hz hf w).mono fun _ _ ⟨a, b⟩ => ⟨a, below_eq b⟩
  · simp only [hz, not_false_eq_true, false_and, if_true, if_false]
    exact (put_bad n z hz w).mono fun _ _ ⟨a, b⟩ => ⟨a, below_eq b⟩
theorem rput_any (n z : Int) (w : World) :
    Calls Try.prog 102 #[.int .i64 n, .int .i64 z] w fun e w' => e = .returned (.tuple #[.string (putB n z), .int .i64 (putE n z)]) ∧ Below w.heap.size w w' := by
  unfold putE putB
  by_cases hz : okSize z
  · by_cases hf : fitsP n z
    · simp only [hz, hf, not_true_eq_false, and_self, if_true, if_false]; exact rput_ok n z hz hf w
    · simp only [hz, hf, not_true_eq_false, not_false_eq_true, and_false, if_true, if_false]
      exact (rput_big n z hz hf w).mono fun _ _ ⟨a, b⟩ => ⟨a, below_eq b⟩
  · simp only [hz, not_false_eq_true, false_and, if_true, if_false]
    exact (rput_bad n z hz w).mono fun _ _ ⟨a, b⟩ => ⟨a, below_eq b⟩

end Go.Proofs.Ytpghkdmljanncaa
