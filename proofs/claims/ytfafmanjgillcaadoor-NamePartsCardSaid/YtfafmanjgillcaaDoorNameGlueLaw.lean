/- Layer 3: the statement on what class names are made of. -/
import Derived.Test.YtfafmanjgillcaaDoorNameGlueTwo
import Derived.Test.YtfafmanjgillcaaDoorNameGlueThree
namespace Go.Proofs.YtfafmanjgillcaaDoor
open Go.ChangeShapes Go.WideShapes Go.ChangeAt Go.RowKit Go.PlainAid
set_option linter.unusedSimpArgs false
set_option linter.unusedVariables false

instance (c : Int) : Decidable (foreignB c) := by unfold foreignB; exact inferInstance
theorem parts_law (s t : ByteArray) (c : Int) (hc : 0 ≤ c ∧ c ≤ 255) (hs : s.size ≤ 140737488351232) (ht : t.size ≤ 140737488351232) (w : World) :
    Calls Tryd.prog 5 #[.string s, .string t, .int .u8 c] w fun e w' => e = .returned (.bool true) ∧ Below w.heap.size w w' := by
  have hB : Below w.heap.size w w := Below.refl _ _
  by_cases h1 : s.size ≤ 200
  · by_cases h2 : t.size ≤ 200
    · by_cases hf : foreignB c
      · cases e1 : clsB s with
        | false => exact parts_a_out s t c hc h1 h2 e1 hf w
        | true =>
          cases e2 : clsB t with
          | false => exact parts_b_out s t c hc h1 h2 e1 e2 hf w
          | true =>
            by_cases e3 : (s.size : Int) + t.size + 1 ≤ 64
            · exact parts_c_out s t c hc h1 h2 e1 e2 e3 hf w
            · exact parts_d_out s t c hc h1 h2 e1 e2 e3 hf w
      · cases e1 : clsB s with
        | false => exact parts_a_in s t c hc h1 h2 e1 hf w
        | true =>
          cases e2 : clsB t with
          | false => exact parts_b_in s t c hc h1 h2 e1 e2 hf w
          | true =>
            by_cases e3 : (s.size : Int) + t.size + 1 ≤ 64
            · exact parts_c_in s t c hc h1 h2 e1 e2 e3 hf w
            · exact parts_d_in s t c hc h1 h2 e1 e2 e3 hf w
    · go_enter Tryd.func5, Tryd.ntmps5
      go_wp2_with (go_at_call 14; refine (awake_any _).mono ?_; rintro e w1 ⟨rfl, hb1⟩; replace hB := Below.trans hB (hb1.mono hB.size); clear hb1)
      go_ret
      exact ⟨rfl, hB⟩
  · go_enter Tryd.func5, Tryd.ntmps5
    go_wp2_with (go_at_call 14; refine (awake_any _).mono ?_; rintro e w1 ⟨rfl, hb1⟩; replace hB := Below.trans hB (hb1.mono hB.size); clear hb1)
    go_ret
    exact ⟨rfl, hB⟩

end Go.Proofs.YtfafmanjgillcaaDoor
