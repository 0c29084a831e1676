/- What a row that lists the table of mnemonics gives to a walk, and a world that holds the table. -/
import Derived.Test.YtlgjcjcbleiioaaDoorOpcName
import Derived.Lib.LaidTab
namespace Go.Proofs.YtlgjcjcbleiioaaDoor
open Go.ChangeShapes Go.WideShapes Go.ChangeAt Go.RowKit
set_option linter.unusedSimpArgs false
set_option linter.unusedVariables false

/-- an array of strings that reads as a list of texts holds those texts, cell for cell -/
theorem cells_of_strs {H : Type} {enc : TypeId × Value → H} {P : Program} {w : World} {base : Nat} {sp : Nat → Bool} {held : Bool} {fuel : Nat} {t e : TypeId} {n : Nat} {cs : List Value} {ls : List (List UInt8)} {p : List MemPlace}
    (ht : P.underlying t = some (.array n e)) (he : P.underlying e = some .string) (hce : P.cellsOf e = 1) (hct : P.cellsOf t = n)
    (h : DataW.trod enc P w base sp held fuel t cs = some (.agg (ls.map fun l => .lit (.string l)), p)) : cs = ls.map fun l => Value.string ⟨l.toArray⟩ := by
  cases fuel with
  | zero => simp [DataW.trod] at h
  | succ fuel =>
    simp only [DataW.trod, ht, hce, hct, Nat.mul_one] at h
    split at h
    · next hl =>
      obtain ⟨xs, hm, hx⟩ := Option.map_eq_some_iff.1 h
      have hf : xs.map (·.1) = ls.map fun l => (DataW.lit (.string l) : DataW H) := by
        have := congrArg Prod.fst hx
        simpa using this
      have hxl : xs.length = n := by simpa using Lib.mapM_length hm
      have hll : ls.length = n := by
        have := congrArg List.length hf
        rw [List.length_map, List.length_map] at this
        omega
      refine List.ext_getElem? fun i => ?_
      by_cases hi : i < n
      · obtain ⟨b, hb, hg⟩ := Lib.mapM_at hm i i (by simp [hi])
        obtain ⟨s, hc, rfl, _⟩ := DataW.trod_string he hg
        have c1 : cs[i]? = some (.string s) := by
          have := congrArg (·[0]?) hc
          simpa [List.getElem?_take, List.getElem?_drop] using this
        have c2 : (xs.map (·.1))[i]? = some (DataW.lit (.string s.data.toList) : DataW H) := by simp [hb]
        rw [hf, List.getElem?_map] at c2
        obtain ⟨l, hl', e'⟩ := Option.map_eq_some_iff.1 c2
        injection e' with e'
        injection e' with e'
        rw [c1, List.getElem?_map, hl', e']
        rfl
      · rw [List.getElem?_eq_none (by omega), List.getElem?_eq_none (by rw [List.length_map]; omega)]
    · cases h

theorem gNames : Tryd.prog.globalNamed "armature/opcode.names" = some 0 := by kernel_rfl
theorem gNamesT : (Tryd.prog.globals[0]?).map (·.type) = some 34 := by kernel_rfl
theorem cellsNames : Tryd.prog.cellsOf 34 = 81 := by kernel_rfl
theorem cellsStr : Tryd.prog.cellsOf 9 = 1 := by kernel_rfl

theorem names_of {rest : List (String × DataW Unit)} {W : World} (h : laidMet Tryd.prog (("armature/opcode.names", Rows.laid_armature_opcode_names) :: rest) W) : NamesAt W := by
  obtain ⟨ps, ⟨g', t', cs, fuel, p, q, hg', ht', hvar, hd, _, _⟩, _⟩ := h
  obtain rfl := Option.some.inj (gNames.symm.trans hg')
  obtain rfl := Option.some.inj (gNamesT.symm.trans ht')
  have hc := cells_of_strs (ls := nmL) Tryd.underlying34 Tryd.underlying9 cellsStr cellsNames hd
  have hA : cs = nmA := by
    apply Array.ext'
    rw [hc]
    rfl
  unfold World.var? at hvar
  rw [gNames] at hvar
  simp only [Option.bind_some] at hvar
  split at hvar
  · next hh =>
    injection hvar with hvar
    subst hvar
    rw [hA] at hh
    exact ⟨_, _, hh⟩
  · cases hvar

end Go.Proofs.YtlgjcjcbleiioaaDoor
