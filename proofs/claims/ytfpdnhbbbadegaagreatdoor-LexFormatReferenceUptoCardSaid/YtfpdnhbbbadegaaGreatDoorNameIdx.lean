/- strings.Index at "/"; where the first slash stands. -/
import Derived.Test.YtfpdnhbbbadegaaGreatDoorNameTwo
import Derived.Lib.Bytealg
namespace Go.Proofs.YtfpdnhbbbadegaaGreatDoor
open Go.ChangeShapes Go.WideShapes Go.ChangeAt Go.RowKit Go.PlainAid
set_option linter.unusedSimpArgs false
set_option linter.unusedVariables false

def slash : ByteArray := ⟨#[47]⟩

theorem ret_int1 {a b : Int} (h : a = b) : Ending.returned (.int .i64 a) = .returned (.int .i64 b) := by rw [h]
theorem index_cases : ∀ l : List UInt8, (Lib.indexByte l 47 = -1 ∧ ∀ x ∈ l, x ≠ 47) ∨
    ∃ k : Nat, Lib.indexByte l 47 = k ∧ k < l.length ∧ l = l.take k ++ 47 :: l.drop (k + 1) ∧ ∀ x ∈ l.take k, x ≠ 47
  | [] => .inl ⟨rfl, by simp⟩
  | b :: l => by
    by_cases hb : b = 47
    · subst hb
      exact .inr ⟨0, rfl, by simp, by simp, by simp⟩
    · have hbe : (b == (47 : UInt8)) = false := by simpa using hb
      rcases index_cases l with ⟨h1, h2⟩ | ⟨k, h1, h2, h3, h4⟩
      · refine .inl ⟨?_, fun x hx => ?_⟩
        · unfold Lib.indexByte
          rw [hbe, h1]; rfl
        · rcases List.mem_cons.1 hx with rfl | h
          · exact hb
          · exact h2 x h
      · refine .inr ⟨k + 1, ?_, by simp; omega, ?_, fun x hx => ?_⟩
        · unfold Lib.indexByte
          rw [hbe, h1]
          have hk : (((k : Nat) : Int) == -1) = false := by simp
          rw [hk]
          simp
        · rw [List.take_succ_cons, List.drop_succ_cons, List.cons_append, ← h3]
        · rw [List.take_succ_cons] at hx
          rcases List.mem_cons.1 hx with rfl | h
          · exact hb
          · exact h4 x h

set_option maxHeartbeats 1000000 in
set_option maxRecDepth 100000 in
theorem indexByte_any (s : ByteArray) (c : Int) (w : World) :
    Calls Tryz.prog 109 #[.string s, .int .u8 c] w fun e w' => e = .returned (.int .i64 (Lib.indexByte s.data.toList c.toNat.toUInt8)) ∧ w = w' := by
  go_enter Tryz.func109, Tryz.ntmps109
  go_wp2
  rw [run_callFunc_extern Tryz.func122 (by kernel_rfl) (by kernel_rfl) (by kernel_rfl) (e := Extern.BytealgIndexByte.indexByte) (by kernel_rfl), Lib.run_indexByteString]
  simp only [Result.andThen]
  rw [Oper.upon_value]
  go_wp2
  go_ret
  exact ⟨rfl, rfl⟩

set_option maxHeartbeats 2000000 in
set_option maxRecDepth 100000 in
theorem sindex1_any (s : ByteArray) (c : UInt8) (w : World) :
    Calls Tryz.prog 92 #[.string s, .string ⟨#[c]⟩] w fun e w' => e = .returned (.int .i64 (Lib.indexByte s.data.toList c)) ∧ w = w' := by
  go_enter Tryz.func92, Tryz.ntmps92
  go_wp2_with (go_at_call 109; refine (indexByte_any _ _ _).mono ?_; rintro e w' ⟨rfl, rfl⟩)
  · have h : ([c] == s.toList) = true := by assumption
    go_ret
    refine ⟨?_, rfl⟩
    have e : s.data.toList = [c] := by rw [← Lib.toList_data]; exact (beq_iff_eq.1 h).symm
    rw [e]
    simp [Lib.indexByte]
  · go_ret
    exact ⟨rfl, rfl⟩

theorem index1_any (s : ByteArray) (c : UInt8) (w : World) :
    Calls Tryz.prog 75 #[.string s, .string ⟨#[c]⟩] w fun e w' => e = .returned (.int .i64 (Lib.indexByte s.data.toList c)) ∧ w = w' := by
  go_enter Tryz.func75, Tryz.ntmps75
  go_wp2_with (go_at_call 92; refine (sindex1_any _ _ _).mono ?_; rintro e w' ⟨rfl, rfl⟩)
  go_ret
  exact ⟨rfl, rfl⟩
theorem index_any (s : ByteArray) (w : World) :
    Calls Tryz.prog 75 #[.string s, .string slash] w fun e w' => e = .returned (.int .i64 (Lib.indexByte s.data.toList 47)) ∧ w = w' := index1_any s 47 w
end Go.Proofs.YtfpdnhbbbadegaaGreatDoor
