/- Layer 17: types and verification types, opened. -/
import Derived.Test.YthifmcnemeiphaaDoorVk
import Derived.Deep.Slices
import Derived.Deep.Strs
import Derived.Deep.Fields
import Derived.Lib.SmallJoins
namespace Go.Proofs.YthifmcnemeiphaaDoor
open Go.ChangeShapes Go.WideShapes Go.ChangeAt Go.RowKit Go.Deep
set_option linter.unusedSimpArgs false
set_option linter.unusedVariables false

theorem cellsT3 : Tryd.prog.cellsOf 41 = 3 := by kernel_rfl
theorem cellsV6 : Tryd.prog.cellsOf 43 = 6 := by kernel_rfl
theorem cellsI : Tryd.prog.cellsOf 3 = 1 := by kernel_rfl
theorem cellsU : Tryd.prog.cellsOf 5 = 1 := by kernel_rfl
theorem cellsS : Tryd.prog.cellsOf 9 = 1 := by kernel_rfl
section
variable {H : Type} {enc : TypeId × Value → H} {w : World} {base : Nat} {spare : Nat → Bool} {held : Bool}
theorem list3 {α : Type} : ∀ (l : List α), l.length = 3 → ∃ a b c, l = [a, b, c]
  | [a, b, c], _ => ⟨a, b, c, rfl⟩
theorem list4 {α : Type} : ∀ (l : List α), l.length = 4 → ∃ a b c d, l = [a, b, c, d]
  | [a, b, c, d], _ => ⟨a, b, c, d, rfl⟩
theorem list6 {α : Type} : ∀ (l : List α), l.length = 6 → ∃ a b c d e f, l = [a, b, c, d, e, f]
  | [a, b, c, d, e, f], _ => ⟨a, b, c, d, e, f, rfl⟩
theorem i64_wf {n : Int} (h : (Lit.int .i64 n).wf = true) : -9223372036854775808 ≤ n ∧ n ≤ 9223372036854775807 := by
  simp only [Lit.wf, Bool.and_eq_true, decide_eq_true_eq] at h
  have h1 := h.1
  have h2 := h.2
  rw [show IntKind.i64.min = -9223372036854775808 from by rfl] at h1
  rw [show IntKind.i64.max = 9223372036854775807 from by rfl] at h2
  exact ⟨h1, h2⟩
set_option maxRecDepth 100000 in
theorem open_ty {fuel : Nat} {cs : List Value} {x : DataW H × List MemPlace} (h : DataW.trod enc Tryd.prog w base spare held fuel 41 cs = some x) :
    ∃ (d b : Int) (s : ByteArray), cs = [.int .i64 d, .int .u8 b, .string s] ∧ s.size ≤ 9223372036854775807 := by
  obtain ⟨xs, n, _, _, hl, hxl, hg⟩ := DataW.trod_struct Tryd.underlying41 h
  have h0 := hg 0 _ rfl
  have h1 := hg 1 _ rfl
  have h2 := hg 2 _ rfl
  rw [cellsT3] at hl
  obtain ⟨v0, v1, v2, rfl⟩ := list3 cs hl
  obtain ⟨y0, y1, y2, rfl⟩ := list3 xs hxl
  change DataW.trod enc Tryd.prog w base spare held n 3 (List.take (Tryd.prog.cellsOf 3) [v0, v1, v2]) = some y0 at h0
  change DataW.trod enc Tryd.prog w base spare held n 5 (List.take (Tryd.prog.cellsOf 5) [v1, v2]) = some y1 at h1
  change DataW.trod enc Tryd.prog w base spare held n 9 (List.take (Tryd.prog.cellsOf 9) [v2]) = some y2 at h2
  rw [cellsI] at h0
  rw [cellsU] at h1
  rw [cellsS] at h2
  obtain ⟨a0, e0, _, _⟩ := DataW.trod_int Tryd.underlying3 h0
  obtain ⟨a1, e1, _, _⟩ := DataW.trod_int Tryd.underlying5 h1
  obtain ⟨a2, e2, _, k2⟩ := DataW.trod_string Tryd.underlying9 h2
  simp at e0 e1 e2
  subst e0 e1 e2
  unfold maxLen at k2
  exact ⟨a0, a1, a2, rfl, k2⟩
set_option maxRecDepth 100000 in
theorem open_vt {fuel : Nat} {cs : List Value} {x : DataW H × List MemPlace} (h : DataW.trod enc Tryd.prog w base spare held fuel 43 cs = some x) :
    ∃ (k n d b : Int) (s : ByteArray) (p : Int), cs = [.int .i64 k, .int .i64 n, .int .i64 d, .int .u8 b, .string s, .int .i64 p] ∧ s.size ≤ 9223372036854775807 ∧ -9223372036854775808 ≤ n ∧ n ≤ 9223372036854775807 := by
  obtain ⟨xs, m, _, _, hl, hxl, hg⟩ := DataW.trod_struct Tryd.underlying43 h
  have h0 := hg 0 _ rfl
  have h1 := hg 1 _ rfl
  have h2 := hg 2 _ rfl
  have h3 := hg 3 _ rfl
  rw [cellsV6] at hl
  obtain ⟨v0, v1, v2, v3, v4, v5, rfl⟩ := list6 cs hl
  obtain ⟨y0, y1, y2, y3, rfl⟩ := list4 xs hxl
  change DataW.trod enc Tryd.prog w base spare held m 3 (List.take (Tryd.prog.cellsOf 3) [v0, v1, v2, v3, v4, v5]) = some y0 at h0
  change DataW.trod enc Tryd.prog w base spare held m 3 (List.take (Tryd.prog.cellsOf 3) [v1, v2, v3, v4, v5]) = some y1 at h1
  change DataW.trod enc Tryd.prog w base spare held m 41 (List.take (Tryd.prog.cellsOf 41) [v2, v3, v4, v5]) = some y2 at h2
  change DataW.trod enc Tryd.prog w base spare held m 3 (List.take (Tryd.prog.cellsOf 3) [v5]) = some y3 at h3
  rw [cellsI] at h0 h1 h3
  rw [cellsT3] at h2
  obtain ⟨a0, e0, _, _⟩ := DataW.trod_int Tryd.underlying3 h0
  obtain ⟨a1, e1, _, k1⟩ := DataW.trod_int Tryd.underlying3 h1
  obtain ⟨d, b, s, e2, hs⟩ := open_ty h2
  obtain ⟨a3, e3, _, _⟩ := DataW.trod_int Tryd.underlying3 h3
  simp at e0 e1 e2 e3
  obtain ⟨f2, f3, f4⟩ := e2
  subst e0 e1 f2 f3 f4 e3
  exact ⟨a0, a1, d, b, s, a3, rfl, hs, i64_wf k1⟩
set_option maxRecDepth 100000 in
theorem open_ty_of {r : Reach} {b0 : Nat} {v : Value} {d : DataW H} {q : List MemPlace} (hv : Value.okWide Tryd.prog w r b0 41 v) (h : DataW.Trod enc Tryd.prog w base spare held 41 v d q) :
    ∃ (d b : Int) (s : ByteArray), v = .agg #[.int .i64 d, .int .u8 b, .string s] ∧ s.size ≤ 9223372036854775807 := by
  obtain ⟨cs, rfl, hsz⟩ := okWide_struct Tryd.underlying41 hv
  obtain ⟨fuel, hf⟩ := h
  obtain ⟨d, b, s, e, hs⟩ := open_ty hf
  refine ⟨d, b, s, ?_, hs⟩
  have e' : cs.toList = [.int .i64 d, .int .u8 b, .string s] := by simpa [Value.cells] using e
  have : cs = #[.int .i64 d, .int .u8 b, .string s] := by rw [← Array.toArray_toList (xs := cs), e']
  rw [this]
set_option maxRecDepth 100000 in
theorem open_vt_of {r : Reach} {b0 : Nat} {v : Value} {d : DataW H} {q : List MemPlace} (hv : Value.okWide Tryd.prog w r b0 43 v) (h : DataW.Trod enc Tryd.prog w base spare held 43 v d q) :
    ∃ (k n d b : Int) (s : ByteArray) (p : Int), v = .agg #[.int .i64 k, .int .i64 n, .int .i64 d, .int .u8 b, .string s, .int .i64 p] ∧ s.size ≤ 9223372036854775807 ∧ -9223372036854775808 ≤ n ∧ n ≤ 9223372036854775807 := by
  obtain ⟨cs, rfl, hsz⟩ := okWide_struct Tryd.underlying43 hv
  obtain ⟨fuel, hf⟩ := h
  obtain ⟨k, n, d, b, s, p, e, hs⟩ := open_vt hf
  refine ⟨k, n, d, b, s, p, ?_, hs⟩
  have e' : cs.toList = [.int .i64 k, .int .i64 n, .int .i64 d, .int .u8 b, .string s, .int .i64 p] := by simpa [Value.cells] using e
  have : cs = #[.int .i64 k, .int .i64 n, .int .i64 d, .int .u8 b, .string s, .int .i64 p] := by rw [← Array.toArray_toList (xs := cs), e']
  rw [this]
end
end Go.Proofs.YthifmcnemeiphaaDoor
