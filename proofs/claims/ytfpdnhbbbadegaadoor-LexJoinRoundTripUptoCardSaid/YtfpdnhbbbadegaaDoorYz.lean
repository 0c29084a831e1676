/- Layer 53: what the lexer reads of package-level variables, out of what the row lists. -/
import Derived.Test.YtfpdnhbbbadegaaDoorYg
import Derived.Test.YtfpdnhbbbadegaaDoorRows
import Derived.Stop.LaidErr
import Derived.Shelf.Vars
namespace Go.Proofs.YtfpdnhbbbadegaaDoor
open Go.ChangeShapes Go.WideShapes Go.ChangeAt Go.RowKit
theorem star_err : "*" ++ "errors.errorString" = "*errors.errorString" := by decide
theorem row_err (u : TypeId) (h : Tryd.prog.typeName? 3 u = some "*errors.errorString") : u = 134 :=
  typeName_ptr_named (nm := "errors.errorString") (by rw [star_err]; kernel_rfl) (by kernel_rfl) (by decide) u (by rw [star_err]; exact h)
set_option maxRecDepth 100000 in
theorem laid_of {W : World} (h : laidMetH Tryd.prog Rows.lexOffsetsRow.laid W) (hS : W.ShapedOpen Tryd.prog) : Laid W := by
  have h1 : laidMet Tryd.prog Rows.lexOffsetsRow.laid W := h
  have h2 := laidMet.tail (laidMet.tail h1)
  have h4 := laidMet.tail (laidMet.tail h2)
  have h7 := laidMet.tail (laidMet.tail (laidMet.tail h4))
  refine ⟨?_, ?_, ?_, ?_⟩
  · exact Lib.tabIs_of_head (g := 0) (t := 68) (e := 5) (n := 256) (by kernel_rfl) (by kernel_rfl) Tryd.underlying68 Tryd.underlying5 (by kernel_rfl) (by kernel_rfl) h7
  · exact Lib.tabIs_of_head (g := 5) (t := 117) (e := 87) (n := 20) (by kernel_rfl) (by kernel_rfl) Tryd.underlying117 Tryd.underlying87 (by kernel_rfl) (by kernel_rfl) h2
  · have hg : Tryd.prog.globalNamed "strconv.ErrRange" = some 7 := by kernel_rfl
    obtain ⟨a0, s0, hv, _, _, _⟩ := laid_sentinel h4 hg (by kernel_rfl) Tryd.underlying50 row_err Tryd.underlying134 Tryd.underlying136 rfl rfl Tryd.underlying9 (by kernel_rfl) (by kernel_rfl)
    have := World.var?_cell hg hv 0
    exact ⟨_, this.trans rfl, Or.inr ⟨_, _, rfl⟩⟩
  · exact cell_of_shapedOpen_int (zero := #[.int .i64 0]) (t := 3) hS (of_decide_eq_true (by kernel_rfl)) (by kernel_rfl) rfl (by kernel_rfl) (by kernel_rfl) Tryd.underlying3
end Go.Proofs.YtfpdnhbbbadegaaDoor
