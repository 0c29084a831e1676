/- Layer 53: what the lexer reads of package-level variables, out of what the row lists. -/
import Derived.Test.YtfpdnhbbbadegaaGreatDoorYg
import Derived.Test.YtfpdnhbbbadegaaGreatDoorRows
import Derived.Stop.LaidErr
import Derived.Shelf.Vars
namespace Go.Proofs.YtfpdnhbbbadegaaGreatDoor
open Go.ChangeShapes Go.WideShapes Go.ChangeAt Go.RowKit
theorem star_err : "*" ++ "errors.errorString" = "*errors.errorString" := by decide
theorem row_err (u : TypeId) (h : Tryz.prog.typeName? 3 u = some "*errors.errorString") : u = 139 :=
  typeName_ptr_named (nm := "errors.errorString") (by rw [star_err]; kernel_rfl) (by kernel_rfl) (by decide) u (by rw [star_err]; exact h)
set_option maxRecDepth 100000 in
theorem laid_of {W : World} (h : laidMetH Tryz.prog Rows.lexFormatReferenceUptoRow.laid W) (hS : W.ShapedOpen Tryz.prog) : Laid W := by
  have h1 : laidMet Tryz.prog Rows.lexFormatReferenceUptoRow.laid W := h
  have h2 := laidMet.tail (laidMet.tail h1)
  have h4 := laidMet.tail (laidMet.tail h2)
  have h7 := laidMet.tail (laidMet.tail (laidMet.tail h4))
  refine ⟨?_, ?_, ?_, ?_⟩
  · exact Lib.tabIs_of_head (g := 0) (t := 68) (e := 5) (n := 256) (by kernel_rfl) (by kernel_rfl) Tryz.underlying68 Tryz.underlying5 (by kernel_rfl) (by kernel_rfl) h7
  · exact Lib.tabIs_of_head (g := 5) (t := 126) (e := 95) (n := 20) (by kernel_rfl) (by kernel_rfl) Tryz.underlying126 Tryz.underlying95 (by kernel_rfl) (by kernel_rfl) h2
  · have hg : Tryz.prog.globalNamed "strconv.ErrRange" = some 7 := by kernel_rfl
    obtain ⟨a0, s0, hv, _, _, _⟩ := laid_sentinel h4 hg (by kernel_rfl) Tryz.underlying60 row_err Tryz.underlying139 Tryz.underlying141 rfl rfl Tryz.underlying9 (by kernel_rfl) (by kernel_rfl)
    have := World.var?_cell hg hv 0
    exact ⟨_, this.trans rfl, Or.inr ⟨_, _, rfl⟩⟩
  · exact cell_of_shapedOpen_int (zero := #[.int .i64 0]) (t := 3) hS (of_decide_eq_true (by kernel_rfl)) (by kernel_rfl) rfl (by kernel_rfl) (by kernel_rfl) Tryz.underlying3
end Go.Proofs.YtfpdnhbbbadegaaGreatDoor
