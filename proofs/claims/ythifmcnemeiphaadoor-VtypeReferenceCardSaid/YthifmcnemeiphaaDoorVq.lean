/- Layer 17: the table of powers of ten, out of what the row lists. -/
import Derived.Test.YthifmcnemeiphaaDoorVo
import Derived.Test.YthifmcnemeiphaaDoorRows
import Derived.Stop.LaidErr
namespace Go.Proofs.YthifmcnemeiphaaDoor
open Go.ChangeShapes Go.WideShapes Go.ChangeAt Go.RowKit
theorem tab_of_row {W : World} (h : laidMetH Tryd.prog Rows.vtypeReferenceRow.laid W) : Tab W := by
  have h1 : laidMet Tryd.prog Rows.vtypeReferenceRow.laid W := h
  have h2 := laidMet.tail (laidMet.tail h1)
  exact Lib.tabIs_of_head (g := 0) (t := 152) (e := 111) (n := 20) (by kernel_rfl) (by kernel_rfl) Tryd.underlying152 Tryd.underlying111 (by kernel_rfl) (by kernel_rfl) h2
end Go.Proofs.YthifmcnemeiphaaDoor
