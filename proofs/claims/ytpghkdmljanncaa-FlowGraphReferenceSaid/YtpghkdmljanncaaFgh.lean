/- Layer 19: the law on the graph. -/
import Derived.Test.YtpghkdmljanncaaFgg
namespace Go.Proofs.Ytpghkdmljanncaa
open Go.ChangeShapes Go.WideShapes Go.ChangeAt Go.RowKit Go.PlainAid
set_option linter.unusedSimpArgs false
set_option linter.unusedVariables false

set_option maxRecDepth 100000 in
theorem graph_law (c : Cd) (w : World) (hok : c.raw w) : Calls Try.prog 11 #[(Value.agg #[Value.int IntKind.i64 (Cd.st c), Value.int IntKind.i64 (Cd.lo c), Value.slice (Cd.iA c) (Cd.n c) (Cd.ic c), Value.slice (Cd.hA c) (Cd.hn c) (Cd.hc c), Value.slice (Cd.mA c) (Cd.mn c) (Cd.mc c), Value.slice (Cd.lA c) (Cd.ln c) (Cd.lc c)])] w fun e w' => e = .returned (.bool true) ∧ Below w.heap.size w w' := by
  by_cases hf : c.few
  · exact graph_in c w hok hf
  · have hB : Below w.heap.size w w := Below.refl _ _
    have OK := Lib.hid hok
    have HF := Lib.hid hf
    clear hf hok
    go_enter Try.func11, Try.ntmps11
    go_upto_region 1 with fail
    have R := World.alloc_heap_new w (.cells #[.int .i64 c.st, .int .i64 c.lo, .slice c.iA c.n c.ic, .slice c.hA c.hn c.hc, .slice c.mA c.mn c.mc, .slice c.lA c.ln c.lc] 50)
    replace hB := below_al hB (.cells #[.int .i64 c.st, .int .i64 c.lo, .slice c.iA c.n c.ic, .slice c.hA c.hn c.hc, .slice c.mA c.mn c.mc, .slice c.lA c.ln c.lc] 50)
    generalize w.alloc (.cells #[.int .i64 c.st, .int .i64 c.lo, .slice c.iA c.n c.ic, .slice c.hA c.hn c.hc, .slice c.mA c.mn c.mc, .slice c.lA c.ln c.lc] 50) = W1 at R hB ⊢
    obtain ⟨r0, r1, r2, r3, r4, r5⟩ := six_cells R
    have y1 := lt_heap R
    replace R := Lib.hid R
    have OK1 := Lib.hid (OK.out.up hB)
    have HB := Lib.hid hB
    clear hB
    go_wp2_with (first | (go_at_call 30; (with_reducible refine (few_no c _ OK1.out HF.out).mono ?_); rintro e w2 ⟨rfl, hb2⟩) | (go_at_call 31; (with_reducible refine (awake19_any _).mono ?_); rintro e w3 ⟨rfl, hb3⟩))
    go_ret
    exact ⟨rfl, below_on HB.out (below_on hb2 hb3)⟩

end Go.Proofs.Ytpghkdmljanncaa
