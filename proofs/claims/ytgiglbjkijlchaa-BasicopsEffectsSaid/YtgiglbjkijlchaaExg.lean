/- Layer 42: Execute. -/
import Derived.Test.YtgiglbjkijlchaaExb
import Derived.Test.YtgiglbjkijlchaaExc
import Derived.Test.YtgiglbjkijlchaaExd
import Derived.Test.YtgiglbjkijlchaaExe
import Derived.Test.YtgiglbjkijlchaaExf
namespace Go.Proofs.Ytgiglbjkijlchaa
open Go.ChangeShapes Go.WideShapes Go.ChangeAt Go.RowKit Go.PlainAid
set_option linter.unusedSimpArgs false
set_option linter.unusedVariables false

theorem exec_any (a : Ac) (i : In) (w : World) (ha : a.ok w) (hi : i.ok w w.heap.size) (hl1 : a.ls.length ≤ 100000) (hl2 : a.ss.length ≤ 100000) (h1 : i.kn ≤ 100000) (h2 : i.tn ≤ 100000) (hra : Rg i.a) (hv : VsIn a.ss) :
    Calls Try.prog 10 #[(Value.agg #[Value.int IntKind.i64 (Hd8.cl a.h), Value.int IntKind.i64 (Hd8.me a.h), Value.int IntKind.i64 (Hd8.pc a.h), ((.slice a.lA a.ls.length a.lc)), ((.slice a.sA a.ss.length a.sc)), Value.int IntKind.i64 (Hd8.lk a.h), Value.bool (Hd8.ii a.h), Value.bool (Hd8.dr a.h)]), (Value.agg #[Value.int IntKind.i64 (In.op i), Value.int IntKind.i64 (In.a i), Value.int IntKind.i64 (In.b i), Value.int IntKind.i64 (In.t i), Value.slice (In.kA i) (In.kn i) (In.kc i), Value.slice (In.tA i) (In.tn i) (In.tc i), Value.string (In.r1 i), Value.string (In.r2 i), Value.string (In.r3 i), Value.string (In.s i)])] w (ExRet a w (execS i ⟨a.h, a.ls, a.ss⟩) (execE i ⟨a.h, a.ls, a.ss⟩)) := by
  cases ho : ownI i with
  | false =>
    have hE : execE i ⟨a.h, a.ls, a.ss⟩ = 15 := if_neg (by rw [ho]; decide)
    rw [show execS i ⟨a.h, a.ls, a.ss⟩ = ⟨a.h, a.ls, a.ss⟩ from if_pos (by rw [hE]; decide), hE]
    exact exec_bad a i w ha ho
  | true =>
    have hh : (0 ≤ i.op ∧ i.op ≤ 35) ∨ (36 ≤ i.op ∧ i.op ≤ 54) := by
      have : hdl i.op = true := by
        unfold ownI at ho
        revert ho
        cases hdl i.op <;> simp
      exact of_decide_eq_true this
    rcases (by omega : (0 ≤ i.op ∧ i.op ≤ 2) ∨ i.op = 3 ∨ (4 ≤ i.op ∧ i.op ≤ 10) ∨ (11 ≤ i.op ∧ i.op ≤ 14) ∨ (15 ≤ i.op ∧ i.op ≤ 35) ∨ (36 ≤ i.op ∧ i.op ≤ 54)) with c | c | c | c | c | c
    · exact ex_const a i w ha hi hl1 hl2 h1 h2 hra hv ho c
    · have hb : i.b = 3 ∨ i.b = 5 := by
        unfold ownI at ho
        rw [c] at ho
        have : hdl 3 = true := by decide
        rw [this] at ho
        simp at ho
        exact ho
      rcases hb with b | b
      · exact ex_c3_3 a i w ha hi hl1 hl2 h1 h2 hra hv ho c b
      · exact ex_c3_5 a i w ha hi hl1 hl2 h1 h2 hra hv ho c b
    · exact ex_acc a i w ha hi hl1 hl2 h1 h2 hra hv ho c
    · exact ex_shuf a i w ha hi hl1 hl2 h1 h2 hra hv ho c
    · exact ex_comp a i w ha hi hl1 hl2 h1 h2 hra hv ho c
    · cases hy : brY i ⟨a.ls, a.ss, 0⟩ with
      | true => exact ex_br_t a i w ha hi hl1 hl2 h1 h2 hra hv ho c hy
      | false => exact ex_br_f a i w ha hi hl1 hl2 h1 h2 hra hv ho c hy
end Go.Proofs.Ytgiglbjkijlchaa
