/- Layer 42: few (written by gen/bolaw.py). -/
import Derived.Test.YtgiglbjkijlchaaLb
namespace Go.Proofs.Ytgiglbjkijlchaa
open Go.ChangeShapes Go.WideShapes Go.ChangeAt Go.RowKit Go.PlainAid
set_option linter.unusedSimpArgs false
set_option linter.unusedVariables false

def fewP (a : Ac) (i : In) : Prop := a.ls.length ≤ 40 ∧ a.ss.length ≤ 40 ∧ i.kn ≤ 80 ∧ i.tn ≤ 80
instance (a : Ac) (i : In) : Decidable (fewP a i) := by unfold fewP; infer_instance
set_option maxRecDepth 100000 in
theorem few_any (a : Ac) (i : In) (w : World) : Calls Try.prog 8 #[(Value.agg #[Value.int IntKind.i64 (Hd8.cl a.h), Value.int IntKind.i64 (Hd8.me a.h), Value.int IntKind.i64 (Hd8.pc a.h), ((.slice a.lA a.ls.length a.lc)), ((.slice a.sA a.ss.length a.sc)), Value.int IntKind.i64 (Hd8.lk a.h), Value.bool (Hd8.ii a.h), Value.bool (Hd8.dr a.h)]), (Value.agg #[Value.int IntKind.i64 (In.op i), Value.int IntKind.i64 (In.a i), Value.int IntKind.i64 (In.b i), Value.int IntKind.i64 (In.t i), Value.slice (In.kA i) (In.kn i) (In.kc i), Value.slice (In.tA i) (In.tn i) (In.tc i), Value.string (In.r1 i), Value.string (In.r2 i), Value.string (In.r3 i), Value.string (In.s i)])] w fun e w' => e = .returned (.bool (decide (fewP a i))) ∧ Below w.heap.size w w' := by
  obtain ⟨n1, hn1⟩ : ∃ n, a.ls.length = n := ⟨_, rfl⟩
  obtain ⟨n2, hn2⟩ : ∃ n, a.ss.length = n := ⟨_, rfl⟩
  obtain ⟨fv, hfv⟩ : ∃ fv, decide (fewP a i) = fv := ⟨_, rfl⟩
  rw [hfv]
  have hor : (n1 ≤ 40 ∧ n2 ≤ 40 ∧ i.kn ≤ 80 ∧ i.tn ≤ 80 ∧ fv = true) ∨ (n1 ≤ 40 ∧ n2 ≤ 40 ∧ i.kn ≤ 80 ∧ 80 < i.tn ∧ fv = false) ∨ (n1 ≤ 40 ∧ n2 ≤ 40 ∧ 80 < i.kn ∧ fv = false) ∨ (n1 ≤ 40 ∧ 40 < n2 ∧ fv = false) ∨ (40 < n1 ∧ fv = false) := by
    by_cases hf : fewP a i
    · have h : fv = true := by rw [← hfv]; exact decide_eq_true hf
      unfold fewP at hf
      rw [hn1, hn2] at hf
      exact Or.inl ⟨hf.1, hf.2.1, hf.2.2.1, hf.2.2.2, h⟩
    · have h : fv = false := by rw [← hfv]; exact decide_eq_false hf
      unfold fewP at hf
      rw [hn1, hn2] at hf
      simp only [h, and_true, and_false, false_or]
      simp
      omega
  rw [hn1, hn2]
  clear hn1 hn2 hfv
  go_enter Try.func8, Try.ntmps8
  go_upto_region 1 with fail
  have R0 := laid_old (o' := (.cells #[.int .i64 i.op, .int .i64 i.a, .int .i64 i.b, .int .i64 i.t, .slice i.kA i.kn i.kc, .slice i.tA i.tn i.tc, .string i.r1, .string i.r2, .string i.r3, .string i.s] 29)) (World.alloc_heap_new w (.cells #[.int .i64 a.h.cl, .int .i64 a.h.me, .int .i64 a.h.pc, .slice a.lA n1 a.lc, .slice a.sA n2 a.sc, .int .i64 a.h.lk, .bool a.h.ii, .bool a.h.dr] 24))
  have R1 := World.alloc_heap_new (w.alloc (.cells #[.int .i64 a.h.cl, .int .i64 a.h.me, .int .i64 a.h.pc, .slice a.lA n1 a.lc, .slice a.sA n2 a.sc, .int .i64 a.h.lk, .bool a.h.ii, .bool a.h.dr] 24)) (.cells #[.int .i64 i.op, .int .i64 i.a, .int .i64 i.b, .int .i64 i.t, .slice i.kA i.kn i.kc, .slice i.tA i.tn i.tc, .string i.r1, .string i.r2, .string i.r3, .string i.s] 29)
  have hsz : (w.alloc (.cells #[.int .i64 a.h.cl, .int .i64 a.h.me, .int .i64 a.h.pc, .slice a.lA n1 a.lc, .slice a.sA n2 a.sc, .int .i64 a.h.lk, .bool a.h.ii, .bool a.h.dr] 24)).heap.size = w.heap.size + 1 := by simp
  rw [hsz] at R1
  have hlt2 : w.heap.size + 2 ≤ ((w.alloc (.cells #[.int .i64 a.h.cl, .int .i64 a.h.me, .int .i64 a.h.pc, .slice a.lA n1 a.lc, .slice a.sA n2 a.sc, .int .i64 a.h.lk, .bool a.h.ii, .bool a.h.dr] 24)).alloc (.cells #[.int .i64 i.op, .int .i64 i.a, .int .i64 i.b, .int .i64 i.t, .slice i.kA i.kn i.kc, .slice i.tA i.tn i.tc, .string i.r1, .string i.r2, .string i.r3, .string i.s] 29)).heap.size := by simp
  have hB := below_al (below_al (Below.refl w.heap.size w) (.cells #[.int .i64 a.h.cl, .int .i64 a.h.me, .int .i64 a.h.pc, .slice a.lA n1 a.lc, .slice a.sA n2 a.sc, .int .i64 a.h.lk, .bool a.h.ii, .bool a.h.dr] 24)) (.cells #[.int .i64 i.op, .int .i64 i.a, .int .i64 i.b, .int .i64 i.t, .slice i.kA i.kn i.kc, .slice i.tA i.tn i.tc, .string i.r1, .string i.r2, .string i.r3, .string i.s] 29)
  generalize (w.alloc (.cells #[.int .i64 a.h.cl, .int .i64 a.h.me, .int .i64 a.h.pc, .slice a.lA n1 a.lc, .slice a.sA n2 a.sc, .int .i64 a.h.lk, .bool a.h.ii, .bool a.h.dr] 24)).alloc (.cells #[.int .i64 i.op, .int .i64 i.a, .int .i64 i.b, .int .i64 i.t, .slice i.kA i.kn i.kc, .slice i.tA i.tn i.tc, .string i.r1, .string i.r2, .string i.r3, .string i.s] 29) = W1 at R0 R1 hB hlt2 ⊢
  have HR0 := Lib.hid R0
  have HR1 := Lib.hid R1
  have HB := Lib.hid hB
  obtain ⟨a0, a1, a2, a3, a4, a5, a6, a7⟩ := eight_cells R0
  obtain ⟨r0, r1, r2, r3, r4, r5, r6, r7, r8, r9⟩ := ten_cells R1
  have y0 := lt_heapV R0
  have y1 := lt_heapV R1
  clear R0 R1 hsz hB
  rcases hor with ⟨h1, h2, h3, h4, rfl⟩ | ⟨h1, h2, h3, h4, rfl⟩ | ⟨h1, h2, h3, rfl⟩ | ⟨h1, h2, rfl⟩ | ⟨h1, rfl⟩
  all_goals
    go_wp2
    go_ret
    first
      | exact ⟨rfl, HB.out⟩
      | exact ⟨show Ending.returned (Value.bool (decide ((i.tn : Int) ≤ 80))) = _ by rw [decide_eq_true (by omega)], HB.out⟩
      | exact ⟨show Ending.returned (Value.bool (decide ((i.tn : Int) ≤ 80))) = _ by rw [decide_eq_false (by omega)], HB.out⟩
theorem few_yes {a : Ac} {i : In} (w : World) (h : fewP a i) : Calls Try.prog 8 #[(Value.agg #[Value.int IntKind.i64 (Hd8.cl a.h), Value.int IntKind.i64 (Hd8.me a.h), Value.int IntKind.i64 (Hd8.pc a.h), ((.slice a.lA a.ls.length a.lc)), ((.slice a.sA a.ss.length a.sc)), Value.int IntKind.i64 (Hd8.lk a.h), Value.bool (Hd8.ii a.h), Value.bool (Hd8.dr a.h)]), (Value.agg #[Value.int IntKind.i64 (In.op i), Value.int IntKind.i64 (In.a i), Value.int IntKind.i64 (In.b i), Value.int IntKind.i64 (In.t i), Value.slice (In.kA i) (In.kn i) (In.kc i), Value.slice (In.tA i) (In.tn i) (In.tc i), Value.string (In.r1 i), Value.string (In.r2 i), Value.string (In.r3 i), Value.string (In.s i)])] w fun e w' => e = .returned (.bool true) ∧ Below w.heap.size w w' := by
  have := few_any a i w
  rw [decide_eq_true h] at this
  exact this
theorem few_no {a : Ac} {i : In} (w : World) (h : ¬ fewP a i) : Calls Try.prog 8 #[(Value.agg #[Value.int IntKind.i64 (Hd8.cl a.h), Value.int IntKind.i64 (Hd8.me a.h), Value.int IntKind.i64 (Hd8.pc a.h), ((.slice a.lA a.ls.length a.lc)), ((.slice a.sA a.ss.length a.sc)), Value.int IntKind.i64 (Hd8.lk a.h), Value.bool (Hd8.ii a.h), Value.bool (Hd8.dr a.h)]), (Value.agg #[Value.int IntKind.i64 (In.op i), Value.int IntKind.i64 (In.a i), Value.int IntKind.i64 (In.b i), Value.int IntKind.i64 (In.t i), Value.slice (In.kA i) (In.kn i) (In.kc i), Value.slice (In.tA i) (In.tn i) (In.tc i), Value.string (In.r1 i), Value.string (In.r2 i), Value.string (In.r3 i), Value.string (In.s i)])] w fun e w' => e = .returned (.bool false) ∧ Below w.heap.size w w' := by
  have := few_any a i w
  rw [decide_eq_false h] at this
  exact this
end Go.Proofs.Ytgiglbjkijlchaa
