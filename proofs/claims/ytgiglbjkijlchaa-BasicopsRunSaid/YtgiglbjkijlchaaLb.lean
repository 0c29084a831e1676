/- Layer 42: awake. -/
import Derived.Test.YtgiglbjkijlchaaLa
namespace Go.Proofs.Ytgiglbjkijlchaa
open Go.ChangeShapes Go.WideShapes Go.ChangeAt Go.RowKit Go.PlainAid
set_option linter.unusedSimpArgs false
set_option linter.unusedVariables false

theorem mk_one (w : World) : (Instr.makeSlice 22 (.int .i64 1) (.int .i64 1)).run Try.prog w = .ok (.slice (some ⟨w.heap.size, 0, none⟩) 1 1) (w.alloc (.cells #[.int .i64 0, .int .i64 0] 42)) := by kernel_rfl
theorem va_eql (a b : Int) (w : World) : (binOp .eql 42 (.agg #[.int .i64 a, .int .i64 b]) (.agg #[.int .i64 a, .int .i64 b])).run Try.prog w = .ok (.bool true) w := by
  simp [go_sem]
set_option maxRecDepth 100000 in
set_option maxHeartbeats 2000000 in
theorem awake42_any (w : World) : Calls Try.prog 9 #[] w fun e w' => e = .returned (.bool true) ∧ Below w.heap.size w w' := by
  go_enter Try.func9, Try.ntmps9
  go_upto_region 2 with fail
  have R := World.alloc_heap_new w (.cells #[.int .i64 2, .int .i64 5, .int .i64 0, .int .i64 0, .slice none 0 0, .slice none 0 0, .string ⟨#[]⟩, .string ⟨#[]⟩, .string ⟨#[]⟩, .string ⟨#[]⟩, .int .i64 12, .int .i64 0, .int .i64 0, .int .i64 0, .slice none 0 0, .slice none 0 0, .string ⟨#[]⟩, .string ⟨#[]⟩, .string ⟨#[]⟩, .string ⟨#[]⟩, .int .i64 15, .int .i64 0, .int .i64 0, .int .i64 0, .slice none 0 0, .slice none 0 0, .string ⟨#[]⟩, .string ⟨#[]⟩, .string ⟨#[]⟩, .string ⟨#[]⟩] 29)
  have hb1 := below_al (Below.refl w.heap.size w) (.cells #[.int .i64 2, .int .i64 5, .int .i64 0, .int .i64 0, .slice none 0 0, .slice none 0 0, .string ⟨#[]⟩, .string ⟨#[]⟩, .string ⟨#[]⟩, .string ⟨#[]⟩, .int .i64 12, .int .i64 0, .int .i64 0, .int .i64 0, .slice none 0 0, .slice none 0 0, .string ⟨#[]⟩, .string ⟨#[]⟩, .string ⟨#[]⟩, .string ⟨#[]⟩, .int .i64 15, .int .i64 0, .int .i64 0, .int .i64 0, .slice none 0 0, .slice none 0 0, .string ⟨#[]⟩, .string ⟨#[]⟩, .string ⟨#[]⟩, .string ⟨#[]⟩] 29)
  generalize w.alloc (.cells #[.int .i64 2, .int .i64 5, .int .i64 0, .int .i64 0, .slice none 0 0, .slice none 0 0, .string ⟨#[]⟩, .string ⟨#[]⟩, .string ⟨#[]⟩, .string ⟨#[]⟩, .int .i64 12, .int .i64 0, .int .i64 0, .int .i64 0, .slice none 0 0, .slice none 0 0, .string ⟨#[]⟩, .string ⟨#[]⟩, .string ⟨#[]⟩, .string ⟨#[]⟩, .int .i64 15, .int .i64 0, .int .i64 0, .int .i64 0, .slice none 0 0, .slice none 0 0, .string ⟨#[]⟩, .string ⟨#[]⟩, .string ⟨#[]⟩, .string ⟨#[]⟩] 29) = W1 at R hb1 ⊢
  have HR := Lib.hid R
  have HB1 := Lib.hid hb1
  clear R hb1
  go_upto_region 3 with (go_at_call 15; refine (run_ex HR.out).mono ?_; rintro e w2 ⟨⟨h2, ls2, ss2, lA2, lc2, sA2, sc2⟩, rfl, hok2, e1, e2, e3, hb2, _, _⟩; dsimp only at e1 e2 e3; subst e1 e2 e3; dsimp only [Ac.val]; have HOK := Lib.hid hok2.s; have HB2 := Lib.hid (below_on HB1.out hb2); clear hok2 hb2)
  have x3 := World.alloc_heap_new w2 (.cells #[.int .i64 0, .int .i64 0, .int .i64 3, .slice lA2 0 lc2, .slice sA2 1 sc2, .int .i64 0, .bool false, .bool false] 24)
  have hb3 := below_al (Below.refl w2.heap.size w2) (.cells #[.int .i64 0, .int .i64 0, .int .i64 3, .slice lA2 0 lc2, .slice sA2 1 sc2, .int .i64 0, .bool false, .bool false] 24)
  generalize w2.alloc (.cells #[.int .i64 0, .int .i64 0, .int .i64 3, .slice lA2 0 lc2, .slice sA2 1 sc2, .int .i64 0, .bool false, .bool false] 24) = w3 at x3 hb3 ⊢
  have HX3 := Lib.hid x3
  have HV3 := Lib.hid (HOK.out.up hb3)
  have HB3 := Lib.hid (below_on HB2.out hb3)
  clear x3 hb3
  go_upto_region 4 with (go_at_call 10; refine (div_ex (World.alloc_heap_new _ _) (by omega)).mono ?_; rintro e w4 ⟨v4, rfl, hb4, ⟨h4, ls4, ss4, lA4, lc4, sA4, sc4⟩, rfl⟩; dsimp only [Ac.val]; have HB4 := Lib.hid (below_on (below_al (Below.refl _ _) _) hb4); clear hb4)
  have hb5 := below_al (Below.refl w4.heap.size w4) (.cells #[.int .i64 h4.cl, .int .i64 h4.me, .int .i64 h4.pc, .slice lA4 ls4.length lc4, .slice sA4 ss4.length sc4, .int .i64 h4.lk, .bool h4.ii, .bool h4.dr] 24)
  generalize w4.alloc (.cells #[.int .i64 h4.cl, .int .i64 h4.me, .int .i64 h4.pc, .slice lA4 ls4.length lc4, .slice sA4 ss4.length sc4, .int .i64 h4.lk, .bool h4.ii, .bool h4.dr] 24) = w5 at hb5 ⊢
  have HB5 := Lib.hid (below_on HB4.out hb5)
  clear hb5
  have hmk := mk_one w5
  have m0 := laid_old (o' := (.cells #[.int .i64 2, .int .i64 0] 42)) (World.alloc_heap_new w5 (.cells #[.int .i64 0, .int .i64 0] 42))
  have m1 := World.alloc_heap_new (w5.alloc (.cells #[.int .i64 0, .int .i64 0] 42)) (.cells #[.int .i64 2, .int .i64 0] 42)
  have hsz5 : (w5.alloc (.cells #[.int .i64 0, .int .i64 0] 42)).heap.size = w5.heap.size + 1 := by simp
  rw [hsz5] at m1
  have M := Lib.hid (And.intro m0 m1)
  clear m0 m1 hsz5
  go_upto_region 5 with (go_at_call 10; refine (sto_ex M.out.2 (by omega) M.out.1 (by omega)).mono ?_; rintro e w6 ⟨v6, rfl, hb6, ⟨h6, ls6, ss6, lA6, lc6, sA6, sc6⟩, rfl⟩; dsimp only [Ac.val]; have HB6 := Lib.hid (below_on (below_al (below_al (Below.refl _ _) _) _) hb6); clear hb6)
  clear hmk
  have hb7 := below_al (Below.refl w6.heap.size w6) (.cells #[.int .i64 h6.cl, .int .i64 h6.me, .int .i64 h6.pc, .slice lA6 ls6.length lc6, .slice sA6 ss6.length sc6, .int .i64 h6.lk, .bool h6.ii, .bool h6.dr] 24)
  generalize w6.alloc (.cells #[.int .i64 h6.cl, .int .i64 h6.me, .int .i64 h6.pc, .slice lA6 ls6.length lc6, .slice sA6 ss6.length sc6, .int .i64 h6.lk, .bool h6.ii, .bool h6.dr] 24) = w7 at hb7 ⊢
  have HT := Lib.hid (below_on (below_on HB5.out HB6.out) hb7)
  clear hb7
  have x7 := (HT.out.block _ (lt_heapV HX3.out)).trans HX3.out
  obtain ⟨b0, b1, b2, b3, b4, b5, b6, b7⟩ := eight_cells x7
  have y7 := lt_heapV x7
  rcases HV3.out.up HT.out with h0 | ⟨g, o, rfl, hg, hc⟩
  · cases h0
  obtain ⟨c0, c1⟩ := hc 0 (1, 10) rfl
  have he := fun w => va_eql 1 10 w
  clear hc x7
  simp only [Nat.zero_mul, Nat.add_zero] at c0 c1
  go_wp2_with (go_at_call 13; refine (handles_any _ _).mono ?_; rintro e w' ⟨rfl, rfl⟩; (first | rw [show hdl 52 = true by decide] | rw [show hdl 55 = false by decide]))
  go_ret
  exact ⟨rfl, below_on HB3.out HT.out⟩
end Go.Proofs.Ytgiglbjkijlchaa
