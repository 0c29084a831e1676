/- Layer 42: constant. -/
import Derived.Test.YtgiglbjkijlchaaRt
namespace Go.Proofs.Ytgiglbjkijlchaa
open Go.ChangeShapes Go.WideShapes Go.ChangeAt Go.RowKit Go.PlainAid
set_option linter.unusedSimpArgs false
set_option linter.unusedVariables false

theorem ten_cells {W : World} {B : Nat} {a b c d e f g h i j : Value} {t : TypeId} (hh : W.heap[B]? = some (.cells #[a, b, c, d, e, f, g, h, i, j] t)) :
    W.cell? ⟨B, 0, none⟩ = some a ∧ W.cell? ⟨B, 1, none⟩ = some b ∧ W.cell? ⟨B, 2, none⟩ = some c ∧ W.cell? ⟨B, 3, none⟩ = some d ∧ W.cell? ⟨B, 4, none⟩ = some e ∧ W.cell? ⟨B, 5, none⟩ = some f ∧ W.cell? ⟨B, 6, none⟩ = some g ∧ W.cell? ⟨B, 7, none⟩ = some h ∧ W.cell? ⟨B, 8, none⟩ = some i ∧ W.cell? ⟨B, 9, none⟩ = some j := by
  refine ⟨?_, ?_, ?_, ?_, ?_, ?_, ?_, ?_, ?_, ?_⟩ <;> simp [World.cell?, hh]
def constS (i : In) (r : Rs) : Rs := if i.op = 1 then pushS 3 0 r else if i.op = 3 ∧ i.b = 5 then pushS 2 i.a r else if i.op = 0 then r else pushS 1 i.a r
/-- a call of push, seen from a world below -/
theorem StRet.under {w0 W W1 w' : World} {b : Nat} {h : Hd8} {r' : Rs} {lA : Option Addr} {lc : Nat} {sv : Value} {e : Ending} (hb : Below W.heap.size W W1) (H : StRet w0 W1 b h r' lA lc sv e w') : StRet w0 W b h r' lA lc sv e w' := by
  obtain ⟨he, sv', h1, h2, h3⟩ := H
  refine ⟨he, sv', h1, (Kept.of_below hb).trans (Lies.refl _ _) h2, ?_⟩
  rcases h3 with h3 | ⟨g, h3, hg⟩
  · exact Or.inl h3
  · exact Or.inr ⟨g, h3, Nat.le_trans hb.size hg⟩
theorem VlRet.under {w0 W W1 w' : World} {b : Nat} {h : Hd8} {r' : Rs} {lA : Option Addr} {lc : Nat} {sv v : Value} {e : Ending} (hb : Below W.heap.size W W1) (H : VlRet w0 W1 b h r' lA lc sv v e w') : VlRet w0 W b h r' lA lc sv v e w' := by
  obtain ⟨he, sv', h1, h2, h3⟩ := H
  refine ⟨he, sv', h1, (Kept.of_below hb).trans (Lies.refl _ _) h2, ?_⟩
  rcases h3 with h3 | ⟨g, h3, hg⟩
  · exact Or.inl h3
  · exact Or.inr ⟨g, h3, Nat.le_trans hb.size hg⟩
set_option maxRecDepth 100000 in
set_option maxHeartbeats 1000000 in
theorem const_any {w0 W : World} {b : Nat} {h : Hd8} {r : Rs} {lA : Option Addr} {lc : Nat} {sv : Value} (i : In) (H : RunSt w0 W b h r lA lc sv) (hl : r.ss.length ≤ 1000000) :
    Calls Try.prog 22 #[.pointer (some ⟨b, 0, none⟩), (Value.agg #[Value.int IntKind.i64 (In.op i), Value.int IntKind.i64 (In.a i), Value.int IntKind.i64 (In.b i), Value.int IntKind.i64 (In.t i), Value.slice (In.kA i) (In.kn i) (In.kc i), Value.slice (In.tA i) (In.tn i) (In.tc i), Value.string (In.r1 i), Value.string (In.r2 i), Value.string (In.r3 i), Value.string (In.s i)])] W (StRet w0 W b h (constS i r) lA lc sv) := by
  have hb1 := below_al (Below.refl W.heap.size W) (.cells #[.int .i64 i.op, .int .i64 i.a, .int .i64 i.b, .int .i64 i.t, .slice i.kA i.kn i.kc, .slice i.tA i.tn i.tc, .string i.r1, .string i.r2, .string i.r3, .string i.s] 29)
  have HP := Lib.hid (fun k n => push_any (H.up hb1) k n hl)
  have HB := Lib.hid hb1
  have HH := Lib.hid (H.up hb1)
  have R := World.alloc_heap_new W (.cells #[.int .i64 i.op, .int .i64 i.a, .int .i64 i.b, .int .i64 i.t, .slice i.kA i.kn i.kc, .slice i.tA i.tn i.tc, .string i.r1, .string i.r2, .string i.r3, .string i.s] 29)
  clear H
  go_enter Try.func22, Try.ntmps22
  go_upto_region 1 with fail
  generalize W.alloc (.cells #[.int .i64 i.op, .int .i64 i.a, .int .i64 i.b, .int .i64 i.t, .slice i.kA i.kn i.kc, .slice i.tA i.tn i.tc, .string i.r1, .string i.r2, .string i.r3, .string i.s] 29) = W1 at hb1 HP HB HH R ⊢
  obtain ⟨r0, r1, r2, r3, r4, r5, r6, r7, r8, r9⟩ := ten_cells R
  by_cases h1 : i.op = 1
  · have HS := Lib.hid (show constS i r = pushS 3 0 r from if_pos h1)
    rw [h1] at r0
    clear h1
    go_wp2_with (go_at_call 33; refine (HP.out _ _).mono ?_; rintro e w4 hr4; have HR := Lib.hid (StRet.under HB.out hr4); obtain ⟨rfl, _⟩ := hr4)
    go_end0
    rw [HS.out]
    exact HR.out
  · by_cases h2 : i.op = 3 ∧ i.b = 5
    · have HS := Lib.hid (show constS i r = pushS 2 i.a r from (if_neg h1).trans (if_pos h2))
      rw [h2.1] at r0
      rw [h2.2] at r2
      clear h1 h2
      go_wp2_with (go_at_call 33; refine (HP.out _ _).mono ?_; rintro e w4 hr4; have HR := Lib.hid (StRet.under HB.out hr4); obtain ⟨rfl, _⟩ := hr4)
      go_end0
      rw [HS.out]
      exact HR.out
    · by_cases h3 : i.op = 0
      · have HS := Lib.hid (show constS i r = r from (if_neg h1).trans ((if_neg h2).trans (if_pos h3)))
        rw [h3] at r0
        clear h1 h2 h3
        go_wp2_with fail
        go_end0
        rw [HS.out]
        exact ⟨rfl, sv, HH.out, Kept.of_below HB.out, Lies.refl _ _⟩
      · have HS := Lib.hid (show constS i r = pushS 1 i.a r from (if_neg h1).trans ((if_neg h2).trans (if_neg h3)))
        have e1 : (i.op == 1) = false := by simpa using h1
        have e3 : (i.op == 0) = false := by simpa using h3
        by_cases h4 : i.op = 3
        · have e4 : (i.b == 5) = false := by simpa using fun h => h2 ⟨h4, h⟩
          rw [h4] at r0
          clear h1 h2 h3 h4 e1 e3
          go_wp2_with (go_at_call 33; refine (HP.out _ _).mono ?_; rintro e w4 hr4; have HR := Lib.hid (StRet.under HB.out hr4); obtain ⟨rfl, _⟩ := hr4)
          go_end0
          rw [HS.out]
          exact HR.out
        · have e4 : (i.op == 3) = false := by simpa using h4
          clear h2
          go_wp2_with (go_at_call 33; refine (HP.out _ _).mono ?_; rintro e w4 hr4; have HR := Lib.hid (StRet.under HB.out hr4); obtain ⟨rfl, _⟩ := hr4)
          go_end0
          rw [HS.out]
          exact HR.out

end Go.Proofs.Ytgiglbjkijlchaa
