/- Layer 42: pop. -/
import Derived.Test.YtgiglbjkijlchaaRp
namespace Go.Proofs.Ytgiglbjkijlchaa
open Go.ChangeShapes Go.WideShapes Go.ChangeAt Go.RowKit Go.PlainAid
set_option linter.unusedSimpArgs false
set_option linter.unusedVariables false

theorem popAny_any {w0 W : World} {b : Nat} {h : Hd8} {r : Rs} {lA : Option Addr} {lc : Nat} {sv : Value} (H : RunSt w0 W b h r lA lc sv) (hl : r.ss.length ≤ 1000000) :
    Calls Try.prog 34 #[.pointer (some ⟨b, 0, none⟩)] W (VlRet w0 W b h (popAnyS r) lA lc sv (.agg #[.int .i64 (topV r.ss).1, .int .i64 (topV r.ss).2])) := by
  rcases Classical.em (r.ss = []) with h0 | h0
  · have := popAny_nil H h0
    rw [show popAnyS r = failS 20 r from if_pos h0, show topV r.ss = (0, 0) by rw [h0]; rfl]
    exact this
  · have he := List.dropLast_concat_getLast h0
    have := popAny_cons (p := r.ss.getLast h0) (L := r.ss.dropLast) H he.symm (by rw [List.length_dropLast]; omega)
    rw [show popAnyS r = { r with ss := r.ss.dropLast } from if_neg h0, show topV r.ss = r.ss.getLast h0 by unfold topV; rw [List.getLast?_eq_some_getLast h0]; rfl]
    exact this
theorem popAnyS_ls (r : Rs) : (popAnyS r).ls = r.ls := by unfold popAnyS; split; exact failS_ls _ _; rfl
theorem popS_ls (k : Int) (r : Rs) : (popS k r).ls = r.ls := by unfold popS; split; exact popAnyS_ls r; rw [failS_ls]; exact popAnyS_ls r
theorem popAnyS_ss (r : Rs) : (popAnyS r).ss.length ≤ r.ss.length := by
  unfold popAnyS
  split
  · rw [failS_ss]; exact Nat.le_refl _
  · show r.ss.dropLast.length ≤ _
    rw [List.length_dropLast]; omega
theorem popS_ss (k : Int) (r : Rs) : (popS k r).ss.length ≤ r.ss.length := by unfold popS; split; exact popAnyS_ss r; rw [failS_ss]; exact popAnyS_ss r
set_option maxRecDepth 100000 in
theorem pop_any {w0 W : World} {b : Nat} {h : Hd8} {r : Rs} {lA : Option Addr} {lc : Nat} {sv : Value} (k : Int) (H : RunSt w0 W b h r lA lc sv) (hl : r.ss.length ≤ 1000000) :
    Calls Try.prog 28 #[.pointer (some ⟨b, 0, none⟩), .int .i64 k] W (VlRet w0 W b h (popS k r) lA lc sv (.int .i64 (topV r.ss).2)) := by
  have HP := Lib.hid (popAny_any H hl)
  obtain ⟨p, hp⟩ : ∃ p, topV r.ss = p := ⟨_, rfl⟩
  rw [hp] at HP ⊢
  obtain ⟨x, y⟩ := p
  dsimp only at HP ⊢
  have HT := Lib.hid hp
  clear hp H
  by_cases hk : x = k
  · have HS := Lib.hid (show popS k r = popAnyS r from if_pos (by rw [HT.out]; exact hk))
    subst hk
    go_enter Try.func28, Try.ntmps28
    go_wp2_with (go_at_call 34; refine HP.out.mono ?_; rintro e w2 ⟨rfl, sv2, hr2, hk2, hl2⟩)
    go_ret
    rw [HS.out]
    exact ⟨rfl, sv2, hr2.up (below_al (Below.refl _ _) _), hk2.trans hl2 (Kept.of_below (below_al (Below.refl _ _) _)), hl2⟩
  · have HS := Lib.hid (show popS k r = failS 22 (popAnyS r) from if_neg (by rw [HT.out]; exact hk))
    have hne : (x == k) = false := by simpa using hk
    go_enter Try.func28, Try.ntmps28
    go_upto_region 3 with (go_at_call 34; refine HP.out.mono ?_; rintro e w2 ⟨rfl, sv2, hr2, hk2, hl2⟩)
    have hx := World.alloc_heap_new w2 (.cells #[.int .i64 x, .int .i64 y] 42)
    have hb3 := below_al (Below.refl w2.heap.size w2) (.cells #[.int .i64 x, .int .i64 y] 42)
    have hz3 : w2.heap.size < (w2.alloc (.cells #[.int .i64 x, .int .i64 y] 42)).heap.size := by simp
    generalize w2.alloc (.cells #[.int .i64 x, .int .i64 y] 42) = w3 at hx hb3 hz3 ⊢
    have hr3 := hr2.up hb3
    have hxb : w2.heap.size ≠ b := fun e => by have := lt_heapV hr2.box; omega
    have hxs : sv2.ownBlock ≠ some w2.heap.size := fun e => by have := (hr2.own.lt _ e).2; omega
    have HF := Lib.hid (fail_any hr3 22)
    have HK := Lib.hid (hk2.trans hl2 (Kept.of_below hb3))
    have HL := Lib.hid hl2
    have HX := Lib.hid hx
    have HS2 := Lib.hid hk2.size
    have HS3 := Lib.hid hb3.size
    clear hr2 hk2 hl2 hx hb3 hr3 hne
    go_wp2_with (go_at_call 32; refine HF.out.mono ?_; rintro e w4 ⟨rfl, sv4, hr4, hk4, hl4⟩; have hx4 := (hk4.block w2.heap.size hz3 hxb hxs).trans HX.out; have hc4 := (two_cellsV hx4).2)
    go_ret
    rw [HS.out]
    exact ⟨rfl, sv4, hr4, HK.out.trans HL.out hk4, HL.out.trans (Nat.le_trans HS2.out HS3.out) hl4⟩

end Go.Proofs.Ytgiglbjkijlchaa
