/- Layer 42: the small methods of an activation in the course of an instruction. -/
import Derived.Test.YtgiglbjkijlchaaRs
namespace Go.Proofs.Ytgiglbjkijlchaa
open Go.ChangeShapes Go.WideShapes Go.ChangeAt Go.RowKit Go.PlainAid
set_option linter.unusedSimpArgs false
set_option linter.unusedVariables false

theorem own_formV {w : World} {base e size n : Nat} {v : Value} {xs : List Value} (h : w.ownsRow base e size v n xs) : ∃ A c, v = .slice A n c ∧ n ≤ c ∧ c ≤ maxLen ∧ (A = none → c = 0) := by
  rcases h.2 with ⟨hv, hn⟩ | ⟨g, cap, cur, hv, hg, hh, hnc, hcm, _⟩
  · subst hn; exact ⟨none, 0, hv, Nat.le_refl _, Nat.zero_le _, fun _ => rfl⟩
  · exact ⟨some ⟨g, 0, none⟩, cap, hv, hnc, hcm, fun h => by cases h⟩
set_option maxRecDepth 100000 in
theorem fail_any {w0 W : World} {b : Nat} {h : Hd8} {r : Rs} {lA : Option Addr} {lc : Nat} {sv : Value} (H : RunSt w0 W b h r lA lc sv) (x : Int) :
    Calls Try.prog 32 #[.pointer (some ⟨b, 0, none⟩), .int .i64 x] W (StRet w0 W b h (failS x r) lA lc sv) := by
  have HH := Lib.hid H
  obtain ⟨c0, c1, c2, c3, c4, c5, c6, c7, c8⟩ := nine_cells H.box
  have hz := lt_heapV H.box
  have hf := frozV H.box 8
  have hset := heap_setCell_same W b 8 _ _ (.int .i64 x) H.box
  have HS := Lib.hid hset
  clear H hset
  by_cases h0 : r.e = 0
  · have HE := Lib.hid (show failS x r = { r with e := x } from if_pos h0)
    rw [h0] at c8
    go_enter Try.func32, Try.ntmps32
    go_wp2
    go_end0
    rw [HE.out]
    exact ⟨rfl, sv, HH.out.rebox grown_setV HS.out, Kept.of_grown grown_setV, Lies.refl _ _⟩
  · have HE := Lib.hid (show failS x r = r from if_neg h0)
    have hne : (r.e == 0) = false := by simpa using h0
    go_enter Try.func32, Try.ntmps32
    go_wp2
    go_end0
    rw [HE.out]
    exact ⟨rfl, sv, HH.out, Kept.of_below (Below.refl _ _), Lies.refl _ _⟩
theorem grown_alV {w w4 : World} {o : Obj} {r : Option Nat} (h : (w.alloc o).grownBy w4 r) : w.grownBy w4 r :=
  ⟨h.os, h.tape, h.output, Nat.le_trans (by simp) h.size, fun k hk hne => (h.block k (by simp; omega) hne).trans ((below_al (Below.refl w.heap.size w) o).block k hk)⟩
theorem lies_alV {w : World} {o : Obj} {v v' : Value} (h : Lies (w.alloc o) v v') : Lies w v v' := by
  rcases h with h | ⟨g, h, hg⟩
  · exact Or.inl h
  · exact Or.inr ⟨g, h, Nat.le_trans (by simp) hg⟩
set_option maxRecDepth 100000 in
theorem push_any {w0 W : World} {b : Nat} {h : Hd8} {r : Rs} {lA : Option Addr} {lc : Nat} {sv : Value} (H : RunSt w0 W b h r lA lc sv) (k n : Int) (hl : r.ss.length ≤ 1000000) :
    Calls Try.prog 33 #[.pointer (some ⟨b, 0, none⟩), .int .i64 k, .int .i64 n] W (StRet w0 W b h (pushS k n r) lA lc sv) := by
  have HH := Lib.hid H
  obtain ⟨c0, c1, c2, c3, c4, c5, c6, c7, c8⟩ := nine_cells H.box
  have hz := lt_heapV H.box
  have hbs : w0.heap.size ≤ W.heap.size := H.bel.size
  obtain ⟨q, hq⟩ : ∃ q, r.ss.length = q := ⟨_, rfl⟩
  have hown := H.own
  rw [hq] at hl hown
  have HO := Lib.hid hown
  have HQ := Lib.hid hq
  clear H hq hown
  go_enter Try.func33, Try.ntmps33
  go_wp2_with (at_builtin; refine wpList_app (by rfl) _ _ (by rfl) w0.heap.size q 1 _ r.ss [(k, n)] _ _ (by rfl) (HO.out.alloc _) (by rfl) rfl Nat.zero_lt_one (VRow.news (row_new (L := [(k, n)]) (World.alloc_heap_new _ _))) (by omega) (by simp; omega) ?_; intro A4 c4' w4 ho4 hg4 hl4; have hbx := (hg4.block b (by simp; omega) (fun e => HH.out.nb e.symm)).trans ((below_al (Below.refl W.heap.size W) _).block b hz); rw [HH.out.box] at hbx; have hbc := (nine_cells hbx).2.2.2.2.1; have hbf := frozV hbx 4; have hbz := lt_heapV hbx)
  have hset := heap_setCell_same w4 b 4 _ _ (.slice A4 (q + 1) c4') hbx
  go_end0
  obtain ⟨h1, h2⟩ := HH.out.restack (ss := r.ss ++ [(k, n)]) (W' := w4.setCell ⟨b, 4, none⟩ (.slice A4 (q + 1) c4')) (by rw [List.length_append, HQ.out]; exact ho4) (grown_alV hg4) (lies_alV hl4) grown_setV hset
  exact ⟨rfl, _, h1, h2, lies_alV hl4⟩

end Go.Proofs.Ytgiglbjkijlchaa
