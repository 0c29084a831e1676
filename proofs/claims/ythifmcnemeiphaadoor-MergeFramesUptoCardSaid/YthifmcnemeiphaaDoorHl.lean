/- Layer 16: the reference's next. -/
import Derived.Test.YthifmcnemeiphaaDoorHk
namespace Go.Proofs.YthifmcnemeiphaaDoor
open Go.ChangeShapes Go.WideShapes Go.ChangeAt Go.RowKit Go.PlainAid Go.Maps
set_option linter.unusedSimpArgs false
set_option linter.unusedVariables false

def nx (L : List CI) (s : ByteArray) : List ByteArray := if fB L s = true then nxt (lkC L s) else []
def StrOwn (w : World) (L : List ByteArray) (e : Ending) (w' : World) : Prop := ∃ v, e = .returned v ∧ w'.ownsRow w.heap.size 9 1 v L.length (strs L) ∧ Below w.heap.size w w'
theorem own_bel {w w' : World} {base e size n : Nat} {v : Value} {xs : List Value} (h : w.ownsRow base e size v n xs) (hb : Below w.heap.size w w') : w'.ownsRow base e size v n xs :=
  h.kept (row := none) ⟨hb.os, hb.tape, hb.output, hb.size, fun k hk _ => hb.block k hk⟩ (by
    rcases h.2 with ⟨rfl, _⟩ | ⟨g, cap, cur, rfl, _⟩
    · exact Or.inl rfl
    · exact Or.inr (fun e => by cases e))
theorem own_strs_nil (w : World) {base : Nat} (hb : base ≤ w.heap.size) : (w.alloc (.cells #[] 9)).ownsRow base 9 1 (.slice (some ⟨w.heap.size, 0, none⟩) 0 0) 0 (strs []) :=
  World.ownsRow_lit w #[] 0 hb (Nat.zero_le _) rfl
theorem srow_new (W : World) (s : ByteArray) : SRow (W.alloc (.cells #[.string s] 9)) (W.heap.size + 1) (some ⟨W.heap.size, 0, none⟩) [s] := by
  refine Or.inr ⟨_, _, rfl, Nat.lt_succ_self _, fun j y hj => ?_⟩
  cases j with
  | zero => injection hj with hj; rw [← hj]; exact cells_one (World.alloc_heap_new W _)
  | succ j => simp at hj
theorem own_not {W : World} {B g n c base size : Nat} {e t : TypeId} {xs : List Value} {cs : Array Value} (hb : W.heap[B]? = some (.cells cs t)) (ho : W.ownsRow base e size (.slice (some ⟨g, 0, none⟩) n c) n xs) (he : B = g) (hne : t ≠ e := by decide) : False := by
  subst he
  rcases ho.2 with ⟨hv, _⟩ | ⟨g', cap, cur, hv, _, h1, _⟩
  · cases hv
  · obtain rfl : B = g' := by injection hv with h _ _; injection h with h; injection h
    rw [hb] at h1
    injection h1 with h1
    injection h1 with _ h1
    exact hne h1
set_option maxRecDepth 100000 in
set_option maxHeartbeats 2000000 in
theorem next_any (A : Option Addr) (n c : Nat) (L : List CI) (s : ByteArray) (w : World) (hn : L.length = n) (hc : n ≤ 9223372036854775807) (hf : ∀ x ∈ L, x.fs.length ≤ 2000000) (h : CIs w w.heap.size A L) :
    Calls Tryd.prog 94 #[.slice A n c, .string s] w (StrOwn w (nx L s)) := by
  have HL := Lib.hid h
  have HN := Lib.hid hn
  have hxo := lkC_ok h s
  have hfn : (lkC L s).fs.length ≤ 2000000 := by
    by_cases hl : fnd L s < L.length
    · rw [lkC_yes hl]; exact hf _ (List.getElem_mem hl)
    · rw [lkC_no hl]; exact Nat.zero_le _
  clear h hn
  unfold nx
  obtain ⟨x, hx⟩ : ∃ x, lkC L s = x := ⟨_, rfl⟩
  have HK := Lib.hid (show ∀ W, Below w.heap.size w W → Calls Tryd.prog 21 #[.slice A n c, .string s] W fun e w' => e = .returned (.tuple #[(Value.agg #[Value.string (CI.nm x), Value.string (CI.su x), Value.slice (CI.iA x) (CI.n x) (CI.c x), Value.bool (CI.isI x)]), .bool (fB L s)]) ∧ Below W.heap.size W w' from fun W hb => by rw [← hx]; exact rlookup_any A n c L s W HN.out hc (HL.out.up hb))
  rw [hx] at hxo hfn ⊢
  clear hx
  have HOK := Lib.hid hxo
  clear hxo
  cases hfb : fB L s with
  | false =>
    rw [if_neg (by simp)]
    rw [hfb] at HK
    clear hfb
    go_enter Tryd.func94, Tryd.ntmps94
    go_wp2_with (first | (go_at_call 21; (with_reducible refine (HK.out _ (Below.refl _ _)).mono ?_); rintro e w1 ⟨rfl, hb1⟩))
    go_ret
    exact ⟨_, rfl, World.ownsRow_nil _ _ _ _, below_al hb1 _⟩
  | true =>
    rw [if_pos rfl]
    rw [hfb] at HK
    clear hfb
    go_enter Tryd.func94, Tryd.ntmps94
    go_upto_region 5 with (first | (go_at_call 21; (with_reducible refine (HK.out _ (Below.refl _ _)).mono ?_); rintro e w1 ⟨rfl, hb1⟩))
    have hbx := laid_old (o' := .cells #[] 9) (World.alloc_heap_new w1 (.cells #[.string x.nm, .string x.su, .slice x.iA x.n x.c, .bool x.isI] 30))
    have own0 := own_strs_nil (base := w.heap.size) (w1.alloc (.cells #[.string x.nm, .string x.su, .slice x.iA x.n x.c, .bool x.isI] 30)) (by rw [World.size_alloc]; have := hb1.size; omega)
    have hb2 := below_al (below_al hb1 (.cells #[.string x.nm, .string x.su, .slice x.iA x.n x.c, .bool x.isI] 30)) (.cells #[] 9)
    rw [World.size_alloc] at own0
    generalize (w1.alloc (.cells #[.string x.nm, .string x.su, .slice x.iA x.n x.c, .bool x.isI] 30)).alloc (.cells #[] 9) = W2 at hbx own0 hb2 ⊢
    generalize w1.heap.size + 1 = B7 at own0 ⊢
    generalize w1.heap.size = B5 at hbx ⊢
    obtain ⟨⟨x0, x1, x2, x3⟩, _⟩ := four_cells hbx
    have hlb := lt_heap hbx
    have OWN0 := Lib.hid own0
    have HB2 := Lib.hid hb2
    have HBX := Lib.hid hbx
    have HFN := Lib.hid (show x.fs.length = x.n from HOK.out.2.2.1)
    have hnn : x.n ≤ 2000000 := by rw [← HFN.out]; exact hfn
    clear own0 hb2 hbx hb1 hfn
    by_cases hse : x.su.toList = []
    · have hse2 : x.su.toList.isEmpty = true := by rw [hse]; rfl
      have HNX := Lib.hid (show [] ++ x.fs = nxt x by unfold nxt; rw [if_pos hse])
      go_wp2_with (at_builtin; refine wpList_append_strs rfl _ _ rfl w.heap.size 0 x.n x.c w.heap.size [] x.fs (.slice (some ⟨B7, 0, none⟩) 0 0) x.iA rfl OWN0.out rfl (HOK.out.2.2.2.2.2.1.below HB2.out) HFN.out HOK.out.2.2.2.2.2.2.2 (by omega) HB2.out.size ?_; intro v' w3 hown hgrow)
      have HR := Lib.hid (show StrOwn w (nxt x) (.returned v') w3 from ⟨v', rfl, by
        rw [← HNX.out, List.nil_append, HFN.out]
        rw [Nat.zero_add] at hown
        exact hown, HB2.out.grown hgrow HB2.out.size (fun q hq => by injection hq with hq; rw [← hq]; exact (OWN0.out.lt _ rfl).1)⟩)
      clear hown hgrow
      go_wp2
      go_ret
      exact HR.out
    · have hse2 : x.su.toList.isEmpty = false := by cases h : x.su.toList with | nil => exact absurd h hse | cons _ _ => rfl
      have HNX := Lib.hid (show [x.su] ++ x.fs = nxt x by unfold nxt; rw [if_neg hse])
      go_upto_region 7 with (at_builtin; refine wpList_append_strs rfl _ _ rfl w.heap.size 0 1 1 (W2.heap.size + 1) [] [x.su] (.slice (some ⟨B7, 0, none⟩) 0 0) (some ⟨W2.heap.size, 0, none⟩) rfl (OWN0.out.alloc _) rfl (srow_new _ _) rfl (fun h => by cases h) (by omega) (by rw [World.size_alloc]; have := HB2.out.size; omega) ?_; intro v' w3 hown hgrow)
      obtain ⟨g', cap', rfl⟩ := ownsRow_succ hown
      have hbx3 := (hgrow.block B5 (by rw [World.size_alloc]; omega) (fun e => by
        have h1 := World.ownsRow.lt OWN0.out B7 rfl
        have h2 := Option.some.inj e
        exact own_not HBX.out OWN0.out h2)).trans (laid_old HBX.out)
      have HB3 := Lib.hid (show Below w.heap.size w w3 from (below_al HB2.out _).grown hgrow (by rw [World.size_alloc]; have := HB2.out.size; omega) (fun q hq => by injection hq with hq; rw [← hq]; exact (OWN0.out.lt _ rfl).1))
      rw [List.nil_append] at hown
      have OWN1 := Lib.hid hown
      clear x0 x1 x2 x3 hgrow hown HBX OWN0 hse hse2
      obtain ⟨⟨x0, x1, x2, x3⟩, _⟩ := four_cells hbx3
      clear hbx3
      go_wp2_with (at_builtin; refine wpList_append_strs rfl _ _ rfl w.heap.size 1 x.n x.c w.heap.size [x.su] x.fs (.slice (some ⟨g', 0, none⟩) 1 cap') x.iA rfl OWN1.out rfl (HOK.out.2.2.2.2.2.1.below HB3.out) HFN.out HOK.out.2.2.2.2.2.2.2 (by omega) HB3.out.size ?_; intro v4 w4 hown hgrow)
      have HR := Lib.hid (show StrOwn w (nxt x) (.returned v4) w4 from ⟨v4, rfl, by
        rw [← HNX.out, List.length_append, HFN.out]
        exact hown, HB3.out.grown hgrow HB3.out.size (fun q hq => by injection hq with hq; rw [← hq]; exact (OWN1.out.lt _ rfl).1)⟩)
      clear hown hgrow
      go_wp2
      go_ret
      exact HR.out
end Go.Proofs.YthifmcnemeiphaaDoor
