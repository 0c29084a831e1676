/- Layer 4: DescClassNames, the walk. -/
import Derived.Test.YtfafmanjgillcaaDoorDescRcn
import Derived.Test.YtfafmanjgillcaaDoorDescOpen
import Derived.Test.YtfafmanjgillcaaDoorDescWorks
namespace Go.Proofs.YtfafmanjgillcaaDoor
open Go.ChangeShapes Go.WideShapes Go.ChangeAt Go.RowKit Go.PlainAid
set_option linter.unusedSimpArgs false
set_option linter.unusedVariables false

theorem strs_al {w w' : World} {A : Option Addr} {xs : List ByteArray} (h : Strs w w.heap.size A xs) (hb : Below w.heap.size w w') : Strs w' w'.heap.size A xs := by
  rcases h with h | ⟨g, hA, hg, hc⟩
  · exact Or.inl h
  · exact Or.inr ⟨g, hA, by have := hb.size; omega, fun j x hx => (hb.cell (p := ⟨g, j, none⟩) hg).trans (hc j x hx)⟩
/-- slices.Equal of two slices that hold the same strings -/
theorem equal_same (A A' : Option Addr) (c c' : Nat) (xs : List ByteArray) (w : World) (hx : xs.length ≤ 60) (h : Strs w w.heap.size A xs) (h' : Strs w w.heap.size A' xs) :
    Calls Tryd.prog 51 #[.slice A xs.length c, .slice A' xs.length c'] w fun e w' => e = .returned (.bool true) ∧ Below w.heap.size w w' := by
  have hsame : ∀ {w' : World}, w' = w → Below w.heap.size w w' := fun h => by subst h; exact Below.refl _ _
  rcases h with rfl | ⟨g, rfl, hg, hc⟩
  · exact (Tryd.slices_Equal_string_empty A A' c 0 c' w (by decide)).mono fun e w' hh => ⟨hh.1, hsame hh.2⟩
  · rcases h' with rfl | ⟨g', rfl, hg', hc'⟩
    · exact (Tryd.slices_Equal_string_empty _ A' c 0 c' w (by decide)).mono fun e w' hh => ⟨hh.1, hsame hh.2⟩
    · refine (Tryd.slices_Equal_string g 0 xs.length c g' 0 xs.length c' xs xs w (Nat.le_refl _) (Nat.le_refl _) (by omega) (by omega) ?_ ?_).mono ?_
      · intro j hj
        rw [Nat.zero_add]
        exact hc j _ (by rw [List.getD_eq_getElem?_getD, List.getElem?_eq_getElem hj]; rfl)
      · intro j hj
        rw [Nat.zero_add]
        exact hc' j _ (by rw [List.getD_eq_getElem?_getD, List.getElem?_eq_getElem hj]; rfl)
      · rintro e w' ⟨rfl, q, rfl⟩
        exact ⟨by simp, ⟨rfl, rfl, rfl, Nat.le_refl _, fun _ _ => rfl⟩⟩
theorem cn_all (ps : List Ty) (h : ps.length ≤ 60) : (cn ps).length ≤ 60 := by
  have := cn_len ps []
  unfold cn; simp at this; omega

set_option maxRecDepth 100000 in
set_option maxHeartbeats 1000000 in
theorem cn_law (A : Option Addr) (n c : Nat) (ps : List Ty) (w : World) (hn : ps.length = n) (hty : Tys w w.heap.size A ps) (hnm : ∀ p ∈ ps, p.2.2.size ≤ 9223372036854775807) :
    Calls Tryd.prog 11 #[.slice A n c] w fun e w' => e = .returned (.bool true) ∧ Below w.heap.size w w' := by
  by_cases h60 : 60 < n
  · have hB : Below w.heap.size w w := Below.refl _ _
    clear hn hty hnm
    go_enter Tryd.func11, Tryd.ntmps11
    go_wp2_with (go_at_call 29; refine (works_any _).mono ?_; rintro e w1 ⟨rfl, hb1⟩; obtain ⟨hc1, hf1⟩ := bcell hb1; have hz1 := hb1.size; (try simp only [World.size_alloc, World.size_setCell] at hz1); (try have hza : w.heap.size < w1.heap.size := by omega); (try have hzb : w.heap.size + 1 < w1.heap.size := by omega); (try have hzc : w.heap.size + 1 + 1 < w1.heap.size := by omega); replace hB := below_on (w := w) ((by repeat (first | exact hB | exact Below.refl _ _ | refine below_al ?_ _ | refine below_st ?_ (by first | exact Nat.le_refl _ | exact Nat.le_add_right _ _ | (simp; omega)) _))) hb1; clear hb1)
    go_ret
    exact ⟨rfl, hB⟩
  · have h60' : n ≤ 60 := by omega
    have HL := cn_all ps (by omega)
    have HN := Lib.hid hn
    have HT := Lib.hid hty
    have HM := Lib.hid hnm
    have HL' := Lib.hid HL
    clear hn hty hnm h60 HL
    go_enter Tryd.func11, Tryd.ntmps11
    go_wp2_with fail
    refine (cnames_any A n c ps w HN.out h60' HT.out HM.out).mono ?_
    rintro e w1 ⟨A1, c1, he1, hs1, hb1⟩
    subst he1
    have S1 := Lib.hid hs1
    have B1 := Lib.hid hb1
    clear hs1 hb1
    go_wp2_with fail
    refine (rcnames_any A n c ps w1 HN.out h60' ((HT.out.below B1.out).more B1.out.size)).mono ?_
    rintro e w2 ⟨A2, c2, he2, hs2, hb2⟩
    subst he2
    have S2 := Lib.hid hs2
    have B2 := Lib.hid hb2
    clear hs2 hb2
    go_wp2_with fail
    refine (equal_same A1 A2 c1 c2 (cn ps) w2 HL'.out (strs_al S1.out B2.out) S2.out).mono ?_
    rintro e w3 ⟨rfl, hb3⟩
    have B3 := Lib.hid hb3
    clear hb3
    go_wp2_with fail
    refine (works_any w3).mono ?_
    rintro e w4 ⟨rfl, hb4⟩
    have B4 := Lib.hid hb4
    clear hb4
    go_wp2
    go_ret
    exact ⟨rfl, ((B1.out.trans (B2.out.mono B1.out.size)).trans (B3.out.mono (Nat.le_trans B1.out.size B2.out.size))).trans (B4.out.mono (Nat.le_trans (Nat.le_trans B1.out.size B2.out.size) B3.out.size))⟩

end Go.Proofs.YtfafmanjgillcaaDoor
