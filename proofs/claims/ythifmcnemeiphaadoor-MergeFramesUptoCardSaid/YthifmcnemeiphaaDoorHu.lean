/- Layer 16: the reference's IsSubclass. -/
import Derived.Test.YthifmcnemeiphaaDoorHt
import Derived.Test.YthifmcnemeiphaaDoorHo
namespace Go.Proofs.YthifmcnemeiphaaDoor
open Go.ChangeShapes Go.WideShapes Go.ChangeAt Go.RowKit Go.PlainAid Go.Maps
set_option linter.unusedSimpArgs false
set_option linter.unusedVariables false

theorem has_sub {L : List CI} {a b : ByteArray} {R : List ByteArray} (hv : VH L) (hf : fB L a = true) (hm : ∀ t, t ∈ R ↔ Nr L a t) : hasL R b = (fB L b && rcB L (fI L a) (fI L b)) := by
  rw [Bool.eq_iff_iff, hasL_iff, hm, Bool.and_eq_true, rcB_iff]
  constructor
  · intro h
    have hb := hv.nr h
    exact ⟨hb, nr_place hf h hb⟩
  · rintro ⟨hb, h⟩
    exact place_nr hf h b hb rfl
set_option maxRecDepth 100000 in
set_option maxHeartbeats 2000000 in
theorem rsub_any (A : Option Addr) (n c : Nat) (L : List CI) (a b : ByteArray) (w : World) (hn : L.length = n) (hs : Mid L) (hv : VH L) (h : CIs w w.heap.size A L) :
    Calls Tryd.prog 24 #[.slice A n c, .string a, .string b] w fun e w' => e = .returned (.bool (isV L a b)) ∧ Below w.heap.size w w' := by
  have HL := Lib.hid h
  have HN := Lib.hid hn
  have HS := Lib.hid hs
  have HV := Lib.hid hv
  have hn60 : n ≤ 60 := by rw [← hn]; exact hs.1
  have HK := Lib.hid (rlookup_any A n c L a w hn (by omega) h)
  clear h hn hs hv
  unfold isV
  cases hab : (a.toList == b.toList) with
  | true =>
    rw [Bool.true_or]
    go_enter Tryd.func24, Tryd.ntmps24
    go_wp2
    go_ret
    exact ⟨rfl, Below.refl _ _⟩
  | false =>
    rw [Bool.false_or]
    obtain ⟨y, hy⟩ : ∃ y, lkC L a = y := ⟨_, rfl⟩
    rw [hy] at HK
    clear hy
    cases hfa : fB L a with
    | false =>
      rw [Bool.false_and]
      rw [hfa] at HK
      clear hfa
      go_enter Tryd.func24, Tryd.ntmps24
      go_wp2_with (go_at_call 21; (with_reducible refine (HK.out).mono ?_); rintro e w1 ⟨rfl, hb1⟩)
      go_ret
      exact ⟨rfl, below_al hb1 _⟩
    | true =>
      rw [Bool.true_and]
      have HA := Lib.hid hfa
      rw [hfa] at HK
      clear hfa
      cases hbr : (b.toList == rootL) with
      | true =>
        rw [Bool.true_or]
        go_enter Tryd.func24, Tryd.ntmps24
        go_wp2_with (go_at_call 21; (with_reducible refine (HK.out).mono ?_); rintro e w1 ⟨rfl, hb1⟩)
        go_ret
        exact ⟨rfl, below_al hb1 _⟩
      | false =>
        rw [Bool.false_or]
        obtain ⟨r, hr⟩ : ∃ r, (fB L b && rcB L (fI L a) (fI L b)) = r := ⟨_, rfl⟩
        rw [hr]
        have HR := Lib.hid hr
        clear hr
        go_enter Tryd.func24, Tryd.ntmps24
        go_upto_region 4 with (go_at_call 21; (with_reducible refine (HK.out).mono ?_); rintro e w1 ⟨rfl, hb1⟩)
        have hb2 := below_al hb1 (.cells #[.string y.nm, .string y.su, .slice y.iA y.n y.c, .bool y.isI] 30)
        generalize w1.alloc (.cells #[.string y.nm, .string y.su, .slice y.iA y.n y.c, .bool y.isI] 30) = W2 at hb2 ⊢
        have HB2 := Lib.hid hb2
        clear hb1 hb2
        go_wp2_with (first | (go_at_call 60; (with_reducible refine (reach_any A n c L a _ HN.out HS.out (HL.out.up HB2.out)).mono ?_); rintro e w4 ⟨v, R, rfl, hown, hmem, _, hlen, hb5⟩; obtain ⟨A4, c4, rfl, _, _⟩ := own_shape hown; have HO4 := Lib.hid (SRow.of_own hown).1; have HB4 := Lib.hid (below_on HB2.out hb5); have HH := Lib.hid ((has_sub HV.out HA.out hmem).trans HR.out); clear hown hmem hb5) | (go_at_call 59; (with_reducible refine (has_any A4 R.length c4 R b _ rfl (by omega) HO4.out).mono ?_); rintro e w5 ⟨rfl, hb6⟩; have HB5 := Lib.hid (below_on HB4.out hb6); rw [HH.out]; clear hb6))
        go_ret
        exact ⟨rfl, HB5.out⟩
end Go.Proofs.YthifmcnemeiphaaDoor
