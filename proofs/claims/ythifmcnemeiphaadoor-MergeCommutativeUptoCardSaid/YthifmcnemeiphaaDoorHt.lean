/- Layer 16: valid hierarchies; IsSubclass of the package. -/
import Derived.Test.YthifmcnemeiphaaDoorHi
import Derived.Test.YthifmcnemeiphaaDoorHm
namespace Go.Proofs.YthifmcnemeiphaaDoor
open Go.ChangeShapes Go.WideShapes Go.ChangeAt Go.RowKit Go.PlainAid Go.Maps
set_option linter.unusedSimpArgs false
set_option linter.unusedVariables false

/-- a valid hierarchy -/
def VH (L : List CI) : Prop := ∀ i x, L[i]? = some x → ceV L i x = 0
theorem VH.all {L : List CI} (h : VH L) {i : Nat} {x : CI} (hx : L[i]? = some x) :
    clsB x.nm = true ∧ fI L x.nm = i ∧ (x.su.toList.isEmpty = (x.nm.toList == rootL)) ∧ (x.isI = true → (x.su.toList == rootL) = true) ∧ (x.su.toList.isEmpty = false → fB L x.su = true ∧ (lkC L x.su).isI = false) ∧ x.fs.all (ifOk L) = true ∧ ¬ Rc L i i := by
  have h0 := h i x hx
  unfold ceV at h0
  split at h0
  · cases h0
  · rename_i h1
    split at h0
    · cases h0
    · rename_i h2
      split at h0
      · cases h0
      · rename_i h3
        split at h0
        · cases h0
        · rename_i h4
          split at h0
          · cases h0
          · rename_i h5
            split at h0
            · cases h0
            · rename_i h6
              refine ⟨by simpa using h1, by simpa using h2, ?_, ?_, ?_, by simpa using h5, ?_⟩
              · exact Classical.byContradiction fun e => h3 (Or.inl e)
              · intro hI
                cases hs : (x.su.toList == rootL) with
                | true => rfl
                | false => exact absurd (Or.inr ⟨hI, hs⟩) h3
              · intro he
                refine ⟨?_, ?_⟩
                · cases hf : fB L x.su with
                  | true => rfl
                  | false => exact absurd ⟨he, Or.inl hf⟩ h4
                · cases hf : (lkC L x.su).isI with
                  | false => rfl
                  | true => exact absurd ⟨he, Or.inr hf⟩ h4
              · intro hr
                exact h6 (rcB_iff.2 hr)
theorem VH.found {L : List CI} (h : VH L) {i : Nat} {x : CI} (hx : L[i]? = some x) {s : ByteArray} (hs : s ∈ nxt x) : fB L s = true := by
  obtain ⟨_, _, _, _, h5, h6, _⟩ := h.all hx
  unfold nxt at hs
  rcases List.mem_append.1 hs with hs | hs
  · split at hs
    · cases hs
    · rename_i he
      rw [List.mem_singleton.1 hs]
      exact (h5 (by cases hh : x.su.toList with | nil => exact absurd hh he | cons _ _ => rfl)).1
  · rw [List.all_eq_true] at h6
    have := h6 s hs
    unfold ifOk at this
    rw [Bool.and_eq_true] at this
    exact this.1
theorem VH.nx {L : List CI} (h : VH L) {a s : ByteArray} (hs : s ∈ nx L a) : fB L s = true := by
  unfold Go.Proofs.YthifmcnemeiphaaDoor.nx at hs
  split at hs
  · rename_i hf
    obtain ⟨_, hl⟩ := fI_of hf
    rw [lkC_yes hl] at hs
    exact h.found (List.getElem?_eq_getElem hl) hs
  · cases hs
theorem VH.nr {L : List CI} (h : VH L) {a s : ByteArray} (hs : Nr L a s) : fB L s = true := by
  cases hs with
  | one hm => exact h.nx hm
  | more _ hm => exact h.nx hm
/-- what IsSubclass says -/
noncomputable def isV (L : List CI) (a b : ByteArray) : Bool := (a.toList == b.toList) || (fB L a && ((b.toList == rootL) || (fB L b && rcB L (fI L a) (fI L b))))
theorem fI_lt {L : List CI} {n : Nat} {s : ByteArray} (hn : L.length = n) (hf : fB L s = true) : fI L s < n := by
  obtain ⟨e, hl⟩ := fI_of hf
  omega
set_option maxRecDepth 100000 in
set_option maxHeartbeats 2000000 in
theorem sub_any (A : Option Addr) (n c : Nat) (L : List CI) (a b : ByteArray) (w : World) (hn : L.length = n) (hc : n ≤ 1000000) (h : CIs w w.heap.size A L) (ha : a.size ≤ 9223372036854775807) (hb : b.size ≤ 9223372036854775807) :
    Calls Tryd.prog 23 #[.slice A n c, .string a, .string b] w fun e w' => e = .returned (.bool (isV L a b)) ∧ Below w.heap.size w w' := by
  have HL := Lib.hid h
  have HN := Lib.hid hn
  clear h hn
  unfold isV
  cases hab : (a.toList == b.toList) with
  | true =>
    rw [Bool.true_or]
    go_enter Tryd.func23, Tryd.ntmps23
    go_wp2
    go_ret
    exact ⟨rfl, Below.refl _ _⟩
  | false =>
    rw [Bool.false_or]
    have hfd : ∀ W, Below w.heap.size w W → CIs W W.heap.size A L := fun W hb => HL.out.up hb
    have HFD := Lib.hid hfd
    clear hfd
    cases hfa : fB L a with
    | false =>
      rw [Bool.false_and]
      have HA := Lib.hid hfa
      clear hfa
      go_enter Tryd.func23, Tryd.ntmps23
      go_wp2_with (first | (go_at_call 55; (with_reducible refine (finder_any A n c L _ HN.out hc HL.out).mono ?_); rintro e W ⟨F, rfl, hF, hb⟩; obtain ⟨kk, bb, rfl, he, hcon⟩ := hF; have he' : ∀ (args : Array Value) (w : World), (callFunc kk args).run Tryd.prog w = .ok (.enter kk args) w := he; have HB := Lib.hid hb; have HC := Lib.hid (show Calls Tryd.prog kk #[.string a, .pointer (some ⟨bb, 0, none⟩)] W fun e w' => e = .returned (.tuple #[.int .i64 (fI L a), .bool (fB L a)]) ∧ Below W.heap.size W w' from hcon a W ha (Below.refl _ _)); rw [HA.out] at HC; clear he hcon hb) | (refine (HC.out).mono ?_; rintro e w1 ⟨rfl, hb1⟩; have HB1 := Lib.hid (below_on HB.out hb1); clear hb1))
      go_ret
      exact ⟨rfl, HB1.out⟩
    | true =>
      rw [Bool.true_and]
      obtain ⟨i, hi⟩ : ∃ i, fI L a = i := ⟨_, rfl⟩
      have hil : i < n := by rw [← hi]; exact fI_lt HN.out hfa
      rw [hi]
      have HA := Lib.hid (And.intro hfa hi)
      clear hfa hi
      cases hbr : (b.toList == rootL) with
      | true =>
        rw [Bool.true_or]
        go_enter Tryd.func23, Tryd.ntmps23
        go_wp2_with (first | (go_at_call 55; (with_reducible refine (finder_any A n c L _ HN.out hc HL.out).mono ?_); rintro e W ⟨F, rfl, hF, hb⟩; obtain ⟨kk, bb, rfl, he, hcon⟩ := hF; have he' : ∀ (args : Array Value) (w : World), (callFunc kk args).run Tryd.prog w = .ok (.enter kk args) w := he; have HB := Lib.hid hb; have HC := Lib.hid (show Calls Tryd.prog kk #[.string a, .pointer (some ⟨bb, 0, none⟩)] W fun e w' => e = .returned (.tuple #[.int .i64 (fI L a), .bool (fB L a)]) ∧ Below W.heap.size W w' from hcon a W ha (Below.refl _ _)); rw [HA.out.1, HA.out.2] at HC; clear he hcon hb) | (refine (HC.out).mono ?_; rintro e w1 ⟨rfl, hb1⟩; have HB1 := Lib.hid (below_on HB.out hb1); clear hb1))
        go_ret
        exact ⟨rfl, HB1.out⟩
      | false =>
        rw [Bool.false_or]
        cases hfb : fB L b with
        | false =>
          rw [Bool.false_and]
          have HBf := Lib.hid hfb
          clear hfb
          go_enter Tryd.func23, Tryd.ntmps23
          go_upto_region 7 with (first | (go_at_call 55; (with_reducible refine (finder_any A n c L _ HN.out hc HL.out).mono ?_); rintro e W ⟨F, rfl, hF, hb⟩; obtain ⟨kk, bb, rfl, he, hcon⟩ := hF; have he' : ∀ (args : Array Value) (w : World), (callFunc kk args).run Tryd.prog w = .ok (.enter kk args) w := he; have HB := Lib.hid hb; have HC := Lib.hid (show Calls Tryd.prog kk #[.string a, .pointer (some ⟨bb, 0, none⟩)] W fun e w' => e = .returned (.tuple #[.int .i64 (fI L a), .bool (fB L a)]) ∧ Below W.heap.size W w' from hcon a W ha (Below.refl _ _)); rw [HA.out.1, HA.out.2] at HC; have HD := Lib.hid (show ∀ X, Below W.heap.size W X → Calls Tryd.prog kk #[.string b, .pointer (some ⟨bb, 0, none⟩)] X fun e w' => e = .returned (.tuple #[.int .i64 (fI L b), .bool (fB L b)]) ∧ Below X.heap.size X w' from fun X hX => hcon b X (by assumption) hX); rw [HBf.out] at HD; clear he hcon hb) | (refine (HC.out).mono ?_; rintro e w1 ⟨rfl, hb1⟩; have HB1 := Lib.hid hb1; clear hb1))
          go_wp2_with (go_at_fn kk; (with_reducible refine (HD.out _ HB1.out).mono ?_); rintro e w2 ⟨rfl, hb2⟩; have HB2 := Lib.hid (below_on (below_on HB.out HB1.out) hb2); clear hb2)
          go_ret
          exact ⟨rfl, HB2.out⟩
        | true =>
          rw [Bool.true_and]
          obtain ⟨j, hj⟩ : ∃ j, fI L b = j := ⟨_, rfl⟩
          have hjl : j < n := by rw [← hj]; exact fI_lt HN.out hfb
          rw [hj]
          have HBf := Lib.hid (And.intro hfb hj)
          clear hfb hj
          obtain ⟨r, hr⟩ : ∃ r, rcB L i j = r := ⟨_, rfl⟩
          have HR := Lib.hid hr
          rw [hr]
          clear hr
          have hjL : j < L.length := by rw [HN.out]; exact hjl
          go_enter Tryd.func23, Tryd.ntmps23
          go_upto_region 7 with (first | (go_at_call 55; (with_reducible refine (finder_any A n c L _ HN.out hc HL.out).mono ?_); rintro e W ⟨F, rfl, hF, hb⟩; have HF := Lib.hid hF; obtain ⟨kk, bb, rfl, he, hcon⟩ := hF; have he' : ∀ (args : Array Value) (w : World), (callFunc kk args).run Tryd.prog w = .ok (.enter kk args) w := he; have HB := Lib.hid hb; have HC := Lib.hid (show Calls Tryd.prog kk #[.string a, .pointer (some ⟨bb, 0, none⟩)] W fun e w' => e = .returned (.tuple #[.int .i64 (fI L a), .bool (fB L a)]) ∧ Below W.heap.size W w' from hcon a W ha (Below.refl _ _)); rw [HA.out.1, HA.out.2] at HC; have HD := Lib.hid (show ∀ X, Below W.heap.size W X → Calls Tryd.prog kk #[.string b, .pointer (some ⟨bb, 0, none⟩)] X fun e w' => e = .returned (.tuple #[.int .i64 (fI L b), .bool (fB L b)]) ∧ Below X.heap.size X w' from fun X hX => hcon b X (by assumption) hX); rw [HBf.out.1, HBf.out.2] at HD; clear he hcon hb) | (refine (HC.out).mono ?_; rintro e w1 ⟨rfl, hb1⟩; have HB1 := Lib.hid hb1; clear hb1))
          go_upto_region 8 with (go_at_fn kk; (with_reducible refine (HD.out _ HB1.out).mono ?_); rintro e w2 ⟨rfl, hb2⟩; have HB2 := Lib.hid (below_on HB1.out hb2); clear hb2)
          go_wp2_with (go_at_call 58; (with_reducible refine (reached_any A n c L _ i _ HN.out hc (HL.out.up (below_on HB.out HB2.out)) (HF.out.up HB2.out) hil).mono ?_); rintro e w3 ⟨g2, rfl, hm, _, hb3⟩; have m1 := mark_at hm (rcL_at hjL).2 ((rcL_at hjL).1.trans HR.out); have HB9 := Lib.hid (below_on (below_on HB.out HB2.out) hb3); clear hb3 hm)
          go_ret
          exact ⟨rfl, HB9.out⟩
end Go.Proofs.YthifmcnemeiphaaDoor
