/- Layer 5: what was added can be read; adding it again changes nothing. No walk. -/
import Derived.Test.YthfegbhbokhlkaaGreatDoorPoolAddAll
namespace Go.Proofs.YthfegbhbokhlkaaGreatDoor
set_option linter.unusedSimpArgs false
set_option linter.unusedVariables false

/-- x stands first at the index i -/
def Has (L : List Cn) (x : Cn) (i : Int) : Prop := ixN L x < L.length ∧ i = (ixN L x : Int) + 1
def Pre (L M : List Cn) : Prop := ∃ t, M = L ++ t
theorem Pre.refl (L : List Cn) : Pre L L := ⟨[], by simp⟩
theorem Pre.trans {L M K : List Cn} (h : Pre L M) (k : Pre M K) : Pre L K := by
  obtain ⟨t, rfl⟩ := h
  obtain ⟨u, rfl⟩ := k
  exact ⟨t ++ u, by rw [List.append_assoc]⟩
theorem Pre.len {L M : List Cn} (h : Pre L M) : L.length ≤ M.length := by obtain ⟨t, rfl⟩ := h; simp
theorem Has.pre {L M : List Cn} {x : Cn} {i : Int} (h : Has L x i) (k : Pre L M) : Has M x i := by
  obtain ⟨t, rfl⟩ := k
  have e : ixN (L ++ t) x = ixN L x := by
    unfold ixN
    rw [List.findIdx_append]
    exact if_pos h.1
  refine ⟨by rw [e, List.length_append]; have := h.1; omega, by rw [e]; exact h.2⟩
theorem Has.again {L : List Cn} {x : Cn} {i : Int} (h : Has L x i) : adL L x = L ∧ adI L x = i ∧ adE L x = 0 := by
  obtain ⟨a, b, c⟩ := ad_1 h.1
  exact ⟨a, by rw [b, h.2], c⟩
theorem Has.at {L : List Cn} {x : Cn} {i : Int} (h : Has L x i) : atC L i = x ∧ atE L i = 0 := by
  have hg := List.findIdx_getElem (p := fun c => cnQ c x) (xs := L) (w := h.1)
  have e : L[ixN L x]? = some x := by
    rw [List.getElem?_eq_getElem h.1]
    congr 1
    exact cnQ_iff.1 hg
  have := at_in e
  rw [h.2]
  exact this
theorem pre_ad (L : List Cn) (x : Cn) : Pre L (adL L x) := by
  by_cases h : ixN L x < L.length
  · rw [(ad_1 h).1]; exact Pre.refl _
  · by_cases h2 : 1000 ≤ L.length
    · rw [(ad_2 h h2).1]; exact Pre.refl _
    · rw [(ad_3 h h2).1]; exact ⟨[x], rfl⟩
theorem has_ad {L : List Cn} {x : Cn} (h : adE L x = 0) : Has (adL L x) x (adI L x) := by
  by_cases h1 : ixN L x < L.length
  · rw [(ad_1 h1).1, (ad_1 h1).2.1]; exact ⟨h1, rfl⟩
  · by_cases h2 : 1000 ≤ L.length
    · rw [(ad_2 h1 h2).2.2] at h; cases h
    · rw [(ad_3 h1 h2).1, (ad_3 h1 h2).2.1]
      have e0 : ixN L x = L.length := Nat.le_antisymm (ix_le L x) (by omega)
      have e : ixN (L ++ [x]) x = L.length := by
        have e1 : List.findIdx (fun c => cnQ c x) L = L.length := e0
        unfold ixN
        rw [List.findIdx_append, e1, if_neg (by omega)]
        simp [cnQ_self]
      exact ⟨by rw [e]; simp, by rw [e]⟩
theorem ad_le (L : List Cn) (x : Cn) : (adL L x).length ≤ L.length + 1 := by
  by_cases h1 : ixN L x < L.length
  · rw [(ad_1 h1).1]; omega
  · by_cases h2 : 1000 ≤ L.length
    · rw [(ad_2 h1 h2).1]; omega
    · rw [(ad_3 h1 h2).1]; simp
theorem ad_full {L : List Cn} {x : Cn} (h : ¬ adE L x = 0) : 1000 ≤ L.length := by
  by_cases h1 : ixN L x < L.length
  · exact absurd (ad_1 h1).2.2 h
  · by_cases h2 : 1000 ≤ L.length
    · exact h2
    · exact absurd (ad_3 h1 h2).2.2 h

/-! ### a text and a constant that refers to it -/
theorem an_has {L : List Cn} {t : Int} {s : ByteArray} (h : anE L t s = 0) : ∃ i, Has (anL L t s) (cu s) i ∧ Has (anL L t s) (ct t i 0) (anI L t s) ∧ Pre L (anL L t s) := by
  by_cases h1 : adE L (cu s) = 0
  · by_cases h2 : adE (adL L (cu s)) (ct t (adI L (cu s)) 0) = 0
    · obtain ⟨a, b, _⟩ := an_3 h1 h2
      rw [a, b]
      exact ⟨adI L (cu s), (has_ad h1).pre (pre_ad _ _), has_ad h2, (pre_ad _ _).trans (pre_ad _ _)⟩
    · exact absurd ((an_2 h1 h2).2.2.symm.trans h) h2
  · exact absurd ((an_1 (t := t) h1).2.2.symm.trans h) h1
theorem an_again {L : List Cn} {t i k : Int} {s : ByteArray} (h1 : Has L (cu s) i) (h2 : Has L (ct t i 0) k) : anL L t s = L ∧ anI L t s = k ∧ anE L t s = 0 := by
  obtain ⟨a, b, c⟩ := h1.again
  have e2 : adE (adL L (cu s)) (ct t (adI L (cu s)) 0) = 0 := by rw [a, b]; exact h2.again.2.2
  obtain ⟨x, y, z⟩ := an_3 c e2
  rw [x, y, z, a, b]
  exact ⟨h2.again.1, h2.again.2.1, rfl⟩
theorem pre_an (L : List Cn) (t : Int) (s : ByteArray) : Pre L (anL L t s) := by
  by_cases h : anE L t s = 0
  · obtain ⟨_, _, _, h3⟩ := an_has h; exact h3
  · by_cases h1 : adE L (cu s) = 0
    · by_cases h2 : adE (adL L (cu s)) (ct t (adI L (cu s)) 0) = 0
      · exact absurd (an_3 h1 h2).2.2 h
      · rw [(an_2 h1 h2).1]; exact Pre.refl _
    · rw [(an_1 (t := t) h1).1]; exact Pre.refl _
theorem an_le (L : List Cn) (t : Int) (s : ByteArray) : (anL L t s).length ≤ L.length + 2 := by
  by_cases h1 : adE L (cu s) = 0
  · by_cases h2 : adE (adL L (cu s)) (ct t (adI L (cu s)) 0) = 0
    · rw [(an_3 h1 h2).1]
      have := ad_le L (cu s)
      have := ad_le (adL L (cu s)) (ct t (adI L (cu s)) 0)
      omega
    · rw [(an_2 h1 h2).1]; omega
  · rw [(an_1 (t := t) h1).1]; omega
theorem an_le1 {L : List Cn} {t i : Int} {s : ByteArray} (h : Has L (cu s) i) : (anL L t s).length ≤ L.length + 1 := by
  obtain ⟨a, b, c⟩ := h.again
  by_cases h2 : adE (adL L (cu s)) (ct t (adI L (cu s)) 0) = 0
  · rw [(an_3 c h2).1, a]
    exact ad_le _ _
  · rw [(an_2 c h2).1]; omega
theorem an_full {L : List Cn} {t : Int} {s : ByteArray} (h : ¬ anE L t s = 0) : 999 ≤ L.length := by
  by_cases h1 : adE L (cu s) = 0
  · by_cases h2 : adE (adL L (cu s)) (ct t (adI L (cu s)) 0) = 0
    · exact absurd (an_3 h1 h2).2.2 h
    · have := ad_full h2
      have := ad_le L (cu s)
      omega
  · have := ad_full h1; omega

/-! ### a member reference -/
theorem am_has {L : List Cn} {t : Int} {a b d : ByteArray} (h : amE L t a b d = 0) :
    ∃ i c j k m, Has (amL L t a b d) (cu a) i ∧ Has (amL L t a b d) (ct 7 i 0) c ∧ Has (amL L t a b d) (cu b) j ∧ Has (amL L t a b d) (cu d) k ∧ Has (amL L t a b d) (ct 12 j k) m ∧ Has (amL L t a b d) (ct t c m) (amI L t a b d) ∧ Pre L (amL L t a b d) := by
  by_cases h1 : anE L 7 a = 0
  rotate_left
  · exact absurd ((am_1 (t := t) (b := b) (d := d) h1).2.2.symm.trans h) h1
  by_cases h2 : am2E L a b = 0
  rotate_left
  · exact absurd ((am_2 (t := t) (d := d) h1 h2).2.2.symm.trans h) h2
  by_cases h3 : am3E L a b d = 0
  rotate_left
  · exact absurd ((am_3 (t := t) h1 h2 h3).2.2.symm.trans h) h3
  by_cases h4 : am4E L a b d = 0
  rotate_left
  · exact absurd ((am_4 (t := t) h1 h2 h3 h4).2.2.symm.trans h) h4
  by_cases h5 : am5E L t a b d = 0
  rotate_left
  · exact absurd ((am_5 h1 h2 h3 h4 h5).2.2.symm.trans h) h5
  obtain ⟨eL, eI, _⟩ := am_6 h1 h2 h3 h4 h5
  obtain ⟨i, p1, p2, p3⟩ := an_has h1
  have q2 : Pre (anL L 7 a) (am2 L a b) := pre_ad _ _
  have q3 : Pre (am2 L a b) (am3 L a b d) := pre_ad _ _
  have q4 : Pre (am3 L a b d) (am4 L a b d) := pre_ad _ _
  have q5 : Pre (am4 L a b d) (am5 L t a b d) := pre_ad _ _
  rw [eL, eI]
  refine ⟨i, anI L 7 a, am2I L a b, am3I L a b d, am4I L a b d, ?_, ?_, ?_, ?_, ?_, ?_, ?_⟩
  · exact p1.pre (q2.trans (q3.trans (q4.trans q5)))
  · exact p2.pre (q2.trans (q3.trans (q4.trans q5)))
  · exact (has_ad h2).pre (q3.trans (q4.trans q5))
  · exact (has_ad h3).pre (q4.trans q5)
  · exact (has_ad h4).pre q5
  · exact has_ad h5
  · exact p3.trans (q2.trans (q3.trans (q4.trans q5)))
theorem am_again {L : List Cn} {t i c j k m q : Int} {a b d : ByteArray} (p1 : Has L (cu a) i) (p2 : Has L (ct 7 i 0) c) (p3 : Has L (cu b) j) (p4 : Has L (cu d) k) (p5 : Has L (ct 12 j k) m) (p6 : Has L (ct t c m) q) :
    amL L t a b d = L ∧ amI L t a b d = q ∧ amE L t a b d = 0 := by
  obtain ⟨a1, b1, c1⟩ := an_again p1 p2
  have a2 : am2 L a b = L := by unfold am2; rw [a1]; exact p3.again.1
  have b2 : am2I L a b = j := by unfold am2I; rw [a1]; exact p3.again.2.1
  have c2 : am2E L a b = 0 := by unfold am2E; rw [a1]; exact p3.again.2.2
  have a3 : am3 L a b d = L := by unfold am3; rw [a2]; exact p4.again.1
  have b3 : am3I L a b d = k := by unfold am3I; rw [a2]; exact p4.again.2.1
  have c3 : am3E L a b d = 0 := by unfold am3E; rw [a2]; exact p4.again.2.2
  have a4 : am4 L a b d = L := by unfold am4; rw [a3, b2, b3]; exact p5.again.1
  have b4 : am4I L a b d = m := by unfold am4I; rw [a3, b2, b3]; exact p5.again.2.1
  have c4 : am4E L a b d = 0 := by unfold am4E; rw [a3, b2, b3]; exact p5.again.2.2
  have a5 : am5 L t a b d = L := by unfold am5; rw [a4, b1, b4]; exact p6.again.1
  have b5 : am5I L t a b d = q := by unfold am5I; rw [a4, b1, b4]; exact p6.again.2.1
  have c5 : am5E L t a b d = 0 := by unfold am5E; rw [a4, b1, b4]; exact p6.again.2.2
  obtain ⟨x, y, z⟩ := am_6 c1 c2 c3 c4 c5
  rw [x, y, z]
  exact ⟨a5, b5, rfl⟩
theorem am_le (L : List Cn) (t : Int) (a b d : ByteArray) : (amL L t a b d).length ≤ L.length + 6 ∧ (¬ amE L t a b d = 0 → 995 ≤ L.length) := by
  have l1 := an_le L 7 a
  have l2 : (am2 L a b).length ≤ (anL L 7 a).length + 1 := ad_le _ _
  have l3 : (am3 L a b d).length ≤ (am2 L a b).length + 1 := ad_le _ _
  have l4 : (am4 L a b d).length ≤ (am3 L a b d).length + 1 := ad_le _ _
  have l5 : (am5 L t a b d).length ≤ (am4 L a b d).length + 1 := ad_le _ _
  by_cases h1 : anE L 7 a = 0
  rotate_left
  · have := an_full h1
    exact ⟨by rw [(am_1 h1).1]; omega, fun _ => by omega⟩
  by_cases h2 : am2E L a b = 0
  rotate_left
  · have := ad_full h2
    exact ⟨by rw [(am_2 h1 h2).1]; omega, fun _ => by omega⟩
  by_cases h3 : am3E L a b d = 0
  rotate_left
  · have := ad_full h3
    exact ⟨by rw [(am_3 h1 h2 h3).1]; omega, fun _ => by omega⟩
  by_cases h4 : am4E L a b d = 0
  rotate_left
  · have := ad_full h4
    exact ⟨by rw [(am_4 h1 h2 h3 h4).1]; omega, fun _ => by omega⟩
  by_cases h5 : am5E L t a b d = 0
  rotate_left
  · have := ad_full h5
    exact ⟨by rw [(am_5 h1 h2 h3 h4 h5).1]; omega, fun _ => by omega⟩
  exact ⟨by rw [(am_6 h1 h2 h3 h4 h5).1]; omega, fun h => absurd (am_6 h1 h2 h3 h4 h5).2.2 h⟩

/-! ### what is read -/
theorem tg_has {L : List Cn} {x : Cn} {i : Int} (h : Has L x i) : tgC L i x.t = x ∧ tgE L i x.t = 0 := by
  obtain ⟨a, b⟩ := h.at
  obtain ⟨c, d⟩ := tg_3 b (by rw [a])
  exact ⟨by rw [c, a], d⟩
theorem nm_has {L : List Cn} {t i k : Int} {s : ByteArray} (h1 : Has L (cu s) i) (h2 : Has L (ct t i 0) k) : nmS L k t = s ∧ nmE L k t = 0 := by
  obtain ⟨a, b⟩ := tg_has h1
  obtain ⟨c, d⟩ := tg_has h2
  have c' : tgC L k t = ct t i 0 := c
  have d' : tgE L k t = 0 := d
  obtain ⟨x, y⟩ := nm_2 d'
  rw [x, y, c']
  exact ⟨by show (tgC L i 1).s = s; rw [show tgC L i 1 = cu s from a], b⟩
theorem nt_has {L : List Cn} {j k m : Int} {b d : ByteArray} (h1 : Has L (cu b) j) (h2 : Has L (cu d) k) (h3 : Has L (ct 12 j k) m) : ntN L m = b ∧ ntD L m = d ∧ ntE L m = 0 := by
  obtain ⟨a1, b1⟩ := tg_has h1
  obtain ⟨a2, b2⟩ := tg_has h2
  obtain ⟨a3, b3⟩ := tg_has h3
  have a3' : tgC L m 12 = ct 12 j k := a3
  obtain ⟨x, y, z⟩ := nt_4 (L := L) (i := m) b3 (by rw [a3']; exact b1) (by rw [a3']; exact b2)
  rw [a3'] at x y
  refine ⟨?_, ?_, z⟩
  · rw [x, show tgC L (ct 12 j k).a 1 = cu b from a1]
  · rw [y, show tgC L (ct 12 j k).b 1 = cu d from a2]
theorem mr_has {L : List Cn} {t i c j k m q : Int} {a b d : ByteArray} (ht : mtB t = true) (p1 : Has L (cu a) i) (p2 : Has L (ct 7 i 0) c) (p3 : Has L (cu b) j) (p4 : Has L (cu d) k) (p5 : Has L (ct 12 j k) m) (p6 : Has L (ct t c m) q) :
    mrC L q t = a ∧ mrN L q t = b ∧ mrD L q t = d ∧ mrE L q t = 0 := by
  obtain ⟨x, y⟩ := p6.at
  obtain ⟨n1, n2⟩ := nm_has p1 p2
  obtain ⟨o1, o2, o3⟩ := nt_has p3 p4 p5
  have g := mr_5 (L := L) (i := q) (t := t) y ⟨ht, by rw [x]⟩ (by rw [x]; exact n2) (by rw [x]; exact o3)
  rw [x] at g
  rw [g.1, g.2.1, g.2.2.1, g.2.2.2]
  exact ⟨n1, o1, o2, rfl⟩
theorem mr_not {L : List Cn} {t t' c m q : Int} (ht : ¬ t = t') (p6 : Has L (ct t c m) q) : mrC L q t' = ⟨#[]⟩ ∧ mrN L q t' = ⟨#[]⟩ ∧ mrD L q t' = ⟨#[]⟩ ∧ mrE L q t' = 11 := by
  obtain ⟨x, y⟩ := p6.at
  exact mr_2 y (fun h => ht (by have := h.2; rw [x] at this; exact this))
theorem Pool.front {w : World} {B : Nat} {A : Option Addr} {L M : List Cn} (h : Pool w B A M) (k : Pre L M) : Pool w B A L := by
  obtain ⟨t, rfl⟩ := k
  rcases h with h | ⟨g, o, hA, hg, hc⟩
  · exact Or.inl (List.append_eq_nil_iff.1 h).1
  · refine Or.inr ⟨g, o, hA, hg, fun i c hi => hc i c ?_⟩
    have hl : i < L.length := by
      rcases Nat.lt_or_ge i L.length with h1 | h1
      · exact h1
      · rw [List.getElem?_eq_none h1] at hi; cases hi
    rw [List.getElem?_append_left hl]; exact hi

end Go.Proofs.YthfegbhbokhlkaaGreatDoor
