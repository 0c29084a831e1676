import Derived.Test.YthfegbhbokhlkaaDoorGnM
import Derived.Test.YthfegbhbokhlkaaDoorOpM
import Derived.Test.YthfegbhbokhlkaaDoorGhM
import Derived.Test.YthfegbhbokhlkaaDoorGqM

/- Gr -/
/- Layer 11: decoding what was encoded, with bytes behind it, pure. -/
namespace Go.Proofs.YthfegbhbokhlkaaDoor
open Go.ChangeShapes Go.WideShapes Go.ChangeAt Go.RowKit Go.PlainAid
set_option linter.unusedSimpArgs false
set_option linter.unusedVariables false

theorem lk_put {α : Type} {C : Int → α} {N E : Int → Int} {s : ByteArray} {f : α → ByteArray} {L : List α}
    (hf : ∀ (x : α), x ∈ L → ∀ q : Nat, Sits s q (f x) → E q = 0 ∧ C q = x ∧ N q = q + (f x).size) {p : Nat} (h : Sits s p (catB f L)) : ∀ k, k ≤ L.length → lkE C N E p k = 0 ∧ lkL C N E p k = L.take k ∧ lkN C N E p k = p + (catB f (L.take k)).size
  | 0, _ => ⟨rfl, rfl, by show (p : Int) = p + (0 : Nat); omega⟩
  | k + 1, hk => by
    obtain ⟨i1, i2, i3⟩ := lk_put hf h k (by omega)
    have hc : L[k]? = some L[k] := List.getElem?_eq_getElem hk
    have ht : L.take (k + 1) = L.take k ++ [L[k]] := by rw [List.take_add_one, hc]; rfl
    have hd : L = L.take k ++ (L[k] :: L.drop (k + 1)) := by
      conv => lhs; rw [← List.take_append_drop k L, List.drop_eq_getElem_cons hk]
    have h1 : Sits s p (catB f (L.take k) ++ (f L[k] ++ catB f (L.drop (k + 1)))) := by
      have := h
      rw [hd, catB_app] at this
      exact this
    obtain ⟨g1, g2, g3⟩ := hf _ (List.getElem_mem hk) _ h1.right.left
    have e : ((p + (catB f (L.take k)).size : Nat) : Int) = lkN C N E p k := by rw [i3]; omega
    rw [e] at g1 g2 g3
    have hz : (catB f (L.take (k + 1))).size = (catB f (L.take k)).size + (f L[k]).size := by
      rw [ht, catB_app, catB_one, ByteArray.size_append]
    obtain ⟨l1, l2, l3⟩ := lk_ok i1
    refine ⟨by rw [l3]; exact g1, by rw [l1, i2, g2, ht], by rw [l2, g3, hz, ← e]; omega⟩
theorem two_put {s : ByteArray} {p : Nat} {n : Int} (hn : 0 ≤ n ∧ n ≤ 65535) (h : Sits s p (putB n 2)) : unsE s p 2 = 0 ∧ unsV s p 2 = n ∧ ((putB n 2).size : Int) = 2 := by
  have hu := h.uns ok2 (fit2 hn) (by omega)
  rw [of2 hn] at hu
  exact ⟨hu.1, hu.2, putB_sz ok2 (fit2 hn)⟩
theorem four_put {s : ByteArray} {p : Nat} {n : Int} (hn : 0 ≤ n ∧ n ≤ 65535) (h : Sits s p (putB n 4)) : unsE s p 4 = 0 ∧ unsV s p 4 = n ∧ ((putB n 4).size : Int) = 4 := by
  have hf : fitsP n 4 := by unfold fitsP; omega
  have hu := h.uns ok4 hf (by omega)
  have e : unsOf n 4 = n := by unfold unsOf; rw [if_neg (by decide), if_neg (by decide), if_pos rfl]; omega
  rw [e] at hu
  exact ⟨hu.1, hu.2, putB_sz ok4 hf⟩
theorem ta_put {s : ByteArray} {p : Nat} {a : Atr} (hn : 0 ≤ a.n ∧ a.n ≤ 65535) (hs : a.s.size ≤ 65535) (h : Sits s p (aB a)) : taE s p = 0 ∧ taC s p = a ∧ taN s p = p + (aB a).size := by
  unfold aB at h
  obtain ⟨u1, u2, u3⟩ := two_put hn h.left.left
  have hr := h.left.right
  have e2 : ((p + (putB a.n 2).size : Nat) : Int) = (p : Int) + 2 := by omega
  obtain ⟨v1, v2, v3⟩ := four_put (n := (a.s.size : Int)) (by omega) hr
  rw [e2] at v1 v2
  have hc := h.right
  have hsz : (putB a.n 2 ++ putB (a.s.size : Int) 4).size = 6 := by rw [ByteArray.size_append]; omega
  rw [hsz] at hc
  have h1 := hc.1
  have hx := hc.cut
  have hE : taE s p = 0 := by
    unfold taE
    rw [if_pos u1, if_pos v1, v2, if_neg (by omega), if_neg (by omega)]
  have hC : taC s p = a := by
    unfold taC
    rw [u2, v2, show ((p : Int) + 6).toNat = p + 6 by omega, show ((p : Int) + 6 + (a.s.size : Int)).toNat = p + 6 + a.s.size by omega, hx]
  refine ⟨hE, hC, ?_⟩
  unfold taN aB
  rw [v2, ByteArray.size_append, hsz]
  omega
theorem as_put {s : ByteArray} {p : Nat} {L : List Atr} (hk : Ask L) (hn : ∀ y ∈ L, 0 ≤ y.n ∧ y.n ≤ 65535) (h : Sits s p (asB L)) : asE s p = 0 ∧ asL s p = L ∧ asN s p = p + (asB L).size := by
  have hl := hk.len
  unfold asB at h
  obtain ⟨u1, u2, u3⟩ := two_put (n := (L.length : Int)) (by omega) h.left
  have hr := h.right
  obtain ⟨g1, g2, g3⟩ := lk_put (C := taC s) (N := taN s) (E := taE s) (fun x hx q hq => ta_put (hn x hx) (hk.sz x hx) hq) hr L.length (Nat.le_refl _)
  rw [List.take_length] at g2 g3
  have e2 : ((p + (putB (L.length : Int) 2).size : Nat) : Int) = (p : Int) + 2 := by omega
  rw [e2] at g1 g2 g3
  have hv : (unsV s p 2).toNat = L.length := by rw [u2]; omega
  have hc : cuE s p 16 = 0 := by unfold cuE; rw [if_pos u1, u2, if_neg (by omega)]
  refine ⟨by unfold asE; rw [if_pos hc, hv]; exact g1, by unfold asL; rw [hv]; exact g2, ?_⟩
  unfold asN asB
  rw [hv, g3, ByteArray.size_append]; omega
theorem tm_put {s : ByteArray} {p : Nat} {m : Mv} (hk : Ask m.l) (hn : (0 ≤ m.f ∧ m.f ≤ 65535) ∧ (0 ≤ m.n ∧ m.n ≤ 65535) ∧ (0 ≤ m.d ∧ m.d ≤ 65535) ∧ ∀ y ∈ m.l, 0 ≤ y.n ∧ y.n ≤ 65535) (h : Sits s p (mvB m)) : tmE s p = 0 ∧ tmC s p = m ∧ tmN s p = p + (mvB m).size := by
  unfold mvB at h
  obtain ⟨u1, u2, u3⟩ := two_put hn.1 h.left.left.left
  obtain ⟨v1, v2, v3⟩ := two_put hn.2.1 h.left.left.right
  have hd := h.left.right
  obtain ⟨w1, w2, w3⟩ := two_put hn.2.2.1 hd
  have ha := h.right
  have z2 : (putB m.f 2 ++ putB m.n 2).size = 4 := by rw [ByteArray.size_append]; omega
  have z3 : (putB m.f 2 ++ putB m.n 2 ++ putB m.d 2).size = 6 := by rw [ByteArray.size_append, z2]; omega
  rw [z3] at ha
  obtain ⟨a1, a2, a3⟩ := as_put hk hn.2.2.2 ha
  rw [show ((p + (putB m.f 2).size : Nat) : Int) = (p : Int) + 2 by omega] at v1 v2
  rw [z2, show ((p + 4 : Nat) : Int) = (p : Int) + 4 by omega] at w1 w2
  rw [show ((p + 6 : Nat) : Int) = (p : Int) + 6 by omega] at a1 a2 a3
  refine ⟨by unfold tmE; rw [if_pos ⟨u1, v1, w1⟩]; exact a1, by unfold tmC; rw [u2, v2, w2, a2], ?_⟩
  unfold tmN mvB
  rw [a3, ByteArray.size_append, z3]; omega
theorem ms_put {s : ByteArray} {p : Nat} {L : List Mv} (hl : L.length ≤ 64) (hk : ∀ m ∈ L, Ask m.l) (hn : ∀ m ∈ L, (0 ≤ m.f ∧ m.f ≤ 65535) ∧ (0 ≤ m.n ∧ m.n ≤ 65535) ∧ (0 ≤ m.d ∧ m.d ≤ 65535) ∧ ∀ y ∈ m.l, 0 ≤ y.n ∧ y.n ≤ 65535) (h : Sits s p (msB L)) : msE s p = 0 ∧ msL s p = L ∧ msN s p = p + (msB L).size := by
  unfold msB at h
  obtain ⟨u1, u2, u3⟩ := two_put (n := (L.length : Int)) (by omega) h.left
  have hr := h.right
  obtain ⟨g1, g2, g3⟩ := lk_put (C := tmC s) (N := tmN s) (E := tmE s) (fun x hx q hq => tm_put (hk x hx) (hn x hx) hq) hr L.length (Nat.le_refl _)
  rw [List.take_length] at g2 g3
  have e2 : ((p + (putB (L.length : Int) 2).size : Nat) : Int) = (p : Int) + 2 := by omega
  rw [e2] at g1 g2 g3
  have hv : (unsV s p 2).toNat = L.length := by rw [u2]; omega
  have hc : cuE s p 64 = 0 := by unfold cuE; rw [if_pos u1, u2, if_neg (by omega)]
  refine ⟨by unfold msE; rw [if_pos hc, hv]; exact g1, by unfold msL; rw [hv]; exact g2, ?_⟩
  unfold msN msB
  rw [hv, g3, ByteArray.size_append]; omega
theorem is_put {s : ByteArray} {p : Nat} {L : List Int} (hl : L.length ≤ 8) (hn : ∀ x ∈ L, 0 ≤ x ∧ x ≤ 65535) (h : Sits s p (putB L.length 2 ++ catB p2B L)) : isE s p = 0 ∧ isL s p = L ∧ isN s p = p + (putB (L.length : Int) 2 ++ catB p2B L).size := by
  obtain ⟨u1, u2, u3⟩ := two_put (n := (L.length : Int)) (by omega) h.left
  have hr := h.right
  obtain ⟨g1, g2, g3⟩ := lk_put (C := nuC s) (N := nuN) (E := nuE s) (f := p2B) (fun x hx q hq => by
    obtain ⟨a1, a2, a3⟩ := two_put (hn x hx) hq
    exact ⟨a1, a2, by show (q : Int) + 2 = q + (putB x 2).size; omega⟩) hr L.length (Nat.le_refl _)
  rw [List.take_length] at g2 g3
  have e2 : ((p + (putB (L.length : Int) 2).size : Nat) : Int) = (p : Int) + 2 := by omega
  rw [e2] at g1 g2 g3
  have hv : (unsV s p 2).toNat = L.length := by rw [u2]; omega
  have hc : cuE s p 8 = 0 := by unfold cuE; rw [if_pos u1, u2, if_neg (by omega)]
  refine ⟨by unfold isE; rw [if_pos hc, hv]; exact g1, by unfold isL; rw [hv]; exact g2, ?_⟩
  unfold isN
  rw [hv, g3, ByteArray.size_append]; omega
theorem fe_parts {v : Fv} (h : feE v = 0) : chE v.p = 0 ∧ v.fit ∧ (feB v).size ≤ 1048576 := by
  unfold feE at h
  split at h
  · rename_i h1
    cases h2 : tmB v with
    | true => rw [h2, if_pos rfl] at h; cases h
    | false =>
      cases h3 : tlB v with
      | true => rw [h2, h3, if_neg (by decide), if_pos rfl] at h; cases h
      | false =>
        rw [h2, h3, if_neg (by decide), if_neg (by decide)] at h
        split at h
        · cases h
        · exact ⟨h1, fit_of h2 h3, by omega⟩
  · rename_i h1; exact absurd h h1
theorem pre_head (x : ByteArray) : Lib.hasPrefix (hdB ++ x).data.toList hdB.data.toList = true := by
  unfold Lib.hasPrefix
  rw [List.isPrefixOf_iff_prefix]
  exact ⟨x.data.toList, by simp⟩
/-- decoding what was encoded, with bytes behind it -/
theorem rt_file {v : Fv} (h : feE v = 0) (hr : ∀ c ∈ v.p, Rng c) (y : ByteArray) : (fdV (feB v ++ y) = v) ∧ ((feB v ++ y).size ≤ 1048576 → fdE (feB v ++ y) = if y.size = 0 then 0 else 10) := by
  obtain ⟨h1, ft, h3⟩ := fe_parts h
  obtain ⟨R, hR⟩ : ∃ R, putB v.f 2 ++ (putB v.t 2 ++ (putB v.s 2 ++ ((putB v.i.length 2 ++ catB p2B v.i) ++ (msB v.m ++ (msB v.g ++ asB v.a))))) = R := ⟨_, rfl⟩
  have hfe : feB v = hdB ++ encS v.p ++ R := by
    rw [← hR]
    unfold feB
    simp only [ByteArray.append_assoc]
  have hs : feB v ++ y = hdB ++ encS v.p ++ (R ++ y) := by rw [hfe, ByteArray.append_assoc]
  obtain ⟨d1, d2, d3, _⟩ := dec_enc h1 hr hdB (R ++ y)
  have hhd : hdB.size = 6 := rfl
  have hsit : Sits (feB v ++ y) (6 + (encS v.p).size) R := by
    have := sits_mid (hdB ++ encS v.p) R y
    rw [← hfe, ByteArray.size_append, hhd] at this
    exact this
  have hpre : Lib.hasPrefix (feB v ++ y).data.toList hdB.data.toList = true := by
    rw [hs, ByteArray.append_assoc]; exact pre_head _
  rw [← hs, hhd] at d1 d2 d3
  have hsize : (feB v ++ y).size = 6 + (encS v.p).size + R.size + y.size := by rw [hs]; simp only [ByteArray.size_append]; rw [hhd]; omega
  generalize feB v ++ y = S at *
  obtain ⟨P, hP⟩ : ∃ P : Nat, 6 + (encS v.p).size = P := ⟨_, rfl⟩
  rw [hP] at hsit hsize
  have hd2 : deN S 6 = (P : Int) := by rw [show (6 : Int) = ((6 : Nat) : Int) from rfl, d2]; omega
  have hd1 : deL S 6 = v.p := d1
  have hd3 : deE S 6 = 0 := d3
  clear d1 d2 d3 hs hfe
  rw [← hR] at hsit hsize
  obtain ⟨n1, n2, n3⟩ := ft.n3
  obtain ⟨a1, a2, a3⟩ := two_put n1 hsit.left
  have s2 := hsit.right
  obtain ⟨b1, b2, b3⟩ := two_put n2 s2.left
  have s3 := s2.right
  obtain ⟨c1, c2, c3⟩ := two_put n3 s3.left
  have s4 := s3.right
  obtain ⟨i1, i2, i3⟩ := is_put ft.i ft.ni s4.left
  have s5 := s4.right
  obtain ⟨m1, m2, m3⟩ := ms_put ft.m ft.mk' ft.nm s5.left
  have s6 := s5.right
  obtain ⟨g1, g2, g3⟩ := ms_put ft.g ft.gk' ft.ng s6.left
  have s7 := s6.right
  obtain ⟨t1, t2, t3⟩ := as_put ft.ak' ft.na s7
  have e1 : ((P + (putB v.f 2).size : Nat) : Int) = (P : Int) + 2 := by omega
  have e2 : ((P + (putB v.f 2).size + (putB v.t 2).size : Nat) : Int) = (P : Int) + 4 := by omega
  have e3 : ((P + (putB v.f 2).size + (putB v.t 2).size + (putB v.s 2).size : Nat) : Int) = (P : Int) + 6 := by omega
  rw [e1] at b1 b2
  rw [e2] at c1 c2
  rw [e3] at i1 i2 i3
  obtain ⟨Q4, hQ4⟩ : ∃ Q4 : Nat, P + (putB v.f 2).size + (putB v.t 2).size + (putB v.s 2).size + (putB (v.i.length : Int) 2 ++ catB p2B v.i).size = Q4 := ⟨_, rfl⟩
  rw [hQ4] at m1 m2 m3 g1 g2 g3 t1 t2 t3
  have f4 : isN S ((P : Int) + 6) = (Q4 : Int) := by rw [i3]; omega
  have f5 : msN S (isN S ((P : Int) + 6)) = ((Q4 + (msB v.m).size : Nat) : Int) := by rw [f4, m3]; omega
  have f6 : msN S (msN S (isN S ((P : Int) + 6))) = ((Q4 + (msB v.m).size + (msB v.g).size : Nat) : Int) := by rw [f5, g3]; omega
  have f7 : asN S (msN S (msN S (isN S ((P : Int) + 6)))) = ((Q4 + (msB v.m).size + (msB v.g).size : Nat) : Int) + (asB v.a).size := by rw [f6, t3]
  rw [← f4] at m1 m2
  rw [← f5] at g1 g2
  rw [← f6] at t1 t2
  have hq := hQ4
  simp only [ByteArray.size_append] at hsize hq
  refine ⟨?_, fun hsz => ?_⟩
  · unfold fdV
    rw [hd1, hd2, a2, b2, c2, i2, m2, g2, t2]
  · unfold fdE
    rw [if_neg (by omega), if_pos hpre, if_pos hd3, hd2]
    unfold bdE
    rw [if_pos ⟨a1, b1, c1⟩, if_pos i1, if_pos m1, if_pos g1, if_pos t1, f7]
    by_cases hy : y.size = 0
    · rw [if_pos hy, if_neg (by omega)]
    · rw [if_neg hy, if_pos (by omega)]

end Go.Proofs.YthfegbhbokhlkaaDoor

/- Gs -/
/- Layer 11: a class file as a parameter hands it over, opened. -/
namespace Go.Proofs.YthfegbhbokhlkaaDoor
open Go.ChangeShapes Go.WideShapes Go.ChangeAt Go.RowKit Go.Deep
set_option linter.unusedSimpArgs false
set_option linter.unusedVariables false

theorem cellsAt : Tryd.prog.cellsOf 81 = 2 := by kernel_rfl
theorem cellsMb : Tryd.prog.cellsOf 41 = 4 := by kernel_rfl
theorem cellsFi : Tryd.prog.cellsOf 27 = 8 := by kernel_rfl
theorem cellsPs : Tryd.prog.cellsOf 22 = 1 := by kernel_rfl
theorem cellsIs : Tryd.prog.cellsOf 23 = 1 := by kernel_rfl
theorem cellsMs : Tryd.prog.cellsOf 24 = 1 := by kernel_rfl
theorem cellsAs : Tryd.prog.cellsOf 25 = 1 := by kernel_rfl
theorem bytesAt : Tryd.prog.bytesOf 81 = 24 := by kernel_rfl
theorem list2G {α : Type} : ∀ (l : List α), l.length = 2 → ∃ a b, l = [a, b]
  | [a, b], _ => ⟨a, b, rfl⟩
theorem list4G {α : Type} : ∀ (l : List α), l.length = 4 → ∃ a b c d, l = [a, b, c, d]
  | [a, b, c, d], _ => ⟨a, b, c, d, rfl⟩
theorem list8G {α : Type} : ∀ (l : List α), l.length = 8 → ∃ a b c d e f g h, l = [a, b, c, d, e, f, g, h]
  | [a, b, c, d, e, f, g, h], _ => ⟨a, b, c, d, e, f, g, h, rfl⟩
section
variable {H : Type} {enc : TypeId × Value → H} {w : World} {base : Nat} {spare : Nat → Bool} {held : Bool}
set_option maxRecDepth 100000 in
theorem open_rows {α : Type} {e t : TypeId} {F : α → List Value} {z by' : Nat} (d0 : α) (hu : Tryd.prog.underlying t = some (.slice e)) (hz : Tryd.prog.cellsOf e = z) (hb' : Tryd.prog.bytesOf e = by') (h0 : 0 < z) (hlen : ∀ x, (F x).length = z) (Pr : α → DataW H → Prop)
    (hop : ∀ (fuel : Nat) (cs : List Value) (x : DataW H × List MemPlace), DataW.trod enc Tryd.prog w base spare held fuel e cs = some x → ∃ p, cs = F p ∧ Pr p x.1) {fuel : Nat} {cs : List Value} {x : DataW H × List MemPlace} (h : DataW.trod enc Tryd.prog w base spare held fuel t cs = some x) :
    ∃ (A : Option Addr) (n c : Nat) (L : List α), cs = [.slice A n c] ∧ L.length = n ∧ RowAt F z w A L ∧ (∀ p ∈ L, ∃ d, Pr p d ∧ ∀ q ∈ d.weights Tryd.prog e, q ∈ x.1.weights Tryd.prog t) ∧ (n = 0 ∨ ∃ q ∈ x.1.weights Tryd.prog t, n * by' ≤ q) := by
  rcases open_slice hu h with ⟨rfl, _⟩ | ⟨a, len, cap, m, n, D, Pl, rfl, hb, hl, hm, hmm, hx, hi⟩
  · exact ⟨none, 0, 0, [], rfl, rfl, Or.inl rfl, fun p hp => (by cases hp), Or.inl rfl⟩
  · have hlm : len ≤ m := by rw [hmm]; split <;> omega
    have key : ∀ i, i < len → ∃ p : α, (∀ j v, (F p)[j]? = some v → w.cell? (a.add (i * z + j)) = some v) ∧ ∃ d, Pr p d ∧ ∀ q ∈ d.weights Tryd.prog e, q ∈ x.1.weights Tryd.prog t := by
      intro i hil
      obtain ⟨cs', hc, ht⟩ := hi i (by omega)
      rw [hz] at hc
      obtain ⟨p, rfl, hp⟩ := hop _ _ _ ht
      obtain ⟨_, _, hat⟩ := World.cells?_some hc
      refine ⟨p, fun j v hv => ?_, _, hp, fun q hq => ?_⟩
      · have hj : j < z := by
          rcases Nat.lt_or_ge j z with h | h
          · exact h
          · rw [List.getElem?_eq_none (by rw [hlen]; exact h)] at hv; cases hv
        have := hat j hj
        rw [add_add] at this
        rw [this, hv]
      · rw [hx]
        have h9 := wts_all (P := Tryd.prog) (e := e) (List.mem_map.2 ⟨i, List.mem_range.2 hil, rfl⟩ : D i ∈ (List.range len).map D) hq
        simp only [DataW.weights, hu, List.mem_cons, List.mem_append]
        exact Or.inr (Or.inl h9)
    obtain ⟨f, hf⟩ : ∃ f : Nat → α, ∀ i, i < len → (∀ j v, (F (f i))[j]? = some v → w.cell? (a.add (i * z + j)) = some v) ∧ ∃ d, Pr (f i) d ∧ ∀ q ∈ d.weights Tryd.prog e, q ∈ x.1.weights Tryd.prog t :=
      ⟨fun i => if hi : i < len then (key i hi).choose else d0, fun i hi => by
        simp only [dif_pos hi]
        exact (key i hi).choose_spec⟩
    refine ⟨some a, len, cap, (List.range len).map f, rfl, by simp, ?_, ?_, ?_⟩
    · rcases Nat.eq_zero_or_pos len with h0' | h0'
      · exact Or.inl (by rw [h0']; rfl)
      · obtain ⟨v0, hv0⟩ : ∃ v0, (F (f 0))[0]? = some v0 := ⟨(F (f 0))[0]'(by rw [hlen]; exact h0), List.getElem?_eq_getElem _⟩
        have c0 := (hf 0 h0').1 0 _ hv0
        obtain ⟨g, o, sp⟩ := a
        have hsp : sp = none := by
          have := World.cell?_spot c0
          simpa [Addr.add] using this
        subst hsp
        refine Or.inr ⟨g, o, rfl, ?_, fun i p hp => ?_⟩
        · have := cell_lt c0
          rw [Addr.add_lit] at this
          exact this
        · have hil : i < len := by
            rcases Nat.lt_or_ge i len with h | h
            · exact h
            · rw [List.getElem?_eq_none (by simpa using h)] at hp; cases hp
          rw [List.getElem?_map, List.getElem?_range hil] at hp
          obtain rfl : f i = p := Option.some.inj hp
          intro q v hv
          have := (hf i hil).1 q v hv
          rw [Addr.add_lit] at this
          rw [show o + i * z + q = o + (i * z + q) by omega]
          exact this
    · intro p hp
      rw [List.mem_map] at hp
      obtain ⟨j, hj, rfl⟩ := hp
      exact (hf j (List.mem_range.1 hj)).2
    · refine Or.inr ⟨(len + (m - len)) * by', ?_, Nat.mul_le_mul_right _ (Nat.le_add_right _ _)⟩
      rw [hx]
      simp only [DataW.weights, hu, hb', List.length_map, List.length_range]
      exact List.mem_cons_self
set_option maxRecDepth 100000 in
theorem open_at {fuel : Nat} {cs : List Value} {x : DataW H × List MemPlace} (h : DataW.trod enc Tryd.prog w base spare held fuel 81 cs = some x) : ∃ p : Atr, cs = aF p ∧ True := by
  obtain ⟨xs, n, _, _, hl, hxl, hg⟩ := DataW.trod_struct Tryd.underlying81 h
  have h0 := hg 0 _ rfl
  have h1 := hg 1 _ rfl
  rw [cellsAt] at hl
  obtain ⟨v0, v1, rfl⟩ := list2G cs hl
  obtain ⟨y0, y1, rfl⟩ := list2G xs hxl
  change DataW.trod enc Tryd.prog w base spare held n 3 (List.take (Tryd.prog.cellsOf 3) [v0, v1]) = some y0 at h0
  rw [cellsI] at h0
  change DataW.trod enc Tryd.prog w base spare held n 9 (List.take (Tryd.prog.cellsOf 9) [v1]) = some y1 at h1
  rw [cellsS] at h1
  obtain ⟨a0, e0, _, _⟩ := DataW.trod_int Tryd.underlying3 h0
  obtain ⟨a1, e1, _, _⟩ := DataW.trod_string Tryd.underlying9 h1
  simp at e0 e1
  subst e0 e1
  exact ⟨⟨a0, a1⟩, rfl, trivial⟩
/-- what is known of a member that came in -/
def MbP (w : World) (P : Program) (t : TypeId) (m : Mb) (d : DataW H) : Prop := m.ok w ∧ (m.k = 0 ∨ ∃ q ∈ d.weights P t, m.k * 24 ≤ q)
set_option maxRecDepth 100000 in
theorem open_mb {fuel : Nat} {cs : List Value} {x : DataW H × List MemPlace} (h : DataW.trod enc Tryd.prog w base spare held fuel 41 cs = some x) : ∃ p : Mb, cs = mF p ∧ MbP w Tryd.prog 41 p x.1 := by
  obtain ⟨xs, n, _, ex, hl, hxl, hg⟩ := DataW.trod_struct Tryd.underlying41 h
  have h0 := hg 0 _ rfl
  have h1 := hg 1 _ rfl
  have h2 := hg 2 _ rfl
  have h3 := hg 3 _ rfl
  rw [cellsMb] at hl
  obtain ⟨v0, v1, v2, v3, rfl⟩ := list4G cs hl
  obtain ⟨y0, y1, y2, y3, rfl⟩ := list4G xs hxl
  change DataW.trod enc Tryd.prog w base spare held n 3 (List.take (Tryd.prog.cellsOf 3) [v0, v1, v2, v3]) = some y0 at h0
  change DataW.trod enc Tryd.prog w base spare held n 3 (List.take (Tryd.prog.cellsOf 3) [v1, v2, v3]) = some y1 at h1
  change DataW.trod enc Tryd.prog w base spare held n 3 (List.take (Tryd.prog.cellsOf 3) [v2, v3]) = some y2 at h2
  change DataW.trod enc Tryd.prog w base spare held n 25 (List.take (Tryd.prog.cellsOf 25) [v3]) = some y3 at h3
  rw [cellsI] at h0 h1 h2
  rw [cellsAs] at h3
  obtain ⟨a0, e0, _, _⟩ := DataW.trod_int Tryd.underlying3 h0
  obtain ⟨a1, e1, _, _⟩ := DataW.trod_int Tryd.underlying3 h1
  obtain ⟨a2, e2, _, _⟩ := DataW.trod_int Tryd.underlying3 h2
  obtain ⟨A3, n3, c3, L3, e3, l3, r3, _, q3⟩ := open_rows (⟨0, ⟨#[]⟩⟩ : Atr) Tryd.underlying25 cellsAt bytesAt (by decide) aF_len (fun _ _ => True) (fun _ _ _ h => open_at h) h3
  simp at e0 e1 e2 e3
  subst e0 e1 e2 e3
  refine ⟨⟨a0, a1, a2, A3, n3, c3, L3⟩, rfl, ⟨l3, r3⟩, ?_⟩
  rcases q3 with h0 | ⟨q, hq, hle⟩
  · exact Or.inl h0
  · refine Or.inr ⟨q, ?_, hle⟩
    subst ex
    show q ∈ DataW.weights Tryd.prog 41 (.agg [y0.1, y1.1, y2.1, y3.1])
    simp only [DataW.weights, Tryd.underlying41]
    exact DataW.weights_mem_each (j := 3) rfl rfl _ hq
theorem open_i {fuel : Nat} {cs : List Value} {x : DataW H × List MemPlace} (h : DataW.trod enc Tryd.prog w base spare held fuel 3 cs = some x) : ∃ p : Int, cs = iF p ∧ True := by
  obtain ⟨a0, e0, _, _⟩ := DataW.trod_int Tryd.underlying3 h
  exact ⟨a0, e0, trivial⟩
/-- what is known of a file that came in; W its weights -/
structure FiP (w : World) (W : List Nat) (F : Fi) : Prop where
  ok : F.ok w
  ps : ∀ c ∈ F.p, c.s.size ∈ W
  pr : ∀ c ∈ F.p, Rng c
  mk' : ∀ x ∈ F.m, x.k = 0 ∨ ∃ q ∈ W, x.k * 24 ≤ q
  gk' : ∀ x ∈ F.g, x.k = 0 ∨ ∃ q ∈ W, x.k * 24 ≤ q
theorem bytesI : ∃ n, Tryd.prog.bytesOf 3 = n := ⟨_, rfl⟩
theorem bytesMb : ∃ n, Tryd.prog.bytesOf 41 = n := ⟨_, rfl⟩
set_option maxRecDepth 100000 in
set_option maxHeartbeats 1000000 in
theorem open_file {fuel : Nat} {cs : List Value} {x : DataW H × List MemPlace} (h : DataW.trod enc Tryd.prog w base spare held fuel 27 cs = some x) : ∃ F : Fi, cs = [.slice F.pA F.pn F.pc, .int .i64 F.f, .int .i64 F.t, .int .i64 F.s, .slice F.iA F.ij F.ic, .slice F.mA F.mj F.mc, .slice F.gA F.gj F.gc, .slice F.aA F.aj F.ac] ∧ FiP w (DataW.weights Tryd.prog 27 x.1) F := by
  obtain ⟨xs, n, _, ex, hl, hxl, hg⟩ := DataW.trod_struct Tryd.underlying27 h
  have h0 := hg 0 _ rfl
  have h1 := hg 1 _ rfl
  have h2 := hg 2 _ rfl
  have h3 := hg 3 _ rfl
  have h4 := hg 4 _ rfl
  have h5 := hg 5 _ rfl
  have h6 := hg 6 _ rfl
  have h7 := hg 7 _ rfl
  rw [cellsFi] at hl
  obtain ⟨v0, v1, v2, v3, v4, v5, v6, v7, rfl⟩ := list8G cs hl
  obtain ⟨y0, y1, y2, y3, y4, y5, y6, y7, rfl⟩ := list8G xs hxl
  change DataW.trod enc Tryd.prog w base spare held n 22 (List.take (Tryd.prog.cellsOf 22) [v0, v1, v2, v3, v4, v5, v6, v7]) = some y0 at h0
  change DataW.trod enc Tryd.prog w base spare held n 3 (List.take (Tryd.prog.cellsOf 3) [v1, v2, v3, v4, v5, v6, v7]) = some y1 at h1
  change DataW.trod enc Tryd.prog w base spare held n 3 (List.take (Tryd.prog.cellsOf 3) [v2, v3, v4, v5, v6, v7]) = some y2 at h2
  change DataW.trod enc Tryd.prog w base spare held n 3 (List.take (Tryd.prog.cellsOf 3) [v3, v4, v5, v6, v7]) = some y3 at h3
  change DataW.trod enc Tryd.prog w base spare held n 23 (List.take (Tryd.prog.cellsOf 23) [v4, v5, v6, v7]) = some y4 at h4
  change DataW.trod enc Tryd.prog w base spare held n 24 (List.take (Tryd.prog.cellsOf 24) [v5, v6, v7]) = some y5 at h5
  change DataW.trod enc Tryd.prog w base spare held n 24 (List.take (Tryd.prog.cellsOf 24) [v6, v7]) = some y6 at h6
  change DataW.trod enc Tryd.prog w base spare held n 25 (List.take (Tryd.prog.cellsOf 25) [v7]) = some y7 at h7
  rw [cellsPs] at h0
  rw [cellsI] at h1 h2 h3
  rw [cellsIs] at h4
  rw [cellsMs] at h5 h6
  rw [cellsAs] at h7
  obtain ⟨A0, n0, c0, L0, e0, l0, k0, r0, q0⟩ := open_pool_wr h0
  obtain ⟨a1, e1, _, _⟩ := DataW.trod_int Tryd.underlying3 h1
  obtain ⟨a2, e2, _, _⟩ := DataW.trod_int Tryd.underlying3 h2
  obtain ⟨a3, e3, _, _⟩ := DataW.trod_int Tryd.underlying3 h3
  obtain ⟨bI, hbI⟩ := bytesI
  obtain ⟨bM, hbM⟩ := bytesMb
  obtain ⟨A4, n4, c4, L4, e4, l4, r4, _, _⟩ := open_rows (0 : Int) Tryd.underlying23 cellsI hbI (by decide) iF_len (fun _ _ => True) (fun _ _ _ h => open_i h) h4
  obtain ⟨A5, n5, c5, L5, e5, l5, r5, q5, _⟩ := open_rows (⟨0, 0, 0, none, 0, 0, []⟩ : Mb) Tryd.underlying24 cellsMb hbM (by decide) mF_len (MbP w Tryd.prog 41) (fun _ _ _ h => open_mb h) h5
  obtain ⟨A6, n6, c6, L6, e6, l6, r6, q6, _⟩ := open_rows (⟨0, 0, 0, none, 0, 0, []⟩ : Mb) Tryd.underlying24 cellsMb hbM (by decide) mF_len (MbP w Tryd.prog 41) (fun _ _ _ h => open_mb h) h6
  obtain ⟨A7, n7, c7, L7, e7, l7, r7, _, _⟩ := open_rows (⟨0, ⟨#[]⟩⟩ : Atr) Tryd.underlying25 cellsAt bytesAt (by decide) aF_len (fun _ _ => True) (fun _ _ _ h => open_at h) h7
  simp at e0 e1 e2 e3 e4 e5 e6 e7
  subst e0 e1 e2 e3 e4 e5 e6 e7
  have hw : ∀ (j : Nat) (y : DataW H × List MemPlace) (t : TypeId) (q : Nat), [y0, y1, y2, y3, y4, y5, y6, y7][j]? = some y → [22, 3, 3, 3, 23, 24, 24, 25][j]? = some t → q ∈ y.1.weights Tryd.prog t → q ∈ x.1.weights Tryd.prog 27 := by
    intro j y t q hy ht hq
    subst ex
    show q ∈ DataW.weights Tryd.prog 27 (.agg [y0.1, y1.1, y2.1, y3.1, y4.1, y5.1, y6.1, y7.1])
    simp only [DataW.weights, Tryd.underlying27]
    rcases j with _ | _ | _ | _ | _ | _ | _ | _ | j
    · cases hy; cases ht; exact DataW.weights_mem_each (j := 0) rfl rfl _ hq
    · cases hy; cases ht; exact DataW.weights_mem_each (j := 1) rfl rfl _ hq
    · cases hy; cases ht; exact DataW.weights_mem_each (j := 2) rfl rfl _ hq
    · cases hy; cases ht; exact DataW.weights_mem_each (j := 3) rfl rfl _ hq
    · cases hy; cases ht; exact DataW.weights_mem_each (j := 4) rfl rfl _ hq
    · cases hy; cases ht; exact DataW.weights_mem_each (j := 5) rfl rfl _ hq
    · cases hy; cases ht; exact DataW.weights_mem_each (j := 6) rfl rfl _ hq
    · cases hy; cases ht; exact DataW.weights_mem_each (j := 7) rfl rfl _ hq
    · simp at hy
  refine ⟨⟨L0, A0, n0, c0, a1, a2, a3, L4, A4, n4, c4, L5, A5, n5, c5, L6, A6, n6, c6, L7, A7, n7, c7⟩, rfl, ?_⟩
  refine ⟨⟨l0, r0, l4, r4, l5, r5, fun m hm => (q5 m hm).elim fun d hd => hd.1.1, l6, r6, fun m hm => (q6 m hm).elim fun d hd => hd.1.1, l7, r7⟩, fun c hc => hw 0 y0 _ _ rfl rfl (q0 c hc).1, fun c hc => (q0 c hc).2, fun m hm => ?_, fun m hm => ?_⟩
  · obtain ⟨d, hd, hq⟩ := q5 m hm
    rcases hd.2 with h | ⟨q, h1, h2⟩
    · exact Or.inl h
    · exact Or.inr ⟨q, hw 5 y5 _ _ rfl rfl (hq q h1), h2⟩
  · obtain ⟨d, hd, hq⟩ := q6 m hm
    rcases hd.2 with h | ⟨q, h1, h2⟩
    · exact Or.inl h
    · exact Or.inr ⟨q, hw 6 y6 _ _ rfl rfl (hq q h1), h2⟩
set_option maxRecDepth 100000 in
theorem open_file_of {r : Reach} {b0 : Nat} {v : Value} {d : DataW H} {q : List MemPlace} (hv : Value.okWide Tryd.prog w r b0 27 v) (h : DataW.Trod enc Tryd.prog w base spare held 27 v d q) :
    ∃ F : Fi, v = F.val ∧ FiP w (DataW.weights Tryd.prog 27 d) F := by
  obtain ⟨cs, rfl, hsz⟩ := okWide_struct Tryd.underlying27 hv
  obtain ⟨fuel, hf⟩ := h
  obtain ⟨u, e, hu⟩ := open_file hf
  refine ⟨u, ?_, hu⟩
  have e' : cs.toList = [.slice u.pA u.pn u.pc, .int .i64 u.f, .int .i64 u.t, .int .i64 u.s, .slice u.iA u.ij u.ic, .slice u.mA u.mj u.mc, .slice u.gA u.gj u.gc, .slice u.aA u.aj u.ac] := by simpa [Value.cells] using e
  have : cs = #[.slice u.pA u.pn u.pc, .int .i64 u.f, .int .i64 u.t, .int .i64 u.s, .slice u.iA u.ij u.ic, .slice u.mA u.mj u.mc, .slice u.gA u.gj u.gc, .slice u.aA u.aj u.ac] := by rw [← Array.toList_inj, e']
  rw [this]
  rfl
end

end Go.Proofs.YthfegbhbokhlkaaDoor

/- Gt -/
/- Layer 11: small. (gen/gt.py) -/
namespace Go.Proofs.YthfegbhbokhlkaaDoor
open Go.ChangeShapes Go.WideShapes Go.ChangeAt Go.RowKit Go.PlainAid
set_option linter.unusedSimpArgs false
set_option linter.unusedVariables false

def SmRet (w : World) (F : Fi) (e : Ending) (w' : World) : Prop := ∃ b : Bool, e = .returned (.bool b) ∧ (b = true → F.few ∧ F.pn ≤ 60) ∧ Below w.heap.size w w'
set_option maxRecDepth 100000 in
set_option maxHeartbeats 2000000 in
theorem small_any (F : Fi) (w : World) (h : F.ok w) (hm : ∀ x ∈ F.m, x.k ≤ 5864062014805) (hg : ∀ x ∈ F.g, x.k ≤ 5864062014805) : Calls Tryd.prog 6 #[F.val] w (SmRet w F) := by
  obtain ⟨Q, hQ⟩ : ∃ Q, SmRet w F = Q := ⟨_, rfl⟩
  have HQ := Lib.hid hQ
  rw [hQ]
  clear hQ
  have OK := Lib.hid h
  have HM := Lib.hid hm
  have HG := Lib.hid hg
  obtain ⟨p, pA, pn, pc, f, t, s, i, iA, ij, ic, m, mA, mj, mc, g, gA, gj, gc, a, aA, aj, ac⟩ := F
  unfold Fi.val
  simp only
  have hB := below_al (Below.refl _ w) (.cells #[.slice pA pn pc, .int .i64 f, .int .i64 t, .int .i64 s, .slice iA ij ic, .slice mA mj mc, .slice gA gj gc, .slice aA aj ac] 27)
  have HR1 := Lib.hid (h.mp.up hB)
  have HR2 := Lib.hid (h.gp.up hB)
  clear h hm hg
  by_cases c0 : 60 < pn
  · have c0' : (60 : Int) < (pn : Int) := by omega
    go_enter Tryd.func6, Tryd.ntmps6
    go_wp2
    rw [← HQ.out]
    exact ⟨false, rfl, fun h => (by cases h), hB⟩
  have c0' : ¬ (60 : Int) < (pn : Int) := by omega
  by_cases c1 : 80 < mj
  · have c1' : (80 : Int) < (mj : Int) := by omega
    go_enter Tryd.func6, Tryd.ntmps6
    go_wp2
    rw [← HQ.out]
    exact ⟨false, rfl, fun h => (by cases h), hB⟩
  have c1' : ¬ (80 : Int) < (mj : Int) := by omega
  by_cases c2 : 80 < gj
  · have c2' : (80 : Int) < (gj : Int) := by omega
    go_enter Tryd.func6, Tryd.ntmps6
    go_wp2
    rw [← HQ.out]
    exact ⟨false, rfl, fun h => (by cases h), hB⟩
  have c2' : ¬ (80 : Int) < (gj : Int) := by omega
  by_cases c3 : 20 < aj
  · have c3' : (20 : Int) < (aj : Int) := by omega
    go_enter Tryd.func6, Tryd.ntmps6
    go_wp2
    rw [← HQ.out]
    exact ⟨false, rfl, fun h => (by cases h), hB⟩
  have c3' : ¬ (20 : Int) < (aj : Int) := by omega
  by_cases c4 : 20 < ij
  · have c4' : (20 : Int) < (ij : Int) := by omega
    go_enter Tryd.func6, Tryd.ntmps6
    go_wp2
    rw [← HQ.out]
    exact ⟨false, rfl, fun h => (by cases h), hB⟩
  have c4' : ¬ (20 : Int) < (ij : Int) := by omega
  go_enter Tryd.func6, Tryd.ntmps6
  go_wp2
  go_loop [3, 4] (fun z i => ∃ (k S : Nat), k ≤ mj ∧ i = .int .i64 k ∧ z = .int .i64 S ∧ S ≤ k * 5864062014805 ∧ ∀ x ∈ m.take k, x.k ≤ S) (fun _ i => mj - (intOf i).toNat)
  case atStart => exact ⟨0, 0, Nat.zero_le _, rfl, rfl, by omega, fun x hx => (by simp at hx)⟩
  case round =>
    obtain ⟨k, S, hkn, rfl, rfl, hS, hall⟩ := hrel
    have HA := Lib.hid hall
    clear hall
    by_cases hlt : k < mj
    · obtain ⟨r, hr⟩ : ∃ r, m[k]? = some r := ⟨m[k]'(by rw [OK.out.ml]; exact hlt), List.getElem?_eq_getElem _⟩
      obtain ⟨g', o', hAA, hg', hcell⟩ := HR1.out.get hr
      subst hAA
      have a3 := hcell 3 _ rfl
      have hrk := HM.out r (List.mem_of_getElem? hr)
      have hk0 : (0 : Int) ≤ (k : Int) := by omega
      have hk1 : (k : Int) < (mj : Int) := by omega
      have HRK := Lib.hid hr
      clear hcell hr
      go_wp2
      go_round
      case rel => exact ⟨k + 1, S + r.k, by omega, by go_num, by go_num, by omega, fun x hx => by
        rw [List.take_add_one, HRK.out] at hx
        rcases List.mem_append.1 hx with h | h
        · have := HA.out x h; omega
        · simp at h; subst h; omega⟩
      case measure => simp [intOf]; omega
    · obtain rfl : k = mj := by omega
      have hall : ∀ x ∈ m, x.k ≤ S := fun x hx => HA.out x (by rw [List.take_of_length_le (by have := OK.out.ml; simp only at this; omega)]; exact hx)
      have HA1 := Lib.hid hall
      clear hall HA
      go_wp2
      go_loop [3, 5] (fun z i => ∃ (k' S' : Nat), k' ≤ gj ∧ i = .int .i64 k' ∧ z = .int .i64 S' ∧ S' ≤ (k + k') * 5864062014805 ∧ S ≤ S' ∧ ∀ x ∈ g.take k', x.k ≤ S') (fun _ i => gj - (intOf i).toNat)
      case atStart => exact ⟨0, S, Nat.zero_le _, rfl, rfl, by omega, Nat.le_refl _, fun x hx => (by simp at hx)⟩
      case round =>
        obtain ⟨k', S', hkn', rfl, rfl, hS', hSS, hall⟩ := hrel
        have HA := Lib.hid hall
        clear hall
        by_cases hlt : k' < gj
        · obtain ⟨r, hr⟩ : ∃ r, g[k']? = some r := ⟨g[k']'(by rw [OK.out.gl]; exact hlt), List.getElem?_eq_getElem _⟩
          obtain ⟨g', o', hAA, hg', hcell⟩ := HR2.out.get hr
          subst hAA
          have a3 := hcell 3 _ rfl
          have hrk := HG.out r (List.mem_of_getElem? hr)
          have hk0 : (0 : Int) ≤ (k' : Int) := by omega
          have hk1 : (k' : Int) < (gj : Int) := by omega
          have HRK := Lib.hid hr
          clear hcell hr
          go_wp2
          go_round
          case rel => exact ⟨k' + 1, S' + r.k, by omega, by go_num, by go_num, by omega, by omega, fun x hx => by
            rw [List.take_add_one, HRK.out] at hx
            rcases List.mem_append.1 hx with h | h
            · have := HA.out x h; omega
            · simp at h; subst h; omega⟩
          case measure => simp [intOf]; omega
        · obtain rfl : k' = gj := by omega
          have hall : ∀ x ∈ g, x.k ≤ S' := fun x hx => HA.out x (by rw [List.take_of_length_le (by have := OK.out.gl; simp only at this; omega)]; exact hx)
          have HA2 := Lib.hid hall
          clear hall HA
          have hfin : SmRet w ⟨p, pA, pn, pc, f, t, s, i, iA, ij, ic, m, mA, k, mc, g, gA, k', gc, a, aA, aj, ac⟩ (.returned (.bool (decide ((S' : Int) ≤ 60)))) (w.alloc (.cells #[.slice pA pn pc, .int .i64 f, .int .i64 t, .int .i64 s, .slice iA ij ic, .slice mA k mc, .slice gA k' gc, .slice aA aj ac] 27)) := ⟨_, rfl, fun hb => by
            have h60 : (S' : Int) ≤ 60 := of_decide_eq_true hb
            exact ⟨⟨by show ij ≤ 100; omega, by show k ≤ 100; omega, by show k' ≤ 100; omega, by show aj ≤ 100; omega, fun x hx => by have := HA1.out x hx; omega, fun x hx => by have := HA2.out x hx; omega⟩, by show pn ≤ 60; omega⟩, hB⟩
          have HFIN := Lib.hid hfin
          clear hfin
          go_wp2
          rw [← HQ.out]
          exact HFIN.out

end Go.Proofs.YthfegbhbokhlkaaDoor

/- Gu -/
/- Layer 11: the laws FileRoundTrip, FileComplete. (gen/gu.py) -/
namespace Go.Proofs.YthfegbhbokhlkaaDoor
open Go.ChangeShapes Go.WideShapes Go.ChangeAt Go.RowKit Go.PlainAid
set_option linter.unusedSimpArgs false
set_option linter.unusedVariables false

theorem sgn_rng {z n : Int} (hz : okSize z) (hn : -9223372036854775808 ≤ n ∧ n ≤ 9223372036854775807) : -9223372036854775808 ≤ sgn z n ∧ sgn z n ≤ 9223372036854775807 := by
  unfold sgn
  split
  · omega
  · split
    · omega
    · split <;> omega
theorem sig_rng (s : ByteArray) (p z : Int) (hz : okSize z) : -9223372036854775808 ≤ sigV s p z ∧ sigV s p z ≤ 9223372036854775807 := by
  unfold sigV
  refine sgn_rng hz ?_
  unfold unsV
  split
  · exact rdU_bd _ _
  · omega
theorem dc_rng (s : ByteArray) (p : Int) : Rng (dcC s p) := by
  unfold Rng dcC
  split
  · simp
  · split
    · exact sig_rng s (p + 1) 4 ok4
    · split
      · exact sig_rng s (p + 1) 8 ok8
      · split <;> simp
theorem dk_rng (s : ByteArray) (p : Int) : ∀ k, ∀ c ∈ dkL s p k, Rng c
  | 0, c, hc => by cases hc
  | k + 1, c, hc => by
    rw [dkL_snoc] at hc
    rcases List.mem_append.1 hc with h | h
    · exact dk_rng s p k c h
    · have : c = dcC s (dkN s p k) := by simpa using h
      rw [this]; exact dc_rng _ _
theorem de_rng {s : ByteArray} {p : Int} (h : deE s p = 0) : ∀ c ∈ deL s p, Rng c := by
  obtain ⟨h1, h2, h3, h4⟩ := de_zero h
  rw [(de_5 h1 h2 h3 h4).1]
  exact dk_rng s _ _
theorem app_nil (x : ByteArray) : x ++ ⟨#[]⟩ = x := ByteArray.append_empty
theorem rt_same {v : Fv} (h : feE v = 0) (hr : ∀ c ∈ v.p, Rng c) : fdE (feB v) = 0 ∧ fdV (feB v) = v := by
  have g := rt_file h hr ⟨#[]⟩
  rw [app_nil] at g
  exact ⟨(g.2 (fe_parts h).2.2).trans (if_pos rfl), g.1⟩
/-- no proper prefix is accepted -/
theorem rt_pre {v : Fv} (h : feE v = 0) (hr : ∀ c ∈ v.p, Rng c) {m : Nat} (hm : m < (feB v).size) : ¬ fdE ((feB v).extract 0 m) = 0 := by
  intro h0
  have c1 := canon_ok h0
  have c2 := file_canon h0
  have hp := (fd_parts h0).2.2.1
  have hz := (fe_parts h).2.2
  have g := rt_file c1 (de_rng hp) ((feB v).extract m (feB v).size)
  rw [c2, ex_ap (Nat.zero_le _) (by omega) (Nat.le_refl _)] at g
  have e : (feB v).extract 0 (feB v).size = feB v := by
    refine bt_ext (by rw [sz_ex (Nat.zero_le _) (Nat.le_refl _)]; omega) fun i hi => ?_
    rw [sz_ex (Nat.zero_le _) (Nat.le_refl _)] at hi
    rw [bt_ex (Nat.le_refl _) (by omega), Nat.zero_add]
  rw [e] at g
  have h1 := g.2 hz
  rw [(rt_same h hr).1, if_neg (by rw [sz_ex (by omega) (Nat.le_refl _)]; omega)] at h1
  cases h1
theorem rt_tail {v : Fv} (h : feE v = 0) (hr : ∀ c ∈ v.p, Rng c) {y : ByteArray} (hz : (feB v ++ y).size ≤ 1048576) (hy : ¬ y.size = 0) : fdE (feB v ++ y) = 10 := by
  rw [(rt_file h hr y).2 hz, if_neg hy]

set_option maxRecDepth 100000 in
set_option maxHeartbeats 4000000 in
theorem round_law (F : Fi) (w : World) (h : F.ok w) (hF : Fits F.p) (hr : ∀ c ∈ F.p, Rng c) (hm : ∀ x ∈ F.m, x.k ≤ 5864062014805) (hg : ∀ x ∈ F.g, x.k ≤ 5864062014805) : Calls Tryd.prog 3 #[F.val] w fun e w' => e = .returned (.bool true) ∧ Below w.heap.size w w' := by
  obtain ⟨Q, hQ⟩ : ∃ Q : Ending → World → Prop, (fun e w' => e = Ending.returned (.bool true) ∧ Below w.heap.size w w') = Q := ⟨_, rfl⟩
  have HQ := Lib.hid (fun (w' : World) (hb : Below w.heap.size w w') => (by rw [← hQ]; exact ⟨rfl, hb⟩ : Q (.returned (.bool true)) w'))
  rw [hQ]
  clear hQ
  have OK := Lib.hid h
  have hlt0 := lt_heap (World.alloc_heap_new w (.cells #[.slice F.pA F.pn F.pc, .int .i64 F.f, .int .i64 F.t, .int .i64 F.s, .slice F.iA F.ij F.ic, .slice F.mA F.mj F.mc, .slice F.gA F.gj F.gc, .slice F.aA F.aj F.ac] 27))
  have HX0 := Lib.hid (World.alloc_heap_new w (.cells #[.slice F.pA F.pn F.pc, .int .i64 F.f, .int .i64 F.t, .int .i64 F.s, .slice F.iA F.ij F.ic, .slice F.mA F.mj F.mc, .slice F.gA F.gj F.gc, .slice F.aA F.aj F.ac] 27))
  have HB0 := Lib.hid (below_al (Below.refl _ w) (.cells #[.slice F.pA F.pn F.pc, .int .i64 F.f, .int .i64 F.t, .int .i64 F.s, .slice F.iA F.ij F.ic, .slice F.mA F.mj F.mc, .slice F.gA F.gj F.gc, .slice F.aA F.aj F.ac] 27))
  have HOK1 := Lib.hid (h.up (below_al (Below.refl _ w) (.cells #[.slice F.pA F.pn F.pc, .int .i64 F.f, .int .i64 F.t, .int .i64 F.s, .slice F.iA F.ij F.ic, .slice F.mA F.mj F.mc, .slice F.gA F.gj F.gc, .slice F.aA F.aj F.ac] 27)))
  clear h
  unfold Fi.val
  go_enter Tryd.func3, Tryd.ntmps3
  go_upto_region 1 with fail
  generalize w.alloc (.cells #[.slice F.pA F.pn F.pc, .int .i64 F.f, .int .i64 F.t, .int .i64 F.s, .slice F.iA F.ij F.ic, .slice F.mA F.mj F.mc, .slice F.gA F.gj F.gc, .slice F.aA F.aj F.ac] 27) = W1 at hlt0 HX0 HB0 HOK1 ⊢
  obtain ⟨⟨x0, x1, x2, x3, x4, x5, x6, x7⟩, xf, xlt⟩ := eight_cellsF HX0.out
  go_upto_region 2 with (go_at_call 6; refine (small_any F _ HOK1.out hm hg).mono ?_; rintro e w1 ⟨b, rfl, hbf, hb1⟩; have HBF := Lib.hid hbf; have hX := (hb1.block w.heap.size hlt0).trans HX0.out; obtain ⟨⟨x0, x1, x2, x3, x4, x5, x6, x7⟩, xf, xlt⟩ := eight_cellsF hX; have HX := Lib.hid hX; have HB1 := Lib.hid (below_on HB0.out hb1); clear hb1 hbf hX)
  · go_wp2_with (go_at_call 7; refine (works_any _).mono ?_; rintro e w9 ⟨rfl, hb9⟩; have HB9 := Lib.hid (below_on HB1.out hb9); clear hb9)
    exact HQ.out _ HB9.out
  have hbt : b = true := by
    have h9 : (!b) = false := by assumption
    simpa using h9
  obtain ⟨hfew, hpn60⟩ := HBF.out hbt
  have hpn : F.pn ≤ 100000 := by omega
  have KE := Lib.hid (fenc_any F w1 (OK.out.up HB1.out) hfew hF hpn)
  have hlw1 : w.heap.size < w1.heap.size := xlt
  by_cases hE : feE F.v = 0
  · have hS : feS F.v = feB F.v := by unfold feS; rw [if_pos hE]
    have HS := Lib.hid hS
    have HE := Lib.hid hE
    obtain ⟨r1, r2⟩ := rt_same hE hr
    have hz := (fe_parts hE).2.2
    have KD : Hid (∀ W : World, Calls Tryd.prog 10 #[.string (feB F.v)] W fun e w' => ∃ G : Fi, e = .returned (.tuple #[.agg #[.slice G.pA G.pn G.pc, .int .i64 G.f, .int .i64 G.t, .int .i64 G.s, .slice G.iA G.ij G.ic, .slice G.mA G.mj G.mc, .slice G.gA G.gj G.gc, .slice G.aA G.aj G.ac], .int .i64 0]) ∧ G.v = F.v ∧ G.ok w' ∧ Below W.heap.size W w') := Lib.hid (fun W => (fdec_any (feB F.v) (by omega) W).mono (fun e w' ⟨G, h1, h2, h3, h4⟩ => ⟨G, by rw [h1, r1]; rfl, by rw [h2]; unfold fdR; rw [if_pos r1, r2], h3, h4⟩))
    clear hE hS r1 r2 hz
    refine KE.out.mono ?_
    rintro e w2 ⟨rfl, hb2⟩
    have hX := (hb2.block w.heap.size (by omega)).trans HX.out
    obtain ⟨⟨x0, x1, x2, x3, x4, x5, x6, x7⟩, xf, xlt2⟩ := eight_cellsF hX
    replace HX := Lib.hid hX
    have HB2 := Lib.hid (below_on HB1.out hb2)
    clear hb2 hX
    rw [HS.out, HE.out]
    go_upto_region 7 with ((go_at_call 10; refine (KD.out _).mono ?_; rintro e w3 ⟨G, rfl, hv, hok, hb3⟩; have HV := Lib.hid hv; have HOKG := Lib.hid hok; have HB3 := Lib.hid (below_on HB2.out hb3); have HX3 := Lib.hid ((hb3.block w.heap.size (by omega)).trans HX.out); clear hv hok hb3))
    have hX := laid_old (o' := (.cells #[.slice G.pA G.pn G.pc, .int .i64 G.f, .int .i64 G.t, .int .i64 G.s, .slice G.iA G.ij G.ic, .slice G.mA G.mj G.mc, .slice G.gA G.gj G.gc, .slice G.aA G.aj G.ac] 27)) HX3.out
    have HB4 := Lib.hid (below_al HB3.out (.cells #[.slice G.pA G.pn G.pc, .int .i64 G.f, .int .i64 G.t, .int .i64 G.s, .slice G.iA G.ij G.ic, .slice G.mA G.mj G.mc, .slice G.gA G.gj G.gc, .slice G.aA G.aj G.ac] 27))
    have hY := World.alloc_heap_new w3 (.cells #[.slice G.pA G.pn G.pc, .int .i64 G.f, .int .i64 G.t, .int .i64 G.s, .slice G.iA G.ij G.ic, .slice G.mA G.mj G.mc, .slice G.gA G.gj G.gc, .slice G.aA G.aj G.ac] 27)
    have HOKG4 := Lib.hid (HOKG.out.up (below_al (Below.refl _ w3) (.cells #[.slice G.pA G.pn G.pc, .int .i64 G.f, .int .i64 G.t, .int .i64 G.s, .slice G.iA G.ij G.ic, .slice G.mA G.mj G.mc, .slice G.gA G.gj G.gc, .slice G.aA G.aj G.ac] 27)))
    generalize w3.alloc (.cells #[.slice G.pA G.pn G.pc, .int .i64 G.f, .int .i64 G.t, .int .i64 G.s, .slice G.iA G.ij G.ic, .slice G.mA G.mj G.mc, .slice G.gA G.gj G.gc, .slice G.aA G.aj G.ac] 27) = W4 at hX HB4 hY HOKG4 ⊢
    generalize w3.heap.size = B4 at hY ⊢
    obtain ⟨⟨x0, x1, x2, x3, x4, x5, x6, x7⟩, xf, xlt3⟩ := eight_cellsF hX
    obtain ⟨⟨y0, y1, y2, y3, y4, y5, y6, y7⟩, yf, ylt3⟩ := eight_cellsF hY
    clear hX hY
    have KS := Lib.hid (same_yes F G W4 (OK.out.up HB4.out) HOKG4.out HV.out.symm hfew hpn)
    go_wp2_with (first | (go_at_call 11; refine KS.out.mono ?_; rintro e w5 ⟨rfl, hb5⟩; have HB5 := Lib.hid (below_on HB4.out hb5); clear hb5) | (go_at_call 7; refine (works_any _).mono ?_; rintro e w9 ⟨rfl, hb9⟩; have HB9 := Lib.hid (below_on HB5.out hb9); clear hb9))
    exact HQ.out _ HB9.out
  · have hS : feS F.v = ⟨#[]⟩ := by unfold feS; rw [if_neg hE]
    have HS := Lib.hid hS
    have hE1 : (feE F.v != 0) = true := by simpa using hE
    obtain ⟨x, hx⟩ : ∃ x, feE F.v = x := ⟨_, rfl⟩
    have HE := Lib.hid hx
    rw [hx] at hE1 hE
    have KZ : Hid (∀ W : World, F.ok W → Calls Tryd.prog 9 #[F.val] W fun e w' => e = .returned (.int .i64 0) ∧ Below W.heap.size W w') := Lib.hid (fun W h => (esz_any F W h hfew hF hpn (by rw [hS]; exact Nat.zero_le _)).mono (fun e w' k => ⟨k.1.trans (by rw [hS]; rfl), k.2⟩))
    clear hx hS
    refine KE.out.mono ?_
    rintro e w2 ⟨rfl, hb2⟩
    have hX := (hb2.block w.heap.size (by omega)).trans HX.out
    obtain ⟨⟨x0, x1, x2, x3, x4, x5, x6, x7⟩, xf, xlt2⟩ := eight_cellsF hX
    replace HX := Lib.hid hX
    have HB2 := Lib.hid (below_on HB1.out hb2)
    clear hb2 hX
    rw [HS.out, HE.out]
    go_wp2_with (first | (go_at_call 9; refine (KZ.out _ (OK.out.up HB2.out)).mono ?_; rintro e w5 ⟨rfl, hb5⟩; have HB5 := Lib.hid (below_on HB2.out hb5); clear hb5) | (go_at_call 7; refine (works_any _).mono ?_; rintro e w9 ⟨rfl, hb9⟩; have HB9 := Lib.hid (below_on HB5.out hb9); clear hb9))
    exact HQ.out _ HB9.out

end Go.Proofs.YthfegbhbokhlkaaDoor

/- Gv -/
/- Layer 11: the law FileComplete. (gen/gu.py) -/
namespace Go.Proofs.YthfegbhbokhlkaaDoor
open Go.ChangeShapes Go.WideShapes Go.ChangeAt Go.RowKit Go.PlainAid
set_option linter.unusedSimpArgs false
set_option linter.unusedVariables false

theorem tail_ne {t : ByteArray} (h : ¬ t = ⟨#[]⟩) : t.toList.isEmpty = false := by
  cases e : t.toList with
  | nil =>
    rw [ByteArray.toList_eq] at e
    obtain ⟨d⟩ := t
    have e' : d.toList = [] := e
    have e2 : d = #[] := by simpa using e'
    exact absurd (by rw [e2]) h
  | cons _ _ => rfl
set_option maxRecDepth 100000 in
set_option maxHeartbeats 4000000 in
theorem complete_law (F : Fi) (cut : Int) (tail : ByteArray) (w : World) (h : F.ok w) (hF : Fits F.p) (hr : ∀ c ∈ F.p, Rng c) (hm : ∀ x ∈ F.m, x.k ≤ 5864062014805) (hg : ∀ x ∈ F.g, x.k ≤ 5864062014805) (hc : 0 ≤ cut ∧ cut ≤ 65535) (hts : tail.size ≤ 140737488351232) :
    Calls Tryd.prog 5 #[F.val, .int .u16 cut, .string tail] w fun e w' => e = .returned (.bool true) ∧ Below w.heap.size w w' := by
  obtain ⟨Q, hQ⟩ : ∃ Q : Ending → World → Prop, (fun e w' => e = Ending.returned (.bool true) ∧ Below w.heap.size w w') = Q := ⟨_, rfl⟩
  have HQ := Lib.hid (fun (w' : World) (hb : Below w.heap.size w w') => (by rw [← hQ]; exact ⟨rfl, hb⟩ : Q (.returned (.bool true)) w'))
  rw [hQ]
  clear hQ
  have OK := Lib.hid h
  have hlt0 := lt_heap (World.alloc_heap_new w (.cells #[.slice F.pA F.pn F.pc, .int .i64 F.f, .int .i64 F.t, .int .i64 F.s, .slice F.iA F.ij F.ic, .slice F.mA F.mj F.mc, .slice F.gA F.gj F.gc, .slice F.aA F.aj F.ac] 27))
  have HX0 := Lib.hid (World.alloc_heap_new w (.cells #[.slice F.pA F.pn F.pc, .int .i64 F.f, .int .i64 F.t, .int .i64 F.s, .slice F.iA F.ij F.ic, .slice F.mA F.mj F.mc, .slice F.gA F.gj F.gc, .slice F.aA F.aj F.ac] 27))
  have HB0 := Lib.hid (below_al (Below.refl _ w) (.cells #[.slice F.pA F.pn F.pc, .int .i64 F.f, .int .i64 F.t, .int .i64 F.s, .slice F.iA F.ij F.ic, .slice F.mA F.mj F.mc, .slice F.gA F.gj F.gc, .slice F.aA F.aj F.ac] 27))
  have HOK1 := Lib.hid (h.up (below_al (Below.refl _ w) (.cells #[.slice F.pA F.pn F.pc, .int .i64 F.f, .int .i64 F.t, .int .i64 F.s, .slice F.iA F.ij F.ic, .slice F.mA F.mj F.mc, .slice F.gA F.gj F.gc, .slice F.aA F.aj F.ac] 27)))
  obtain ⟨hc0, hc1⟩ := hc
  clear h
  unfold Fi.val
  by_cases ht5 : 50 < tail.size
  · have ht5' : (50 : Int) < (tail.size : Int) := by omega
    clear ht5
    go_enter Tryd.func5, Tryd.ntmps5
    go_upto_region 1 with fail
    generalize w.alloc (.cells #[.slice F.pA F.pn F.pc, .int .i64 F.f, .int .i64 F.t, .int .i64 F.s, .slice F.iA F.ij F.ic, .slice F.mA F.mj F.mc, .slice F.gA F.gj F.gc, .slice F.aA F.aj F.ac] 27) = W1 at hlt0 HX0 HB0 HOK1 ⊢
    obtain ⟨⟨x0, x1, x2, x3, x4, x5, x6, x7⟩, xf, xlt⟩ := eight_cellsF HX0.out
    go_wp2_with (first | (go_at_call 6; refine (small_any F _ HOK1.out hm hg).mono ?_; rintro e w1 ⟨b, rfl, hbf, hb1⟩; have HBF := Lib.hid hbf; have hX := (hb1.block w.heap.size hlt0).trans HX0.out; obtain ⟨⟨x0, x1, x2, x3, x4, x5, x6, x7⟩, xf, xlt⟩ := eight_cellsF hX; have HX := Lib.hid hX; have HB1 := Lib.hid (below_on HB0.out hb1); clear hb1 hbf hX) | (go_at_call 7; refine (works_any _).mono ?_; rintro e w9 ⟨rfl, hb9⟩; have HB9 := Lib.hid (below_on HB1.out hb9); clear hb9))
    all_goals exact HQ.out _ HB9.out
  have ht5' : (tail.size : Int) ≤ 50 := by omega
  go_enter Tryd.func5, Tryd.ntmps5
  go_upto_region 1 with fail
  generalize w.alloc (.cells #[.slice F.pA F.pn F.pc, .int .i64 F.f, .int .i64 F.t, .int .i64 F.s, .slice F.iA F.ij F.ic, .slice F.mA F.mj F.mc, .slice F.gA F.gj F.gc, .slice F.aA F.aj F.ac] 27) = W1 at hlt0 HX0 HB0 HOK1 ⊢
  obtain ⟨⟨x0, x1, x2, x3, x4, x5, x6, x7⟩, xf, xlt⟩ := eight_cellsF HX0.out
  go_upto_region 2 with (go_at_call 6; refine (small_any F _ HOK1.out hm hg).mono ?_; rintro e w1 ⟨b, rfl, hbf, hb1⟩; have HBF := Lib.hid hbf; have hX := (hb1.block w.heap.size hlt0).trans HX0.out; obtain ⟨⟨x0, x1, x2, x3, x4, x5, x6, x7⟩, xf, xlt⟩ := eight_cellsF hX; have HX := Lib.hid hX; have HB1 := Lib.hid (below_on HB0.out hb1); clear hb1 hbf hX)
  rotate_left
  · go_wp2_with (go_at_call 7; refine (works_any _).mono ?_; rintro e w9 ⟨rfl, hb9⟩; have HB9 := Lib.hid (below_on HB1.out hb9); clear hb9)
    exact HQ.out _ HB9.out
  have hbt : b = true := by assumption
  obtain ⟨hfew, hpn60⟩ := HBF.out hbt
  have hpn : F.pn ≤ 100000 := by omega
  have KE := Lib.hid (fenc_any F w1 (OK.out.up HB1.out) hfew hF hpn)
  have hlw1 : w.heap.size < w1.heap.size := xlt
  by_cases hE : feE F.v = 0
  · have hS : feS F.v = feB F.v := by unfold feS; rw [if_pos hE]
    have HS := Lib.hid hS
    have HE := Lib.hid hE
    obtain ⟨r1, r2⟩ := rt_same hE hr
    have hz := (fe_parts hE).2.2
    have hp := feB_pos F.v
    have HPRE := Lib.hid (fun (m : Nat) (hm : m < (feB F.v).size) => rt_pre hE hr hm)
    have HTL := Lib.hid (fun (hz : (feB F.v ++ tail).size ≤ 1048576) (hy : ¬ tail.size = 0) => rt_tail hE hr hz hy)
    clear hE hS r2
    refine KE.out.mono ?_
    rintro e w2 ⟨rfl, hb2⟩
    have hX := (hb2.block w.heap.size (by omega)).trans HX.out
    obtain ⟨⟨x0, x1, x2, x3, x4, x5, x6, x7⟩, xf, xlt2⟩ := eight_cellsF hX
    replace HX := Lib.hid hX
    have HB2 := Lib.hid (below_on HB1.out hb2)
    clear hb2 hX
    rw [HS.out, HE.out]
    generalize feB F.v = S at r1 hz hp HPRE HTL ⊢
    clear KE HS HE
    by_cases h3 : 3000 < S.size
    · have h3' : (3000 : Int) < (S.size : Int) := by omega
      clear h3
      go_wp2_with (go_at_call 7; refine (works_any _).mono ?_; rintro e w9 ⟨rfl, hb9⟩; have HB9 := Lib.hid (below_on HB2.out hb9); clear hb9)
      exact HQ.out _ HB9.out
    · have h3' : (S.size : Int) ≤ 3000 := by omega
      have hp' : (0 : Int) < (S.size : Int) := by omega
      have hp'' : ((S.size : Int) == 0) = false := by simpa using (by omega : ¬ (S.size : Int) = 0)
      have hmod := Int.emod_nonneg cut (show (S.size : Int) ≠ 0 by omega)
      have hmod2 := Int.emod_lt_of_pos cut hp'
      obtain ⟨m, hm⟩ : ∃ m : Nat, cut % (S.size : Int) = (m : Int) := ⟨(cut % (S.size : Int)).toNat, by omega⟩
      have hmt : cut.tmod (S.size : Int) = (m : Int) := by rw [Int.tmod_eq_emod_of_nonneg hc0, hm]
      have hms : m < S.size := by omega
      have hms' : (m : Int) ≤ (S.size : Int) := by omega
      have K1 : Hid (∀ W : World, Calls Tryd.prog 10 #[.string (S.extract 0 m)] W fun e w' => ∃ G : Fi, e = .returned (.tuple #[.agg #[.slice G.pA G.pn G.pc, .int .i64 G.f, .int .i64 G.t, .int .i64 G.s, .slice G.iA G.ij G.ic, .slice G.mA G.mj G.mc, .slice G.gA G.gj G.gc, .slice G.aA G.aj G.ac], .int .i64 (fdE (S.extract 0 m))]) ∧ Below W.heap.size W w') := Lib.hid (fun W => (fdec_any (S.extract 0 m) (by rw [ByteArray.size_extract]; omega) W).mono (fun e w' ⟨G, h1, _, _, h4⟩ => ⟨G, h1, h4⟩))
      have K2 : Hid (∀ W : World, Calls Tryd.prog 10 #[.string (S ++ tail)] W fun e w' => ∃ G : Fi, e = .returned (.tuple #[.agg #[.slice G.pA G.pn G.pc, .int .i64 G.f, .int .i64 G.t, .int .i64 G.s, .slice G.iA G.ij G.ic, .slice G.mA G.mj G.mc, .slice G.gA G.gj G.gc, .slice G.aA G.aj G.ac], .int .i64 (fdE (S ++ tail))]) ∧ Below W.heap.size W w') := Lib.hid (fun W => (fdec_any (S ++ tail) (by rw [ByteArray.size_append]; omega) W).mono (fun e w' ⟨G, h1, _, _, h4⟩ => ⟨G, h1, h4⟩))
      have hx := HPRE.out m hms
      have hf : S.size + tail.size ≤ 3050 := by omega
      obtain ⟨x, hxx⟩ : ∃ x, fdE (S.extract 0 m) = x := ⟨_, rfl⟩
      rw [hxx] at hx K1
      have hx1 : (x != 0) = true := by simpa using hx
      have hcase : (tail = ⟨#[]⟩ ∧ fdE (S ++ tail) = 0) ∨ (¬ tail = ⟨#[]⟩ ∧ fdE (S ++ tail) = 10) := by
        by_cases h0 : tail.size = 0
        · left
          have e : tail = ⟨#[]⟩ := by
            refine bt_ext (by rw [h0]; rfl) fun i hi => absurd hi (by omega)
          exact ⟨e, by rw [e, app_nil]; exact r1⟩
        · right
          exact ⟨fun e => h0 (by rw [e]; rfl), HTL.out (by rw [ByteArray.size_append]; omega) h0⟩
      have HC := Lib.hid hcase
      clear hxx hcase HPRE HTL r1 h3 hm ht5
      go_upto_region 9 with (go_at_call 10; refine (K1.out _).mono ?_; rintro e w3 ⟨G1, rfl, hb3⟩; have HB3 := Lib.hid (below_on HB2.out hb3); clear hb3)
      have HB4 := Lib.hid (below_al HB3.out (.cells #[.slice G1.pA G1.pn G1.pc, .int .i64 G1.f, .int .i64 G1.t, .int .i64 G1.s, .slice G1.iA G1.ij G1.ic, .slice G1.mA G1.mj G1.mc, .slice G1.gA G1.gj G1.gc, .slice G1.aA G1.aj G1.ac] 27))
      generalize w3.alloc (.cells #[.slice G1.pA G1.pn G1.pc, .int .i64 G1.f, .int .i64 G1.t, .int .i64 G1.s, .slice G1.iA G1.ij G1.ic, .slice G1.mA G1.mj G1.mc, .slice G1.gA G1.gj G1.gc, .slice G1.aA G1.aj G1.ac] 27) = W4 at HB4 ⊢
      generalize w3.heap.size = B4
      rcases HC.out with ⟨rfl, h10⟩ | ⟨hne, h10⟩
      · rw [h10] at K2
        clear h10 HC
        go_wp2_with (first | (go_at_call 10; refine (K2.out _).mono ?_; rintro e w5 ⟨G2, rfl, hb5⟩; have HB5 := Lib.hid (below_al (below_on HB4.out hb5) (.cells #[.slice G2.pA G2.pn G2.pc, .int .i64 G2.f, .int .i64 G2.t, .int .i64 G2.s, .slice G2.iA G2.ij G2.ic, .slice G2.mA G2.mj G2.mc, .slice G2.gA G2.gj G2.gc, .slice G2.aA G2.aj G2.ac] 27)); clear hb5) | (go_at_call 7; refine (works_any _).mono ?_; rintro e w9 ⟨rfl, hb9⟩; have HB9 := Lib.hid (below_on HB5.out hb9); clear hb9))
        exact HQ.out _ HB9.out
      · rw [h10] at K2
        have hte := tail_ne hne
        clear h10 HC
        go_wp2_with (first | (go_at_call 10; refine (K2.out _).mono ?_; rintro e w5 ⟨G2, rfl, hb5⟩; have HB5 := Lib.hid (below_al (below_on HB4.out hb5) (.cells #[.slice G2.pA G2.pn G2.pc, .int .i64 G2.f, .int .i64 G2.t, .int .i64 G2.s, .slice G2.iA G2.ij G2.ic, .slice G2.mA G2.mj G2.mc, .slice G2.gA G2.gj G2.gc, .slice G2.aA G2.aj G2.ac] 27)); clear hb5) | (go_at_call 7; refine (works_any _).mono ?_; rintro e w9 ⟨rfl, hb9⟩; have HB9 := Lib.hid (below_on HB5.out hb9); clear hb9))
        exact HQ.out _ HB9.out
  · have hE1 : (feE F.v != 0) = true := by simpa using hE
    obtain ⟨x, hx⟩ : ∃ x, feE F.v = x := ⟨_, rfl⟩
    have HE := Lib.hid hx
    have HS := Lib.hid (rfl : feS F.v = feS F.v)
    rw [hx] at hE1 hE
    clear hx
    refine KE.out.mono ?_
    rintro e w2 ⟨rfl, hb2⟩
    have hX := (hb2.block w.heap.size (by omega)).trans HX.out
    obtain ⟨⟨x0, x1, x2, x3, x4, x5, x6, x7⟩, xf, xlt2⟩ := eight_cellsF hX
    replace HX := Lib.hid hX
    have HB2 := Lib.hid (below_on HB1.out hb2)
    clear hb2 hX
    rw [HS.out, HE.out]
    go_wp2_with (go_at_call 7; refine (works_any _).mono ?_; rintro e w9 ⟨rfl, hb9⟩; have HB9 := Lib.hid (below_on HB2.out hb9); clear hb9)
    exact HQ.out _ HB9.out

end Go.Proofs.YthfegbhbokhlkaaDoor
