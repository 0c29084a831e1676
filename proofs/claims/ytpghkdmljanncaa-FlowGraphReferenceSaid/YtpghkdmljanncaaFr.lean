/- Layer 19: the reference's add, Ints, Handlers. -/
import Derived.Test.YtpghkdmljanncaaFe
namespace Go.Proofs.Ytpghkdmljanncaa
open Go.ChangeShapes Go.WideShapes Go.ChangeAt Go.RowKit Go.PlainAid
set_option linter.unusedSimpArgs false
set_option linter.unusedVariables false

theorem ord_self {L : List Int} (h : L.Pairwise (· < ·)) : ordL L = L := uniq_lt (ordL_spec L).1 h (ordL_spec L).2
theorem ord_same {L M : List Int} (h : ∀ x, x ∈ L ↔ x ∈ M) : ordL L = ordL M := uniq_lt (ordL_spec L).1 (ordL_spec M).1 fun x => by rw [(ordL_spec L).2, (ordL_spec M).2]; exact h x
theorem ord_snoc (L : List Int) (x : Int) : ordL (ordL L ++ [x]) = ordL (L ++ [x]) := ord_same fun y => by rw [List.mem_append, List.mem_append, (ordL_spec L).2]
theorem ord_in {L : List Int} {x : Int} (h : L.Pairwise (· < ·)) (hx : x ∈ L) : ordL (L ++ [x]) = L := by
  rw [← ord_self h]
  rw [ord_self h]
  refine uniq_lt (ordL_spec _).1 h fun y => ?_
  rw [(ordL_spec _).2, List.mem_append, List.mem_singleton]
  exact ⟨fun h => by rcases h with h | rfl; exact h; exact hx, fun h => Or.inl h⟩
theorem ord_ins {L : List Int} {x : Int} {k : Nat} (hs : L.Pairwise (· < ·)) (hk : k ≤ L.length) (h1 : ∀ j, j < k → L.getD j 0 < x) (h2 : k < L.length → x < L.getD k 0) : ordL (L ++ [x]) = L.take k ++ [x] ++ L.drop k := by
  have get : ∀ j (hj : j < L.length), L.getD j 0 = L[j] := fun j hj => by rw [List.getD_eq_getElem?_getD, List.getElem?_eq_getElem hj]; rfl
  have ht : ∀ a ∈ L.take k, a < x := by
    intro a ha
    obtain ⟨j, hj, rfl⟩ := List.getElem_of_mem ha
    rw [List.length_take] at hj
    have := h1 j (by omega)
    rw [get j (by omega)] at this
    rw [List.getElem_take]; exact this
  have hd : ∀ a ∈ L.drop k, x < a := by
    intro a ha
    obtain ⟨j, hj, rfl⟩ := List.getElem_of_mem ha
    rw [List.length_drop] at hj
    rw [List.getElem_drop]
    have h3 := h2 (by omega)
    rw [get k (by omega)] at h3
    rcases Nat.eq_zero_or_pos j with rfl | hj0
    · exact h3
    · have := List.pairwise_iff_getElem.1 hs k (k + j) (by omega) (by omega) (by omega)
      omega
  refine uniq_lt (ordL_spec _).1 ?_ fun y => ?_
  · rw [List.append_assoc, List.pairwise_append]
    refine ⟨hs.sublist (List.take_sublist k L), List.pairwise_append.2 ⟨List.pairwise_singleton _ _, hs.sublist (List.drop_sublist k L), fun a ha b hb => ?_⟩, fun a ha b hb => ?_⟩
    · obtain rfl := List.mem_singleton.1 ha
      exact hd b hb
    · rcases List.mem_append.1 hb with hb | hb
      · obtain rfl := List.mem_singleton.1 hb
        exact ht a ha
      · have := ht a ha; have := hd b hb; omega
  · rw [(ordL_spec _).2, List.mem_append, List.mem_append, List.mem_append]
    have : y ∈ L ↔ y ∈ L.take k ∨ y ∈ L.drop k := by rw [← List.mem_append, List.take_append_drop]
    rw [this]
    constructor
    · rintro ((h | h) | h)
      · exact Or.inl (Or.inl h)
      · exact Or.inr h
      · exact Or.inl (Or.inr h)
    · rintro ((h | h) | h)
      · exact Or.inl (Or.inl h)
      · exact Or.inr h
      · exact Or.inl (Or.inr h)
theorem row_sub {w : World} {B g o : Nat} {L : List Int} (h : Row w B (some ⟨g, o, none⟩) L) (k : Nat) : Row w B (some ⟨g, o, none⟩) (L.take k) ∧ Row w B (some ⟨g, o + k, none⟩) (L.drop k) := by
  rcases h with rfl | ⟨g', o', hA, hg, hc⟩
  · rw [List.take_nil, List.drop_nil]; exact ⟨Or.inl rfl, Or.inl rfl⟩
  · injection hA with hA
    injection hA with h1 h2
    subst h1 h2
    refine ⟨Or.inr ⟨g, o, rfl, hg, fun j x hj => ?_⟩, Or.inr ⟨g, o + k, rfl, hg, fun j x hj => ?_⟩⟩
    · rw [List.getElem?_take] at hj
      split at hj
      · exact hc j x hj
      · cases hj
    · rw [List.getElem?_drop] at hj
      rw [Nat.add_assoc]; exact hc _ x hj
theorem own_lit0 {w : World} {B : Nat} (hB : B ≤ w.heap.size) : (w.alloc (.cells #[] 3)).ownsRow B 3 1 (.slice (some ⟨w.heap.size, 0, none⟩) 0 0) 0 (Ri []) :=
  World.ownsRow_lit w #[] 0 hB (by unfold maxLen; omega) rfl
/-- what add hands back: the row itself, or a new one -/
def AddRet (w : World) (A : Option Addr) (L : List Int) (e : Ending) (w' : World) : Prop :=
  ∃ A' c, e = .returned (.slice A' L.length c) ∧ L.length ≤ c ∧ c ≤ maxLen ∧ (A' = none → c = 0) ∧ Row w' w'.heap.size A' L ∧ (A' = A ∨ ∀ g o s, A' = some ⟨g, o, s⟩ → w.heap.size ≤ g) ∧ Below w.heap.size w w'
theorem own_base {w' : World} {base e size n : Nat} {m c : Nat} {A : Option Addr} {xs : List Value} (h : w'.ownsRow base e size (.slice A m c) n xs) : ∀ g o s, A = some ⟨g, o, s⟩ → base ≤ g := by
  intro g o s hA
  subst hA
  exact (h.lt g rfl).1
theorem add_own {w w' : World} {A : Option Addr} {n : Nat} {v : Value} {L : List Int} (h : w'.ownsRow w.heap.size 3 1 v n (Ri L)) (hb : Below w.heap.size w w') : AddRet w A L (.returned v) w' := by
  obtain ⟨A, c, rfl, h1, h2, h3⟩ := own_form h
  have hob := own_base h
  obtain ⟨hr, rfl⟩ := Row.of_own h
  exact ⟨A, c, rfl, h1, h2, h3, hr, Or.inr hob, hb⟩
set_option maxRecDepth 100000 in
set_option maxHeartbeats 4000000 in
theorem add_any {w : World} {A : Option Addr} {n c : Nat} {L : List Int} (x : Int) (hr : Row w w.heap.size A L) (hl : L.length = n) (hn : n ≤ 1000000) (hc : n ≤ c) (hcm : c ≤ maxLen) (hnil : A = none → c = 0) (hs : L.Pairwise (· < ·)) :
    Calls Try.prog 73 #[.slice A n c, .int .i64 x] w (AddRet w A (ordL (L ++ [x]))) := by
  have HR := Lib.hid hr
  have HL := Lib.hid hl
  have HS := Lib.hid hs
  have HN := Lib.hid (And.intro hcm hnil)
  clear hr hl hs hnil hcm
  go_enter Try.func73, Try.ntmps73
  go_wp2
  go_loopw [5] (fun z wr => ∃ k : Nat, k ≤ n ∧ z = .int .i64 k ∧ (∀ j, j < k → L.getD j 0 < x) ∧ wr = w) (fun z _ => n - (intOf z).toNat)
  case atStart => exact ⟨0, Nat.zero_le _, rfl, fun j hj => absurd hj (Nat.not_lt_zero _), rfl⟩
  case round =>
    obtain ⟨k, hk, rfl, hall, rfl⟩ := hrel
    have HA := Lib.hid hall
    clear hall
    have hk0 : (0 : Int) ≤ (k : Int) := by omega
    by_cases hlt : k < n
    · obtain ⟨y, hy⟩ := get_someF (l := L) (k := k) (by rw [HL.out]; exact hlt)
      have HY := Lib.hid (show L.getD k 0 = y by rw [List.getD_eq_getElem?_getD, hy]; rfl)
      obtain ⟨g, o, rfl, hg, hcy⟩ := row_get HR.out hy
      have HYM := Lib.hid (List.mem_of_getElem? hy)
      have hk1 : (k : Int) < (n : Int) := by omega
      clear hy
      by_cases hyx : y < x
      · go_wp2
        refine ⟨⟨k + 1, hlt, by go_num, fun j hj => ?_, trivial⟩, by simp [intOf]; omega⟩
        rcases (by omega : j < k ∨ j = k) with h | rfl
        · exact HA.out j h
        · rw [HY.out]; exact hyx
      · by_cases hxe : y = x
        · subst hxe
          have hyy : ¬ y < y := Int.lt_irrefl y
          have HIN := Lib.hid (ord_in HS.out HYM.out)
          go_wp2
          go_ret
          rw [HIN.out]
          exact ⟨some ⟨g, o, none⟩, c, by rw [HL.out]; rfl, by rw [HL.out]; exact hc, HN.out.1, HN.out.2, HR.out, Or.inl rfl, Below.refl _ _⟩
        · have HINS := Lib.hid (ord_ins HS.out (by rw [HL.out]; exact hk) HA.out (fun _ => by rw [HY.out]; omega))
          have hq := row_sub HR.out k
          have HR1 := Lib.hid hq.1
          have HR2 := Lib.hid hq.2
          have htk : (L.take k).length = k := by rw [List.length_take, HL.out]; omega
          have hdk : (L.drop k).length = n - k := by rw [List.length_drop, HL.out]
          have HTK := Lib.hid htk
          have HDK := Lib.hid hdk
          have hcc : c ≤ 9223372036854775807 := by have := HN.out.1; unfold maxLen at this; omega
          have hk2 : (k : Int) ≤ (c : Int) := by omega
          have hk3 : (k : Int) ≤ (n : Int) := by omega
          have hck : ¬ c = k := by omega
          have hHO := Lib.hid (own_lit0 (w := wr) (Nat.le_refl _))
          go_upto_region 7 with (at_builtin; refine wpList_append_ints (by rfl) _ _ (by rfl) wr.heap.size 0 k c (wr.heap.size + 1) [] (L.take k) _ _ (by rfl) hHO.out (by rfl) ((HR1.out.below (below_al (Below.refl _ _) _)).more (by simp)) HTK.out (fun h => by cases h) (by omega) (by simp) ?_; intro v1 w1 ho1 hg1)
          rw [Nat.zero_add, List.nil_append] at ho1
          have HO1 := Lib.hid ho1
          have HB1 := Lib.hid (grown_own (below_al (Below.refl wr.heap.size wr) _) hHO.out hg1)
          have hz1 := HB1.out.size
          clear ho1 hg1
          go_upto_region 8 with (at_builtin; refine wpList_append_ints (by rfl) _ _ (by rfl) wr.heap.size k 1 1 (w1.heap.size + 1) (L.take k) [x] _ _ (by rfl) (HO1.out.alloc _) (by rfl) (Row.one (ten_cell0 (new_at rfl)) (by omega)) rfl (fun h => by cases h) (by omega) (by simp; omega) ?_; intro v2 w2 ho2 hg2)
          have HO2 := Lib.hid ho2
          have HB2 := Lib.hid (grown_own (below_al HB1.out _) (HO1.out.alloc _) hg2)
          have HR3 := Lib.hid ((HR2.out.below HB2.out).more HB2.out.size)
          have hz2 := HB2.out.size
          clear ho2 hg2
          go_wp2_with (at_builtin; refine wpList_append_ints (by rfl) _ _ (by rfl) wr.heap.size (k + 1) (n - k) (c - k) w2.heap.size (L.take k ++ [x]) (L.drop k) _ _ (by rfl) HO2.out (by rfl) HR3.out HDK.out (fun h => by cases h) (by omega) (by omega) ?_; intro v3 w3 ho3 hg3)
          go_ret
          rw [HINS.out]
          exact add_own ho3 (grown_own HB2.out HO2.out hg3)
    · obtain ⟨rfl⟩ : n = k := by omega
      have HINS := Lib.hid (ord_ins HS.out (by rw [HL.out]; exact Nat.le_refl _) HA.out (fun h => by rw [HL.out] at h; omega))
      have hcc : c ≤ 9223372036854775807 := by have := HN.out.1; unfold maxLen at this; omega
      have HTK := Lib.hid (show (L.take n).length = n by rw [List.length_take, HL.out]; omega)
      have HDK := Lib.hid (show (L.drop n).length = 0 by rw [List.length_drop, HL.out]; omega)
      rcases Nat.eq_zero_or_pos n with rfl | h0
      · have HR1 := Lib.hid (show Row wr wr.heap.size A (L.take 0) from Or.inl rfl)
        have hL0 : L.drop 0 = [] := List.eq_nil_of_length_eq_zero HDK.out
        have HR2 := Lib.hid (show Row wr wr.heap.size A (L.drop 0) by rw [hL0]; exact Or.inl rfl)
        clear hL0
        cases A with
        | none =>
          obtain rfl : c = 0 := HN.out.2 rfl
          have hHO := Lib.hid (own_lit0 (w := wr) (Nat.le_refl _))
          go_upto_region 7 with (at_builtin; refine wpList_append_ints (by rfl) _ _ (by rfl) wr.heap.size 0 0 0 (wr.heap.size + 1) [] (L.take 0) _ _ (by rfl) hHO.out (by rfl) ((HR1.out.below (below_al (Below.refl _ _) _)).more (by simp)) HTK.out (fun _ => rfl) (by omega) (by simp) ?_; intro v1 w1 ho1 hg1)
          rw [Nat.zero_add, List.nil_append] at ho1
          have HO1 := Lib.hid ho1
          have HB1 := Lib.hid (grown_own (below_al (Below.refl wr.heap.size wr) _) hHO.out hg1)
          have hz1 := HB1.out.size
          clear ho1 hg1
          go_upto_region 8 with (at_builtin; refine wpList_append_ints (by rfl) _ _ (by rfl) wr.heap.size 0 1 1 (w1.heap.size + 1) (L.take 0) [x] _ _ (by rfl) (HO1.out.alloc _) (by rfl) (Row.one (ten_cell0 (new_at rfl)) (by omega)) rfl (fun h => by cases h) (by omega) (by simp; omega) ?_; intro v2 w2 ho2 hg2)
          have HO2 := Lib.hid ho2
          have HB2 := Lib.hid (grown_own (below_al HB1.out _) (HO1.out.alloc _) hg2)
          have HR3 := Lib.hid ((HR2.out.below HB2.out).more HB2.out.size)
          have hz2 := HB2.out.size
          clear ho2 hg2
          go_wp2_with (at_builtin; refine wpList_append_ints (by rfl) _ _ (by rfl) wr.heap.size (0 + 1) 0 0 w2.heap.size (L.take 0 ++ [x]) (L.drop 0) _ _ (by rfl) HO2.out (by rfl) HR3.out HDK.out (fun _ => rfl) (by omega) (by omega) ?_; intro v3 w3 ho3 hg3)
          go_ret
          rw [HINS.out]
          exact add_own ho3 (grown_own HB2.out HO2.out hg3)
        | some ad =>
          obtain ⟨g, o, sp⟩ := ad
          have HR2 := Lib.hid (show Row wr wr.heap.size (some ⟨g, o, sp⟩) (L.drop 0) from HR2.out)
          have hHO := Lib.hid (own_lit0 (w := wr) (Nat.le_refl _))
          go_upto_region 7 with (at_builtin; refine wpList_append_ints (by rfl) _ _ (by rfl) wr.heap.size 0 0 c (wr.heap.size + 1) [] (L.take 0) _ _ (by rfl) hHO.out (by rfl) ((HR1.out.below (below_al (Below.refl _ _) _)).more (by simp)) HTK.out (fun h => by cases h) (by omega) (by simp) ?_; intro v1 w1 ho1 hg1)
          rw [Nat.zero_add, List.nil_append] at ho1
          have HO1 := Lib.hid ho1
          have HB1 := Lib.hid (grown_own (below_al (Below.refl wr.heap.size wr) _) hHO.out hg1)
          have hz1 := HB1.out.size
          clear ho1 hg1
          go_upto_region 8 with (at_builtin; refine wpList_append_ints (by rfl) _ _ (by rfl) wr.heap.size 0 1 1 (w1.heap.size + 1) (L.take 0) [x] _ _ (by rfl) (HO1.out.alloc _) (by rfl) (Row.one (ten_cell0 (new_at rfl)) (by omega)) rfl (fun h => by cases h) (by omega) (by simp; omega) ?_; intro v2 w2 ho2 hg2)
          have HO2 := Lib.hid ho2
          have HB2 := Lib.hid (grown_own (below_al HB1.out _) (HO1.out.alloc _) hg2)
          have HR3 := Lib.hid ((HR2.out.below HB2.out).more HB2.out.size)
          have hz2 := HB2.out.size
          clear ho2 hg2
          go_wp2_with (at_builtin; refine wpList_append_ints (by rfl) _ _ (by rfl) wr.heap.size (0 + 1) 0 c w2.heap.size (L.take 0 ++ [x]) (L.drop 0) _ _ (by rfl) HO2.out (by rfl) HR3.out HDK.out (fun h => by cases h) (by omega) (by omega) ?_; intro v3 w3 ho3 hg3)
          go_ret
          rw [HINS.out]
          exact add_own ho3 (grown_own HB2.out HO2.out hg3)
      · obtain ⟨g, o, rfl, hg, _⟩ := HR.out.at (by rw [HL.out]; exact h0)
        have hq := row_sub HR.out n
        have HR1 := Lib.hid hq.1
        have HR2 := Lib.hid hq.2
        have hk1 : (n : Int) ≤ (c : Int) := by omega
        clear hq
        by_cases hcn : c = n
        · subst hcn
          have HR2 := Lib.hid (show Row wr wr.heap.size (some ⟨g, o, none⟩) (L.drop c) by rw [List.eq_nil_of_length_eq_zero HDK.out]; exact Or.inl rfl)
          have hHO := Lib.hid (own_lit0 (w := wr) (Nat.le_refl _))
          go_upto_region 7 with (at_builtin; refine wpList_append_ints (by rfl) _ _ (by rfl) wr.heap.size 0 c c (wr.heap.size + 1) [] (L.take c) _ _ (by rfl) hHO.out (by rfl) ((HR1.out.below (below_al (Below.refl _ _) _)).more (by simp)) HTK.out (fun h => by cases h) (by omega) (by simp) ?_; intro v1 w1 ho1 hg1)
          rw [Nat.zero_add, List.nil_append] at ho1
          have HO1 := Lib.hid ho1
          have HB1 := Lib.hid (grown_own (below_al (Below.refl wr.heap.size wr) _) hHO.out hg1)
          have hz1 := HB1.out.size
          clear ho1 hg1
          go_upto_region 8 with (at_builtin; refine wpList_append_ints (by rfl) _ _ (by rfl) wr.heap.size c 1 1 (w1.heap.size + 1) (L.take c) [x] _ _ (by rfl) (HO1.out.alloc _) (by rfl) (Row.one (ten_cell0 (new_at rfl)) (by omega)) rfl (fun h => by cases h) (by omega) (by simp; omega) ?_; intro v2 w2 ho2 hg2)
          have HO2 := Lib.hid ho2
          have HB2 := Lib.hid (grown_own (below_al HB1.out _) (HO1.out.alloc _) hg2)
          have HR3 := Lib.hid ((HR2.out.below HB2.out).more HB2.out.size)
          have hz2 := HB2.out.size
          clear ho2 hg2
          go_wp2_with (at_builtin; refine wpList_append_ints (by rfl) _ _ (by rfl) wr.heap.size (c + 1) 0 0 w2.heap.size (L.take c ++ [x]) (L.drop c) _ _ (by rfl) HO2.out (by rfl) HR3.out HDK.out (fun h => by cases h) (by omega) (by omega) ?_; intro v3 w3 ho3 hg3)
          go_ret
          rw [HINS.out]
          exact add_own ho3 (grown_own HB2.out HO2.out hg3)
        · have hHO := Lib.hid (own_lit0 (w := wr) (Nat.le_refl _))
          go_upto_region 7 with (at_builtin; refine wpList_append_ints (by rfl) _ _ (by rfl) wr.heap.size 0 n c (wr.heap.size + 1) [] (L.take n) _ _ (by rfl) hHO.out (by rfl) ((HR1.out.below (below_al (Below.refl _ _) _)).more (by simp)) HTK.out (fun h => by cases h) (by omega) (by simp) ?_; intro v1 w1 ho1 hg1)
          rw [Nat.zero_add, List.nil_append] at ho1
          have HO1 := Lib.hid ho1
          have HB1 := Lib.hid (grown_own (below_al (Below.refl wr.heap.size wr) _) hHO.out hg1)
          have hz1 := HB1.out.size
          clear ho1 hg1
          go_upto_region 8 with (at_builtin; refine wpList_append_ints (by rfl) _ _ (by rfl) wr.heap.size n 1 1 (w1.heap.size + 1) (L.take n) [x] _ _ (by rfl) (HO1.out.alloc _) (by rfl) (Row.one (ten_cell0 (new_at rfl)) (by omega)) rfl (fun h => by cases h) (by omega) (by simp; omega) ?_; intro v2 w2 ho2 hg2)
          have HO2 := Lib.hid ho2
          have HB2 := Lib.hid (grown_own (below_al HB1.out _) (HO1.out.alloc _) hg2)
          have HR3 := Lib.hid ((HR2.out.below HB2.out).more HB2.out.size)
          have hz2 := HB2.out.size
          clear ho2 hg2
          go_wp2_with (at_builtin; refine wpList_append_ints (by rfl) _ _ (by rfl) wr.heap.size (n + 1) 0 (c - n) w2.heap.size (L.take n ++ [x]) (L.drop n) _ _ (by rfl) HO2.out (by rfl) HR3.out HDK.out (fun h => by cases h) (by omega) (by omega) ?_; intro v3 w3 ho3 hg3)
          go_ret
          rw [HINS.out]
          exact add_own ho3 (grown_own HB2.out HO2.out hg3)
set_option maxRecDepth 100000 in
theorem ints19_yes {w : World} {A A2 : Option Addr} {n c c2 : Nat} {L : List Int} (h1 : Row w w.heap.size A L) (h2 : Row w w.heap.size A2 L) (hn : L.length = n) (hb : n ≤ 9223372036854775807) :
    Calls Try.prog 32 #[.slice A n c, .slice A2 n c2] w fun e w' => e = .returned (.bool true) ∧ ∃ q, w' = w.drewN q := by
  have H1 := Lib.hid h1
  have H2 := Lib.hid h2
  have HN := Lib.hid hn
  clear h1 h2 hn
  go_enter Try.func32, Try.ntmps32
  go_wp2
  go_loopw [5] (fun x wr => ∃ k q : Nat, k ≤ n ∧ x = .int .i64 k ∧ wr = w.drewN q) (fun x _ => n - (intOf x).toNat)
  case atStart => exact ⟨0, 0, Nat.zero_le _, rfl, rfl⟩
  case round =>
    obtain ⟨k, q, hk, rfl, rfl⟩ := hrel
    by_cases hlt : k < n
    · obtain ⟨g, o, rfl, hg, hc⟩ := H1.out.at (by rw [HN.out]; omega)
      obtain ⟨g2, o2, rfl, hg2, hc2⟩ := H2.out.at (by rw [HN.out]; omega)
      have a1 := hc k (by rw [HN.out]; exact hlt)
      have a2 := hc2 k (by rw [HN.out]; exact hlt)
      generalize L.getD k 0 = x at a1 a2
      have hk0 : (0 : Int) ≤ (k : Int) := by omega
      have hk1 : (k : Int) < (n : Int) := by omega
      clear hc hc2
      go_wp2
      go_quiet (fail)
      go_wp2
      exact ⟨⟨k + 1, _, hlt, by go_num, rfl⟩, by simp [intOf]; omega⟩
    · obtain ⟨rfl⟩ : n = k := by omega
      go_wp2
      go_ret
      exact ⟨rfl, _, rfl⟩

end Go.Proofs.Ytpghkdmljanncaa
