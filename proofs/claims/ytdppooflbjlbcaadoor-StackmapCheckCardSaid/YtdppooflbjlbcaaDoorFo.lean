/- Layer 19: a row put in order, each number once. -/
import Derived.Test.YtdppooflbjlbcaaDoorInApp
import Derived.Test.YtdppooflbjlbcaaDoorInTg
import Derived.Test.YtdppooflbjlbcaaDoorInChk
import Derived.Shelf.Sort.Plain
namespace Go.Proofs.YtdppooflbjlbcaaDoor.I
open Go.ChangeShapes Go.WideShapes Go.ChangeAt Go.RowKit Go.PlainAid
set_option linter.unusedSimpArgs false
set_option linter.unusedVariables false

theorem own_leF {w : World} {B B' e k n : Nat} {v : Value} {xs : List Value} (h : w.ownsRow B e k v n xs) (hB : B' ≤ B) : w.ownsRow B' e k v n xs := by
  refine ⟨h.1, ?_⟩
  rcases h.2 with h2 | ⟨g, cap, cur, hv, hg, hh, rest⟩
  · exact Or.inl h2
  · exact Or.inr ⟨g, cap, cur, hv, by omega, hh, rest⟩
theorem get_someF {α : Type} {l : List α} {k : Nat} (h : k < l.length) : ∃ x, l[k]? = some x := ⟨l[k], List.getElem?_eq_getElem _⟩
theorem get_ltF {α : Type} {l : List α} {k : Nat} {x : α} (h : l[k]? = some x) : k < l.length := by
  rcases Nat.lt_or_ge k l.length with h' | h'
  · exact h'
  · rw [List.getElem?_eq_none h'] at h; cases h
theorem take_snocF {α : Type} {l : List α} {k : Nat} {x : α} (h : l[k]? = some x) : l.take (k + 1) = l.take k ++ [x] := by rw [List.take_add_one, h]; rfl
theorem wpList_append_liesF {w : World} {ops : Array Oper} {rest : List Oper} {o : Oper} {a : Act} {Q : Exit → Act → World → Prop} (hg : o.guard = none) (s x : Operand)
    (hop : o.op = Op.call { callee := Callee.builtin Builtin.append, args := #[s, x], argTypes := #[32, 32] })
    (base n c : Nat) (xs : List Int) (y : Int) (v : Value) (ad : Addr) (hs : a.eval s = v) (hown : w.ownsRow base 3 1 v n (Ri xs)) (hx : a.eval x = .slice (some ad) 1 c)
    (hrow : Row w w.heap.size (some ad) [y]) (hb : n + 1 ≤ 10000000) (hbase : base ≤ w.heap.size)
    (h : ∀ A' c' w', w'.ownsRow base 3 1 (.slice A' (n + 1) c') (n + 1) (Ri (xs ++ [y])) → w.grownBy w' v.ownBlock → Lies w v (.slice A' (n + 1) c') → wpList Tryd.prog ops Q rest (a.put o.dst (.slice A' (n + 1) c')) w') : wpList Tryd.prog ops Q (o :: rest) a w := by
  obtain ⟨i0, hi, hz0, hz1, hz2⟩ := info_parts infoI
  refine _root_.Go.wpList_append_lies w hg s x 32 hop base 3 i0 (.int .i64 0) 1 8 Tryd.underlying32 hi hz0 hz1 hz2 rfl (by decide) v n (Ri xs) hs hown ad 1 c (Ri [y]) hx rfl hrow.news (ri_one [y]) Nat.zero_lt_one (by unfold maxLen; omega) (by omega) hbase w.heap.size rfl ?_
  intro g cap w' h1 h2 h3 h4
  refine h (some ⟨g, 0, none⟩) cap w' (by rw [ri_app]; exact h1) h2 ?_
  rcases h3 with h3 | h3
  · exact Or.inl h3.symm
  · exact Or.inr ⟨g, rfl, by omega⟩
theorem uniq_lt : ∀ {L M : List Int}, L.Pairwise (· < ·) → M.Pairwise (· < ·) → (∀ x, x ∈ L ↔ x ∈ M) → L = M
  | [], [], _, _, _ => rfl
  | [], y :: M, _, _, h => by have := (h y).2 List.mem_cons_self; cases this
  | x :: L, [], _, _, h => by have := (h x).1 List.mem_cons_self; cases this
  | x :: L, y :: M, hL, hM, h => by
    obtain ⟨h1, h2⟩ := List.pairwise_cons.1 hL
    obtain ⟨h3, h4⟩ := List.pairwise_cons.1 hM
    obtain rfl : x = y := by
      have a := (h x).1 List.mem_cons_self
      have b := (h y).2 List.mem_cons_self
      rcases List.mem_cons.1 a with a | a
      · exact a
      · rcases List.mem_cons.1 b with b | b
        · exact b.symm
        · have := h3 x a; have := h1 y b; omega
    congr 1
    refine uniq_lt h2 h4 fun z => ?_
    constructor
    · intro hz
      rcases List.mem_cons.1 ((h z).1 (List.mem_cons_of_mem _ hz)) with rfl | hm
      · have := h1 z hz; omega
      · exact hm
    · intro hz
      rcases List.mem_cons.1 ((h z).2 (List.mem_cons_of_mem _ hz)) with rfl | hm
      · have := h3 z hz; omega
      · exact hm
theorem cu_ord {d : Array Int} (hs : ∀ i j, i ≤ j → j < d.size → d[i]! ≤ d[j]!) : ∀ m, m ≤ d.size → (Lib.compactUpTo d m).Pairwise (· < ·) ∧ ∀ x, x ∈ Lib.compactUpTo d m ↔ ∃ j, j < m ∧ d[j]! = x
  | 0, _ => ⟨by simp [Lib.compactUpTo], fun x => by simp [Lib.compactUpTo]⟩
  | m + 1, hm => by
    obtain ⟨h1, h2⟩ := cu_ord hs m (by omega)
    rw [Lib.compactUpTo_succ]
    by_cases hk : Lib.keeps d m = true
    · rw [if_pos hk]
      unfold Lib.keeps at hk
      have hk := of_decide_eq_true hk
      refine ⟨List.pairwise_append.2 ⟨h1, List.pairwise_singleton _ _, fun a ha b hb => ?_⟩, fun x => ?_⟩
      · obtain rfl := List.mem_singleton.1 hb
        obtain ⟨j, hj, rfl⟩ := (h2 a).1 ha
        rcases hk with hk | hk
        · omega
        · have e1 := hs j (m - 1) (by omega) (by omega)
          have e2 := hs (m - 1) m (by omega) (by omega)
          omega
      · rw [List.mem_append, h2, List.mem_singleton]
        constructor
        · rintro (⟨j, hj, he⟩ | rfl)
          · exact ⟨j, by omega, he⟩
          · exact ⟨m, by omega, rfl⟩
        · rintro ⟨j, hj, he⟩
          rcases (by omega : j < m ∨ j = m) with h | rfl
          · exact Or.inl ⟨j, h, he⟩
          · exact Or.inr he.symm
    · rw [if_neg hk, List.append_nil]
      unfold Lib.keeps at hk
      have hk2 : ¬ (m = 0 ∨ d[m]! ≠ d[m - 1]!) := fun h => hk (decide_eq_true h)
      have hm0 : m ≠ 0 := fun h => hk2 (Or.inl h)
      have he : d[m]! = d[m - 1]! := Classical.byContradiction fun h => hk2 (Or.inr h)
      refine ⟨h1, fun x => ?_⟩
      rw [h2]
      constructor
      · rintro ⟨j, hj, h⟩; exact ⟨j, by omega, h⟩
      · rintro ⟨j, hj, h⟩
        rcases (by omega : j < m ∨ j = m) with h' | rfl
        · exact ⟨j, h', h⟩
        · exact ⟨j - 1, by omega, by rw [← he]; exact h⟩
/-- a row in order, each number once -/
def ordL (L : List Int) : List Int := Lib.compact (L.mergeSort fun x y => decide (x ≤ y))
theorem ordL_spec (L : List Int) : (ordL L).Pairwise (· < ·) ∧ ∀ x, x ∈ ordL L ↔ x ∈ L := by
  unfold ordL Lib.compact
  have hp := List.mergeSort_perm L (fun x y => decide (x ≤ y))
  have hs := List.pairwise_mergeSort (le := fun (x y : Int) => decide (x ≤ y)) (fun a b c h1 h2 => by simp at *; omega) (fun a b => by simp; omega) L
  obtain ⟨S, hS⟩ : ∃ S, L.mergeSort (fun x y => decide (x ≤ y)) = S := ⟨_, rfl⟩
  rw [hS] at hp hs ⊢
  have hg : ∀ j, j < S.length → S.toArray[j]! = S.getD j 0 := by
    intro j hj
    rw [List.getD_eq_getElem?_getD, List.getElem?_eq_getElem hj]
    simp [hj]
  have key : ∀ i j, i ≤ j → j < S.toArray.size → S.toArray[i]! ≤ S.toArray[j]! := by
    intro i j hij hj
    have hj' : j < S.length := by simpa using hj
    rw [hg i (by omega), hg j hj', List.getD_eq_getElem?_getD, List.getD_eq_getElem?_getD, List.getElem?_eq_getElem hj', List.getElem?_eq_getElem (by omega : i < S.length)]
    show S[i] ≤ S[j]
    rcases Nat.lt_or_eq_of_le hij with h | rfl
    · have := List.pairwise_iff_getElem.1 hs i j (by omega) hj' h
      simpa using this
    · exact Int.le_refl _
  have := cu_ord key S.length (by simp)
  refine ⟨this.1, fun x => ?_⟩
  rw [this.2, ← hp.mem_iff]
  constructor
  · rintro ⟨j, hj, rfl⟩
    rw [hg j hj, List.getD_eq_getElem?_getD, List.getElem?_eq_getElem hj]
    exact List.getElem_mem hj
  · intro hx
    obtain ⟨j, hj, rfl⟩ := List.getElem_of_mem hx
    refine ⟨j, hj, ?_⟩
    rw [hg j hj, List.getD_eq_getElem?_getD, List.getElem?_eq_getElem hj]; rfl
theorem ordL_len (L : List Int) : (ordL L).length ≤ L.length := by
  unfold ordL
  have := Lib.compact_length_le (L.mergeSort fun x y => decide (x ≤ y))
  rw [List.length_mergeSort] at this
  exact this
/-- fewer of a row -/
theorem own_shrink {w : World} {B e g n m cap : Nat} {xs : List Value} (h : w.ownsRow B e 1 (.slice (some ⟨g, 0, none⟩) n cap) n xs) (hm : m ≤ n) : w.ownsRow B e 1 (.slice (some ⟨g, 0, none⟩) m cap) m (xs.take m) := by
  have h1 := h.1
  rcases h.2 with ⟨hv, _⟩ | ⟨g', cap', cur, hv, hb, hg, hnc, hcm, hcs, htake⟩
  · cases hv
  · injection hv with e1 e2 e3
    injection e1 with e1
    injection e1 with e1
    subst e1 e3
    refine ⟨by rw [List.length_take]; omega, Or.inr ⟨g, cap, cur, rfl, hb, hg, by omega, hcm, hcs, ?_⟩⟩
    rw [← htake, List.take_take, Nat.min_eq_left (by omega), Nat.mul_one]
theorem own_setCells {B e g n cap : Nat} : ∀ (vs : List Value) (o : Nat) (w : World) (xs : List Value), w.ownsRow B e 1 (.slice (some ⟨g, 0, none⟩) n cap) n xs → o + vs.length ≤ n →
    (w.setCells g o vs).ownsRow B e 1 (.slice (some ⟨g, 0, none⟩) n cap) n (xs.take o ++ vs ++ xs.drop (o + vs.length)) ∧ w.grownBy (w.setCells g o vs) (some g)
  | [], o, w, xs, h, _ => by
    refine ⟨?_, World.grownBy.refl _ _⟩
    show w.ownsRow _ _ _ _ _ _
    simpa using h
  | v :: r, o, w, xs, h, hl => by
    have h1 := h.stored o v
    have hx := h.1
    simp only [List.length_cons] at hl
    have ih := own_setCells r (o + 1) (w.setCell ⟨g, o, none⟩ v) (xs.set o v) h1.1 (by omega)
    refine ⟨?_, grown_trans h1.2 ih.2⟩
    have e : (xs.set o v).take (o + 1) ++ r ++ (xs.set o v).drop (o + 1 + r.length) = xs.take o ++ v :: r ++ xs.drop (o + (v :: r).length) := by
      have ho : o < xs.length := by omega
      have hset : (xs.set o v)[o]? = some v := by rw [List.getElem?_set, if_pos rfl, if_pos ho]
      rw [List.take_add_one, hset, List.take_set_of_le (Nat.le_refl _), List.drop_set_of_lt (by omega)]
      simp only [List.length_cons, Option.toList_some, List.append_assoc, List.cons_append, List.nil_append]
      rw [show o + 1 + r.length = o + (r.length + 1) by omega]
    rw [← e]
    exact ih.1
theorem own_putRow {w : World} {B g n cap q : Nat} {L M : List Int} {os : Array Obj} (h : w.ownsRow B 3 1 (.slice (some ⟨g, 0, none⟩) n cap) n (Ri L)) (hM : M.length = L.length) :
    (Sort.grow (Sort.putRow (Value.int .i64) (Sort.ahead w q) g 0 M.toArray) os).ownsRow B 3 1 (.slice (some ⟨g, 0, none⟩) n cap) n (Ri M) ∧ w.grownBy (Sort.grow (Sort.putRow (Value.int .i64) (Sort.ahead w q) g 0 M.toArray) os) (some g) := by
  have h1 := h.1
  rw [ri_len] at h1
  rcases h.2 with ⟨hv, _⟩ | ⟨g', cap', cur, hv, hb, hg, hnc, hcm, hcs, htake⟩
  · cases hv
  · injection hv with e1 e2 e3
    injection e1 with e1
    injection e1 with e1
    subst e1 e3
    have hgl := lt_heap hg
    constructor
    · refine ⟨by rw [ri_len]; omega, Or.inr ⟨g, cap, Sort.putCells (Value.int .i64) 0 M.toArray cur, rfl, hb, ?_, hnc, hcm, by simp [Sort.putCells]; exact by omega, ?_⟩⟩
      · show ((w.heap.modify g (Sort.onCells (Sort.putCells (Value.int .i64) 0 M.toArray))) ++ os)[g]? = _
        rw [Array.getElem?_append_left (by rw [Array.size_modify]; exact hgl), Array.getElem?_modify, if_pos rfl, hg]
        rfl
      · apply List.ext_getElem?
        intro j
        rw [List.getElem?_take]
        by_cases hj : j < n * 1
        · rw [if_pos hj]
          have hjc : j < cur.size := by omega
          have hjM : j < M.length := by omega
          unfold Ri Sort.putCells
          rw [Array.toList_mapIdx, List.getElem?_mapIdx, List.getElem?_map, List.getElem?_eq_getElem hjM, List.getElem?_eq_getElem (by simpa using hjc)]
          simp [hjM]
        · rw [if_neg hj, List.getElem?_eq_none (by rw [ri_len]; omega)]
    · refine ⟨rfl, rfl, rfl, ?_, fun k hk hne => ?_⟩
      · show w.heap.size ≤ ((w.heap.modify g _) ++ os).size
        simp
      · show ((w.heap.modify g (Sort.onCells (Sort.putCells (Value.int .i64) 0 M.toArray))) ++ os)[k]? = w.heap[k]?
        rw [Array.getElem?_append_left (by rw [Array.size_modify]; exact hk), Array.getElem?_modify, if_neg (fun e => hne (by rw [e]))]
/-- what 'ordered' hands back -/
def OrdRet (w : World) (B : Nat) (v : Value) (L : List Int) (e : Ending) (w' : World) : Prop :=
  ∃ v', e = .returned v' ∧ w'.ownsRow B 3 1 v' (ordL L).length (Ri (ordL L)) ∧ v'.ownBlock = v.ownBlock ∧ w.grownBy w' v.ownBlock
set_option maxRecDepth 100000 in
theorem ord_any {w : World} {B n : Nat} {v : Value} {L : List Int} (h : w.ownsRow B 3 1 v n (Ri L)) (hn : n ≤ 10000000) : Calls Tryd.prog 100 #[v] w (OrdRet w B v L) := by
  have hl : L.length = n := by have := h.1; rw [ri_len] at this; omega
  obtain ⟨A, c, rfl, hc, hcm, hnil⟩ := own_form h
  have HO := Lib.hid h
  have HL := Lib.hid hl
  rcases Nat.eq_zero_or_pos n with rfl | h0
  · obtain rfl : L = [] := List.eq_nil_of_length_eq_zero hl
    go_enter Tryd.func100, Tryd.ntmps100
    go_wp2_with (first | (go_at_call 124; refine (Tryd.slices_Sort_int_none A c _).mono ?_; rintro e w1 ⟨rfl, rfl⟩) | (go_at_call 125; refine (Tryd.slices_Compact_int_empty A c _).mono ?_; rintro e w1 ⟨rfl, rfl⟩))
    go_ret
    exact ⟨_, rfl, by rw [show ordL [] = [] by simp [ordL, Lib.compact, Lib.compactUpTo]]; exact HO.out, rfl, World.grownBy.refl _ _⟩
  · obtain ⟨g, cap, hv, hgB, hgw⟩ := h.form h0
    injection hv with hA _ hcap
    subst hA hcap
    have HH := Lib.hid (show Sort.Holds (Value.int .i64) w g 0 L.toArray from fun j hj => by
      have hj' : j < L.length := by simpa using hj
      rw [Nat.zero_add]
      refine ⟨?_, h.frozenAt j⟩
      rw [h.cellAt j (by omega)]
      unfold Ri
      rw [List.getElem?_map, List.getElem?_eq_getElem hj']
      simp [hj'])
    have HS := Lib.hid (Any.slices_Sort_int Tryd.lays189 g 0 c L w HH.out hgw (by omega))
    rw [hl] at HS
    clear HH
    obtain ⟨M, hM⟩ : ∃ M, L.mergeSort (fun x y => decide (x ≤ y)) = M := ⟨_, rfl⟩
    have hMl : M.length = L.length := by rw [← hM, List.length_mergeSort]
    have HM := Lib.hid hM
    rw [hM] at HS
    go_enter Tryd.func100, Tryd.ntmps100
    go_upto_region 2 with (go_at_call 124; refine HS.out.mono ?_; rintro e w1 ⟨rfl, q, os, rfl⟩)
    have hP := own_putRow (q := q) (os := os) HO.out hMl
    generalize Sort.grow (Sort.putRow (Value.int .i64) (Sort.ahead w q) g 0 M.toArray) os = W1 at hP ⊢
    have hMn : M.length = n := by omega
    have HC := Lib.hid (Tryd.slices_Compact_int_cells g 0 n c M W1 (by omega) (by omega) hc (fun j hj => by
      rw [Nat.zero_add, hP.1.cellAt j (by omega)]
      unfold Ri
      rw [List.getElem?_map, List.getElem?_eq_getElem hj, List.getD_eq_getElem?_getD, List.getElem?_eq_getElem hj]; rfl) (fun j hj => by rw [Nat.zero_add]; exact hP.1.frozenAt j))
    rw [List.take_of_length_le (by omega)] at HC
    have HP := Lib.hid hP
    clear hP HS
    have hcl : (Lib.compact M).length ≤ n := by have := Lib.compact_length_le M; omega
    go_wp2_with (go_at_call 125; refine HC.out.mono ?_; rintro e w2 ⟨rfl, q2, rfl⟩)
    go_ret
    have ho : ordL L = Lib.compact M := by unfold ordL; rw [HM.out]
    have hset := own_setCells ((Lib.compact M ++ List.replicate (n - (Lib.compact M).length) 0).map (Value.int .i64)) 0 (W1.drewN q2) (Ri M) (own_drewN HP.out.1 q2) (by simp; omega)
    have hlen : ((Lib.compact M ++ List.replicate (n - (Lib.compact M).length) 0).map (Value.int .i64)).length = n := by simp; omega
    rw [List.take_zero, List.nil_append, Nat.zero_add, hlen, List.drop_eq_nil_of_le (by rw [ri_len]; omega), List.append_nil, List.map_append, List.map_replicate] at hset
    have hsh := own_shrink hset.1 hcl
    rw [List.take_append_of_le_length (by rw [List.length_map]; exact Nat.le_refl _), List.take_of_length_le (by rw [List.length_map]; exact Nat.le_refl _)] at hsh
    refine ⟨.slice (some ⟨g, 0, none⟩) (Lib.compact M).length c, rfl, by rw [ho]; exact hsh, rfl, ?_⟩
    exact grown_trans HP.out.2 (grown_dr hset.2)

end Go.Proofs.YtdppooflbjlbcaaDoor.I
