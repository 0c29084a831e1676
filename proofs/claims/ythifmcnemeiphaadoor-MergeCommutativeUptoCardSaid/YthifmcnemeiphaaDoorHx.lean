/- Layer 16: rows of strings, sorted; Interfaces of the package. -/
import Derived.Test.YthifmcnemeiphaaDoorHt
import Derived.Test.YthifmcnemeiphaaDoorHo
import Derived.Test.YthifmcnemeiphaaDoorShSort
namespace Go.Proofs.YthifmcnemeiphaaDoor
open Go.ChangeShapes Go.WideShapes Go.ChangeAt Go.RowKit Go.PlainAid Go.Maps
set_option linter.unusedSimpArgs false
set_option linter.unusedVariables false

def bs (l : List UInt8) : ByteArray := ⟨l.toArray⟩
theorem bs_data (s : ByteArray) : bs s.data.toList = s := by unfold bs; simp
theorem data_bs (l : List UInt8) : (bs l).data.toList = l := by unfold bs; simp
def rawL (S : List ByteArray) : List (List UInt8) := S.map fun s => s.data.toList
theorem raw_bs (S : List ByteArray) : (rawL S).map bs = S := by
  unfold rawL
  rw [List.map_map]
  conv => rhs; rw [← List.map_id S]
  apply List.map_congr_left
  intro s _
  exact bs_data s
def sortB (S : List ByteArray) : List ByteArray := ((rawL S).mergeSort fun x y => decide (x ≤ y)).map bs
theorem sortB_len (S : List ByteArray) : (sortB S).length = S.length := by
  unfold sortB
  rw [List.length_map, List.length_mergeSort]
  unfold rawL
  rw [List.length_map]
theorem sortB_mem {S : List ByteArray} {s : ByteArray} : s ∈ sortB S ↔ s ∈ S := by
  unfold sortB
  rw [List.mem_map]
  constructor
  · rintro ⟨l, hl, rfl⟩
    rw [List.mem_mergeSort] at hl
    unfold rawL at hl
    obtain ⟨t, ht, rfl⟩ := List.mem_map.1 hl
    rwa [bs_data]
  · intro h
    exact ⟨s.data.toList, List.mem_mergeSort.2 (List.mem_map.2 ⟨s, h, rfl⟩), bs_data s⟩
theorem sorted_eq (l : List (List UInt8)) : strs (l.map bs) = l.map encStr := by
  unfold strs
  rw [List.map_map]
  rfl
theorem own_putRowS {w : World} {B g n cap q : Nat} {L : List ByteArray} {M : List (List UInt8)} {os : Array Obj} (h : w.ownsRow B 9 1 (.slice (some ⟨g, 0, none⟩) n cap) n (strs L)) (hM : M.length = L.length) :
    (Sort.grow (Sort.putRow encStr (Sort.ahead w q) g 0 M.toArray) os).ownsRow B 9 1 (.slice (some ⟨g, 0, none⟩) n cap) n (strs (M.map bs)) ∧ w.grownBy (Sort.grow (Sort.putRow encStr (Sort.ahead w q) g 0 M.toArray) os) (some g) := by
  have h1 := h.1
  rw [strs_len] at h1
  rcases h.2 with ⟨hv, _⟩ | ⟨g', cap', cur, hv, hb, hg, hnc, hcm, hcs, htake⟩
  · cases hv
  · injection hv with e1 e2 e3
    injection e1 with e1
    injection e1 with e1
    subst e1 e3
    have hgl := lt_heap hg
    constructor
    · refine ⟨by rw [strs_len, List.length_map]; omega, Or.inr ⟨g, cap, Sort.putCells encStr 0 M.toArray cur, rfl, hb, ?_, hnc, hcm, by simp [Sort.putCells]; exact by omega, ?_⟩⟩
      · show ((w.heap.modify g (Sort.onCells (Sort.putCells encStr 0 M.toArray))) ++ os)[g]? = _
        rw [Array.getElem?_append_left (by rw [Array.size_modify]; exact hgl), Array.getElem?_modify, if_pos rfl, hg]
        rfl
      · rw [sorted_eq]
        apply List.ext_getElem?
        intro j
        rw [List.getElem?_take]
        by_cases hj : j < n * 1
        · rw [if_pos hj]
          have hjc : j < cur.size := by omega
          have hjM : j < M.length := by omega
          unfold Sort.putCells
          rw [Array.toList_mapIdx, List.getElem?_mapIdx, List.getElem?_map, List.getElem?_eq_getElem hjM, List.getElem?_eq_getElem (by simpa using hjc)]
          simp [hjM]
        · rw [if_neg hj, List.getElem?_eq_none (by rw [List.length_map]; omega)]
    · refine ⟨rfl, rfl, rfl, ?_, fun k hk hne => ?_⟩
      · show w.heap.size ≤ ((w.heap.modify g _) ++ os).size
        simp
      · show ((w.heap.modify g (Sort.onCells (Sort.putCells encStr 0 M.toArray))) ++ os)[k]? = w.heap[k]?
        rw [Array.getElem?_append_left (by rw [Array.size_modify]; exact hk), Array.getElem?_modify, if_neg (fun e => hne (by rw [e]))]
def SortRet (w : World) (B : Nat) (v : Value) (S : List ByteArray) (e : Ending) (w' : World) : Prop := e = .returned (.tuple #[]) ∧ w'.ownsRow B 9 1 v S.length (strs (sortB S)) ∧ w.grownBy w' v.ownBlock
theorem sort_any {w : World} {B c n : Nat} {A : Option Addr} {S : List ByteArray} (hn : S.length = n) (h : w.ownsRow B 9 1 (.slice A n c) n (strs S)) (hl : n ≤ 10000000) :
    Calls Tryd.prog 61 #[.slice A n c] w (SortRet w B (.slice A n c) S) := by
  subst hn
  rcases Nat.eq_zero_or_pos S.length with h0 | h0
  · obtain rfl : S = [] := List.eq_nil_of_length_eq_zero h0
    refine (Tryd.slices_Sort_string_none A c w).mono ?_
    rintro e w' ⟨rfl, rfl⟩
    refine ⟨rfl, ?_, World.grownBy.refl _ _⟩
    have : sortB [] = [] := by simp [sortB, rawL]
    rw [this]; exact h
  · obtain ⟨g, cap, hv, hgB, hgw⟩ := h.form h0
    injection hv with hA _ hcap
    subst hA hcap
    have HH : Sort.Holds encStr w g 0 (rawL S).toArray := fun j hj => by
      have hj' : j < S.length := by unfold rawL at hj; simpa using hj
      rw [Nat.zero_add]
      refine ⟨?_, h.frozenAt j⟩
      rw [h.cellAt j (by omega)]
      unfold strs
      rw [List.getElem?_map, List.getElem?_eq_getElem hj']
      simp [rawL, encStr, List.getElem?_eq_getElem hj']
    have HS := Tryd.slices_Sort_string g 0 c (rawL S) w HH hgw (by unfold rawL; rw [List.length_map]; omega)
    rw [show (rawL S).length = S.length by unfold rawL; rw [List.length_map]] at HS
    refine HS.mono ?_
    rintro e w' ⟨rfl, q, os, rfl⟩
    have hP := own_putRowS (q := q) (os := os) (M := (rawL S).mergeSort fun x y => decide (x ≤ y)) h (by rw [List.length_mergeSort]; unfold rawL; rw [List.length_map])
    exact ⟨rfl, hP.1, hP.2⟩
/-- is entry k an interface that entry i is or reaches? -/
noncomputable def itP (L : List CI) (i k : Nat) : Bool := ((k == i) || rcB L i k) && ((L[k]?).getD zeroCI).isI
/-- .. the names, among the first k entries -/
noncomputable def itF (L : List CI) (i : Nat) : Nat → List ByteArray
  | 0 => []
  | k + 1 => itF L i k ++ (if itP L i k = true then [((L[k]?).getD zeroCI).nm] else [])
theorem itF_len (L : List CI) (i : Nat) : ∀ k, (itF L i k).length ≤ k
  | 0 => Nat.le_refl _
  | k + 1 => by
    have := itF_len L i k
    unfold itF
    rw [List.length_append]
    split <;> simp <;> omega
noncomputable def ifL (L : List CI) (a : ByteArray) : List ByteArray := if fB L a = true then sortB (itF L (fI L a) L.length) else []
theorem mark_self {L : List CI} {i k : Nat} (hk : k < L.length) : ((rcL L i).set i true).getD k true = ((k == i) || rcB L i k) ∧ k < ((rcL L i).set i true).length := by
  have hl : (rcL L i).length = L.length := by unfold rcL; simp
  refine ⟨?_, by rw [List.length_set, hl]; exact hk⟩
  rw [List.getD_eq_getElem?_getD, List.getElem?_set]
  by_cases e : i = k
  · subst e
    rw [if_pos rfl, if_pos (by rw [hl]; exact hk)]
    simp
  · rw [if_neg e, ← List.getD_eq_getElem?_getD, (rcL_at hk).1]
    have : (k == i) = false := by simpa using fun h => e h.symm
    rw [this, Bool.false_or]
theorem Boxed.not_rowC {W : World} {B base e size n : Nat} {t : TypeId} {v : Value} {xs : List Value} {cs : Array Value} (hb : W.heap[B]? = some (.cells cs t)) (hne : t ≠ e) (ho : W.ownsRow base e size v n xs) : some B ≠ v.ownBlock := by
  rcases ho.2 with ⟨rfl, _⟩ | ⟨g, cap, cur, rfl, _, e3, _⟩
  · simp [Value.ownBlock]
  · intro h
    obtain rfl : B = g := by simpa [Value.ownBlock] using h
    rw [e3] at hb
    injection hb with hb
    injection hb with _ hb
    exact hne hb.symm
structure ItInv (L : List CI) (i g : Nat) (w W : World) (k : Nat) (v : Value) (wr : World) : Prop where
  mr : wr.heap[g]? = some (.cells (mks ((rcL L i).set i true)) 4)
  own : wr.ownsRow W.heap.size 9 1 v (itF L i k).length (strs (itF L i k))
  bel : Below W.heap.size W wr
set_option maxRecDepth 100000 in
set_option maxHeartbeats 4000000 in
theorem ifs_any (A : Option Addr) (n c : Nat) (L : List CI) (a : ByteArray) (w : World) (hn : L.length = n) (hc : n ≤ 1000000) (h : CIs w w.heap.size A L) (ha : a.size ≤ 9223372036854775807) :
    Calls Tryd.prog 30 #[.slice A n c, .string a] w (StrOwn w (ifL L a)) := by
  have HL := Lib.hid h
  have HN := Lib.hid hn
  clear h hn
  unfold ifL
  cases hf : fB L a with
  | false =>
    rw [if_neg (by simp)]
    have HF := Lib.hid hf
    clear hf
    go_enter Tryd.func30, Tryd.ntmps30
    go_wp2_with (first | (go_at_call 55; (with_reducible refine (finder_any A n c L _ HN.out hc HL.out).mono ?_); rintro e W ⟨F, rfl, hF, hb⟩; obtain ⟨kk, bb, rfl, he, hcon⟩ := hF; have he' : ∀ (args : Array Value) (w : World), (callFunc kk args).run Tryd.prog w = .ok (.enter kk args) w := he; have HB := Lib.hid hb; have HC := Lib.hid (show Calls Tryd.prog kk #[.string a, .pointer (some ⟨bb, 0, none⟩)] W fun e w' => e = .returned (.tuple #[.int .i64 (fI L a), .bool (fB L a)]) ∧ Below W.heap.size W w' from hcon a W ha (Below.refl _ _)); rw [HF.out] at HC; clear he hcon hb) | (refine (HC.out).mono ?_; rintro e w1 ⟨rfl, hb1⟩; have HB1 := Lib.hid (below_on HB.out hb1); clear hb1))
    go_ret
    exact ⟨_, rfl, World.ownsRow_nil _ _ _ _, HB1.out⟩
  | true =>
    rw [if_pos rfl]
    obtain ⟨i, hi⟩ : ∃ i, fI L a = i := ⟨_, rfl⟩
    have hil : i < n := by rw [← hi]; exact fI_lt HN.out hf
    rw [hi]
    have HF := Lib.hid (And.intro hf hi)
    clear hf hi
    go_enter Tryd.func30, Tryd.ntmps30
    go_upto_region 6 with (first | (go_at_call 55; (with_reducible refine (finder_any A n c L _ HN.out hc HL.out).mono ?_); rintro e W ⟨F, rfl, hF, hb⟩; have HFD := Lib.hid hF; obtain ⟨kk, bb, rfl, he, hcon⟩ := hF; have he' : ∀ (args : Array Value) (w : World), (callFunc kk args).run Tryd.prog w = .ok (.enter kk args) w := he; have HB := Lib.hid hb; have HC := Lib.hid (show Calls Tryd.prog kk #[.string a, .pointer (some ⟨bb, 0, none⟩)] W fun e w' => e = .returned (.tuple #[.int .i64 (fI L a), .bool (fB L a)]) ∧ Below W.heap.size W w' from hcon a W ha (Below.refl _ _)); rw [HF.out.1, HF.out.2] at HC; clear he hcon hb) | (go_at_call 58; (with_reducible refine (reached_any A n c L _ i _ HN.out hc (HL.out.up (below_on HB.out HB1.out)) (HFD.out.up HB1.out) hil).mono ?_); rintro e w2 ⟨g2, rfl, hm, hglo, hb2⟩; have HM := Lib.hid hm; have HB2 := Lib.hid (below_on (below_on HB.out HB1.out) hb2); clear hm hb2) | (refine (HC.out).mono ?_; rintro e w1 ⟨rfl, hb1⟩; have HB1 := Lib.hid hb1; clear hb1))
    have hiL : i < L.length := by rw [HN.out]; exact hil
    have hglo' : w.heap.size ≤ g2 := Nat.le_trans (below_on HB.out HB1.out).size hglo
    have m1 := mark_at (b := rcB L i i) HM.out (rcL_at hiL).2 (rcL_at hiL).1
    have m2 := mark_free HM.out i
    have hlm := lt_heap HM.out
    go_upto_region 7 with fail
    have HW2 := Lib.hid (show (w2.setCell ⟨g2, i, none⟩ (.bool true)).heap[g2]? = some (.cells (mks ((rcL L i).set i true)) 4) by rw [show mks ((rcL L i).set i true) = (mks (rcL L i)).setIfInBounds i (.bool true) by unfold mks; simp [List.map_set]]; exact heap_setCell_same w2 _ i _ _ _ HM.out)
    have HBS := Lib.hid (below_st (p := ⟨g2, i, none⟩) HB2.out hglo' (.bool true))
    clear m1 m2
    generalize w2.setCell ⟨g2, i, none⟩ (.bool true) = W2 at HW2 HBS ⊢
    have HST := Lib.hid (show ItInv L i g2 w W2 0 (.slice none 0 0) W2 from ⟨HW2.out, World.ownsRow_nil _ _ _ _, Below.refl _ _⟩)
    go_wp2
    go_loopw [9, 31] (fun v jv wr => ∃ k : Nat, k ≤ n ∧ jv = .int .i64 k ∧ Hid (ItInv L i g2 w W2 k v wr)) (fun _ jv _ => n - (intOf jv).toNat)
    case atStart => exact ⟨0, Nat.zero_le _, rfl, HST⟩
    case round =>
      obtain ⟨k, hk, rfl, HI⟩ := hrel
      obtain ⟨vA, vc, rfl, hvc1, hvc2⟩ := own_shape HI.out.own
      clear HST
      have hil2 := itF_len L i k
      by_cases hlt : k < n
      · have hkL : k < L.length := by rw [HN.out]; exact hlt
        obtain ⟨g, o, rfl, hg, hok, c0, c1, c2, c3⟩ := (HL.out.below (below_on HBS.out HI.out.bel)).at hkL
        obtain ⟨x, hx⟩ : ∃ x, L[k] = x := ⟨_, rfl⟩
        have HX := Lib.hid (show (L[k]?).getD zeroCI = x by rw [List.getElem?_eq_getElem hkL]; exact hx)
        rw [hx] at c0 c1 c2 c3
        clear hok hx
        have HBX := Lib.hid (World.alloc_heap_new wr (.cells #[.string x.nm, .string x.su, .slice x.iA x.n x.c, .bool x.isI] 30))
        have HM2 := Lib.hid (laid_old (o' := .cells #[.string x.nm, .string x.su, .slice x.iA x.n x.c, .bool x.isI] 30) HI.out.mr)
        have HO2 := Lib.hid (HI.out.own.alloc (.cells #[.string x.nm, .string x.su, .slice x.iA x.n x.c, .bool x.isI] 30))
        have HB3 := Lib.hid (below_al HI.out.bel (.cells #[.string x.nm, .string x.su, .slice x.iA x.n x.c, .bool x.isI] 30))
        go_upto_region 11 with fail
        generalize wr.alloc (.cells #[.string x.nm, .string x.su, .slice x.iA x.n x.c, .bool x.isI] 30) = W3 at HBX HM2 HO2 HB3 ⊢
        obtain ⟨b, hb⟩ : ∃ b, ((k == i) || rcB L i k) = b := ⟨_, rfl⟩
        have m1 := mark_at (b := b) HM2.out (mark_self hkL).2 ((mark_self hkL).1.trans hb)
        generalize wr.heap.size = B11 at HBX ⊢
        obtain ⟨⟨x0, x1, x2, x3⟩, _⟩ := four_cells HBX.out
        clear c0 c1 c2 c3
        cases hP : (b && x.isI) with
        | false =>
          have J := Lib.hid (show ItInv L i g2 w W2 (k + 1) (.slice vA (itF L i k).length vc) W3 from by
            have e : itF L i (k + 1) = itF L i k := by
              show itF L i k ++ _ = _
              rw [if_neg (by unfold itP; rw [hb, HX.out, hP]; simp), List.append_nil]
            refine ⟨HM2.out, ?_, HB3.out⟩
            rw [e]; exact HO2.out)
          clear hb
          cases b with
          | false =>
            go_wp2
            go_roundw
            case rel => exact ⟨k + 1, by omega, by go_num, J⟩
            case measure => simp [intOf]; omega
          | true =>
            rw [Bool.true_and] at hP
            go_wp2
            go_roundw
            case rel => exact ⟨k + 1, by omega, by go_num, J⟩
            case measure => simp [intOf]; omega
        | true =>
          rw [Bool.and_eq_true] at hP
          obtain ⟨rfl, hxi⟩ := hP
          have e : itF L i (k + 1) = itF L i k ++ [x.nm] := by
            show itF L i k ++ _ = _
            rw [if_pos (by unfold itP; rw [hb, HX.out, hxi]; rfl), HX.out]
          have HE := Lib.hid e
          clear hb e
          go_upto_region 13 with (at_builtin; refine wpList_append_strs rfl _ _ rfl W2.heap.size (itF L i k).length 1 1 (W3.heap.size + 1) (itF L i k) [x.nm] (.slice vA (itF L i k).length vc) (some ⟨W3.heap.size, 0, none⟩) rfl (HO2.out.alloc _) rfl (srow_new _ _) rfl (fun h => by cases h) (by omega) (by rw [World.size_alloc]; have := HB3.out.size; omega) ?_; intro v' w4 hown hgrow)
          obtain ⟨g', cap', rfl⟩ := ownsRow_succ hown
          have J := Lib.hid (show ItInv L i g2 w W2 (k + 1) (.slice (some ⟨g', 0, none⟩) ((itF L i k).length + 1) cap') w4 from by
            refine ⟨(hgrow.block g2 (by rw [World.size_alloc]; have := lt_heap HM2.out; omega) (Boxed.not_rowC HM2.out (by decide) HO2.out)).trans (laid_old HM2.out), ?_, (below_al HB3.out _).grown hgrow (by rw [World.size_alloc]; have := HB3.out.size; omega) (fun q hq => (HO2.out.lt q hq).1)⟩
            rw [HE.out, List.length_append, List.length_singleton]; exact hown)
          clear hown hgrow
          go_wp2
          go_roundw
          case rel => exact ⟨k + 1, by omega, by go_num, J⟩
          case measure => simp [intOf]; omega
      · obtain rfl : k = n := by omega
        have HLn := Lib.hid HN.out
        rw [HN.out]
        obtain ⟨S, hS⟩ : ∃ S, itF L i k = S := ⟨_, rfl⟩
        have HO := Lib.hid HI.out.own
        have HE := Lib.hid (show itF L i L.length = S by rw [HN.out]; exact hS)
        rw [hS] at HO hvc1 hil2
        try rw [hS]
        clear hS
        go_wp2_with (go_at_call 61; (with_reducible refine (sort_any rfl HO.out (by omega)).mono ?_); rintro e w5 ⟨rfl, ho5, hg5⟩; have HO5 := Lib.hid ho5; have HG5 := Lib.hid hg5; clear ho5 hg5)
        go_ret
        refine ⟨.slice vA S.length vc, rfl, ?_, below_on HBS.out (HI.out.bel.grown HG5.out HI.out.bel.size (fun q hq => (HO.out.lt q hq).1))⟩
        rw [HE.out, sortB_len]
        exact own_base HO5.out HBS.out.size
end Go.Proofs.YthifmcnemeiphaaDoor
