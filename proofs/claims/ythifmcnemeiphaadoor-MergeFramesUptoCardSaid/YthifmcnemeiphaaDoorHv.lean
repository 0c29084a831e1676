/- Layer 16: Superclasses, in the package and in its reference. -/
import Derived.Test.YthifmcnemeiphaaDoorHt
import Derived.Test.YthifmcnemeiphaaDoorHo
namespace Go.Proofs.YthifmcnemeiphaaDoor
open Go.ChangeShapes Go.WideShapes Go.ChangeAt Go.RowKit Go.PlainAid Go.Maps
set_option linter.unusedSimpArgs false
set_option linter.unusedVariables false

/-- a name and its superclasses, at most k of them -/
def chain (L : List CI) : Nat → ByteArray → List ByteArray
  | 0, _ => []
  | k + 1, a => if fB L a = true then a :: chain L k (lkC L a).su else []
def supL (L : List CI) (a : ByteArray) : List ByteArray := chain L (L.length + 1) a
theorem chain_no {L : List CI} {a : ByteArray} (h : fB L a = false) : ∀ k, chain L k a = []
  | 0 => rfl
  | k + 1 => by unfold chain; rw [h]; rfl
theorem chain_yes {L : List CI} {a : ByteArray} {k : Nat} (h : fB L a = true) : chain L (k + 1) a = a :: chain L k (lkC L a).su := by rw [chain, if_pos h]
theorem chain_len (L : List CI) : ∀ k a, (chain L k a).length ≤ k
  | 0, _ => Nat.le_refl _
  | k + 1, a => by
    unfold chain
    split
    · have := chain_len L k (lkC L a).su
      simp; exact this
    · exact Nat.zero_le _
theorem empty_cls : clsB ⟨#[]⟩ = false := by decide +kernel
theorem VH.nonempty {L : List CI} (h : VH L) {s : ByteArray} (hf : fB L s = true) : s.toList.isEmpty = false := by
  obtain ⟨_, hl⟩ := fI_of hf
  have h1 := (h.all (List.getElem?_eq_getElem hl)).1
  rw [fnd_nm hl] at h1
  cases hs : s.toList with
  | cons _ _ => rfl
  | nil => rw [s_nil.2 hs, empty_cls] at h1; cases h1
theorem VH.up {L : List CI} (h : VH L) {a : ByteArray} (ha : fB L a = true) (hs : fB L (lkC L a).su = true) : Ed L (fI L a) (fI L (lkC L a).su) := by
  obtain ⟨e1, l1⟩ := fI_of ha
  obtain ⟨e2, l2⟩ := fI_of hs
  have hne := h.nonempty hs
  rw [lkC_yes l1] at hne e2 l2 ⊢
  rw [e1, e2]
  refine ⟨l1, _, ?_, rfl, l2⟩
  unfold nxt
  refine List.mem_append_left _ ?_
  rw [if_neg (fun e => by rw [e] at hne; cases hne)]
  exact List.mem_singleton.2 rfl
theorem own_set_apart {W : World} {base e n B j : Nat} {t : TypeId} {v u : Value} {xs : List Value} {cs : Array Value} (ho : W.ownsRow base e 1 v n xs) (hb : W.heap[B]? = some (.cells cs t)) (hne : t ≠ e) : (W.setCell ⟨B, j, none⟩ u).ownsRow base e 1 v n xs := by
  refine ⟨ho.1, ho.2.imp id ?_⟩
  rintro ⟨g, cap, cur, e1, e2, e3, e4⟩
  have hg : g ≠ B := by
    rintro rfl
    rw [hb] at e3
    injection e3 with e3
    injection e3 with _ e3
    exact hne e3
  exact ⟨g, cap, cur, e1, e2, (heap_setCell_other W ⟨B, j, none⟩ g _ hg).trans e3, e4⟩
structure SpInv (L : List CI) (n : Nat) (a : ByteArray) (w : World) (mB k : Nat) (v : Value) (S : List ByteArray) (M : List Bool) (b : ByteArray) (wr : World) : Prop where
  mr : wr.heap[mB]? = some (.cells (mks M) 4)
  ml : M.length = n
  mar : ∀ j, M.getD j false = true → ∃ s ∈ S, fI L s = j
  rc : ∀ s ∈ S, fB L b = true → Rc L (fI L s) (fI L b)
  tot : supL L a = S ++ chain L (n + 1 - S.length) b
  cnt : un M + S.length = n
  mu : un M ≤ k
  own : wr.ownsRow mB 9 1 v S.length (strs S)
  bel : Below w.heap.size w wr
  mlo : w.heap.size ≤ mB
  sz : b.size ≤ 9223372036854775807
theorem SpInv.free {L : List CI} {n mB k : Nat} {a b : ByteArray} {w wr : World} {v : Value} {S : List ByteArray} {M : List Bool} (I : SpInv L n a w mB k v S M b wr) (hv : VH L) (hn : L.length = n) (hb : fB L b = true) : M.getD (fI L b) true = false := by
  have hl := fI_lt hn hb
  cases hm : M.getD (fI L b) true with
  | false => rfl
  | true =>
    rw [getD_def (by rw [I.ml]; exact hl) true false] at hm
    obtain ⟨s, hs, he⟩ := I.mar _ hm
    have hr := I.rc s hs hb
    rw [he] at hr
    obtain ⟨e, l⟩ := fI_of hb
    have hx := hv.all (List.getElem?_eq_getElem l)
    rw [e] at hr
    exact absurd hr hx.2.2.2.2.2.2
theorem SpInv.step {L : List CI} {n mB k k' : Nat} {a b : ByteArray} {w wr w3 : World} {v v' : Value} {S : List ByteArray} {M : List Bool} {o : Obj} (I : SpInv L n a w mB k v S M b wr) (hv : VH L) (hn : L.length = n) (hb : fB L b = true) (hk : un M ≤ k' + 1)
    (hsz : (lkC L b).su.size ≤ 9223372036854775807) {W : World} (hW : W.heap[mB]? = some (.cells (mks (M.set (fI L b) true)) 4)) (hbw : Below w.heap.size w W) (ho : W.ownsRow mB 9 1 v S.length (strs S))
    (h1 : w3.ownsRow mB 9 1 v' (S.length + 1) (strs (S ++ [b]))) (hg : (W.alloc o).grownBy w3 v.ownBlock) : SpInv L n a w mB k' v' (S ++ [b]) (M.set (fI L b) true) (lkC L b).su w3 := by
  have hfree := I.free hv hn hb
  have hl := fI_lt hn hb
  have hlM : fI L b < M.length := by rw [I.ml]; exact hl
  have hun := un_set hfree
  have hlm := lt_heap hW
  refine ⟨?_, by rw [List.length_set]; exact I.ml, fun j hj => ?_, fun s hs hf => ?_, ?_, ?_, by omega, ?_, ?_, I.mlo, hsz⟩
  · refine (hg.block mB (by simp; omega) ?_).trans (laid_old hW)
    rcases ho.2 with ⟨rfl, _⟩ | ⟨g, cap, cur, rfl, _, e3, _⟩
    · simp [Value.ownBlock]
    · intro e
      obtain rfl : mB = g := by simpa [Value.ownBlock] using e
      rw [e3] at hW
      injection hW with hW
      injection hW with _ hW
      exact absurd hW (by decide)
  · rcases (getD_set_true hlM).1 hj with rfl | hj
    · exact ⟨b, List.mem_append_right _ (List.mem_singleton.2 rfl), rfl⟩
    · obtain ⟨s, hs, he⟩ := I.mar j hj
      exact ⟨s, List.mem_append_left _ hs, he⟩
  · have hed := hv.up hb hf
    rcases List.mem_append.1 hs with hs | hs
    · exact .more (I.rc s hs hb) hed
    · rw [List.mem_singleton.1 hs]; exact .one hed
  · have hc := I.cnt
    rw [I.tot, List.append_assoc, List.length_append, List.length_singleton]
    congr 1
    rw [show n + 1 - S.length = (n - S.length) + 1 by omega, chain_yes hb, show n + 1 - (S.length + 1) = n - S.length by omega]
    rfl
  · have hc := I.cnt
    rw [List.length_append, List.length_singleton]; omega
  · rw [List.length_append, List.length_singleton]; exact h1
  · exact (below_al hbw o).grown hg (by rw [World.size_alloc]; have := hbw.size; omega) (fun q hq => Nat.le_trans I.mlo (ho.lt q hq).1)
theorem sp_start {L : List CI} {n mB : Nat} {a : ByteArray} {w wr : World} (hn : L.length = n) (hm : wr.heap[mB]? = some (.cells (mks (List.replicate n false)) 4)) (hb : Below w.heap.size w wr) (hlo : w.heap.size ≤ mB) (ha : a.size ≤ 9223372036854775807) : SpInv L n a w mB n (.slice none 0 0) [] (List.replicate n false) a wr := by
  refine ⟨hm, List.length_replicate, fun j h => ?_, (fun s hs => by cases hs), ?_, ?_, ?_, World.ownsRow_nil _ _ _ _, hb, hlo, ha⟩
  · rw [List.getD_eq_getElem?_getD, List.getElem?_replicate] at h
    split at h <;> simp at h
  · unfold supL; rw [hn]; rfl
  · rw [un_start]; rfl
  · rw [un_start]; exact Nat.le_refl _
theorem srow_own {w : World} {base n c : Nat} {A : Option Addr} {L : List ByteArray} (h : w.ownsRow base 9 1 (.slice A n c) n (strs L)) : n ≤ c ∧ c ≤ maxLen ∧ (A = none → c = 0) ∧ SRow w w.heap.size A L := by
  obtain ⟨A', c', hv, h1, h2⟩ := own_shape h
  obtain rfl : c = c' := by injection hv
  exact ⟨h1, h2, own_nilc h, (SRow.of_own h).1⟩
set_option maxRecDepth 100000 in
set_option maxHeartbeats 4000000 in
theorem sup_any (A : Option Addr) (n c : Nat) (L : List CI) (a : ByteArray) (w : World) (hn : L.length = n) (hc : n ≤ 1000000) (hv : VH L) (h : CIs w w.heap.size A L) (ha : a.size ≤ 9223372036854775807) :
    Calls Tryd.prog 28 #[.slice A n c, .string a] w (StrOwn w (supL L a)) := by
  have HL := Lib.hid h
  have HN := Lib.hid hn
  have HV := Lib.hid hv
  clear h hn hv
  obtain ⟨i0, hi, hz0, hz1, hz2⟩ := info_parts infoB
  obtain ⟨j0, hj, hy0, hy1, hy2⟩ := info_parts infoS
  go_enter Tryd.func28, Tryd.ntmps28
  go_upto_region 2 with (go_at_call 55; (with_reducible refine (finder_any A n c L _ HN.out hc HL.out).mono ?_); rintro e W ⟨F, rfl, hF, hb⟩; obtain ⟨kk, bb, rfl, he, hcon⟩ := hF; have he' : ∀ (args : Array Value) (w : World), (callFunc kk args).run Tryd.prog w = .ok (.enter kk args) w := he; have HB := Lib.hid hb; have HC := Lib.hid (show ∀ s X, s.size ≤ 9223372036854775807 → Below W.heap.size W X → Calls Tryd.prog kk #[.string s, .pointer (some ⟨bb, 0, none⟩)] X fun e w' => e = .returned (.tuple #[.int .i64 (fI L s), .bool (fB L s)]) ∧ Below X.heap.size X w' from fun s X hs hX => hcon s X hs hX); clear he hcon hb)
  obtain ⟨Wm, hmk, hown, hgr⟩ := run_makeSlice_full (P := Tryd.prog) W W.heap.size 71 4 i0 (.bool false) 1 Tryd.underlying71 hi hz0 hz1 .i64 .i64 n (by omega) (by rw [hz2]; omega) (by unfold maxLen; omega) (Nat.le_refl _)
  have HBM := Lib.hid (show Below W.heap.size W Wm from (Below.refl W.heap.size W).grown hgr (Nat.le_refl _) (fun q hq => by cases hq))
  have HST := Lib.hid (sp_start (a := a) HN.out (by have := own_full hown; rw [made_bools] at this; exact this) (below_on HB.out HBM.out) HB.out.size ha)
  clear hown hgr hi hz0 hz1 hz2
  go_wp2
  clear hmk
  go_loopg [1, 7] n (fun k bv v wr => ∃ (b : ByteArray) (S : List ByteArray) (M : List Bool), bv = .string b ∧ SpInv L n a w W.heap.size k v S M b wr ∧ Below W.heap.size W wr)
  case atStart => exact ⟨a, [], _, rfl, HST.out, HBM.out⟩
  case round =>
    obtain ⟨b, S, M, rfl, I, hbw⟩ := hrel
    have HI := Lib.hid I
    have HBW := Lib.hid hbw
    have hbs := I.sz
    obtain ⟨vA, vc, rfl, hvc1, hvc2⟩ := own_shape I.own
    clear I hbw HST
    cases hf : fB L b with
    | false =>
      have HC' := Lib.hid (HC.out b wr hbs HBW.out)
      rw [hf] at HC'
      have HT := Lib.hid (show supL L a = S by rw [HI.out.tot, chain_no hf, List.append_nil])
      clear hf
      go_wp2_with (go_at_fn kk; (with_reducible refine (HC'.out).mono ?_); rintro e w1 ⟨rfl, hb1⟩; have HB1 := Lib.hid hb1; clear hb1)
      go_ret
      rw [HT.out]
      exact ⟨_, rfl, own_base (own_bel HI.out.own HB1.out) HI.out.mlo, below_on HI.out.bel HB1.out⟩
    | true =>
      have HC' := Lib.hid (HC.out b wr hbs HBW.out)
      rw [hf] at HC'
      have hil := fI_lt HN.out hf
      have HFR := Lib.hid (HI.out.free HV.out HN.out hf)
      have HF := Lib.hid hf
      obtain ⟨e1, l1⟩ := fI_of hf
      have hlk := lkC_yes l1
      obtain ⟨g, o, rfl, hg, hok, c0, c1, c2, c3⟩ := HL.out.at l1
      rw [← hlk] at hok c0 c1 c2 c3
      have hus : (lkC L b).su.size ≤ 9223372036854775807 := hok.2.1
      rw [← e1] at c1
      clear c0 c2 c3 hok hlk e1 l1 hf
      obtain ⟨i, hi⟩ : ∃ i, fI L b = i := ⟨_, rfl⟩
      obtain ⟨u, hu⟩ : ∃ u, (lkC L b).su = u := ⟨_, rfl⟩
      rw [hi] at HC' hil c1
      rw [hu] at c1
      have HIU := Lib.hid (And.intro hi hu)
      clear hi hu
      have hiM : i < M.length := by rw [HI.out.ml]; exact hil
      have hlm := lt_heap HI.out.mr
      have HC1 := Lib.hid c1
      clear c1
      go_upto_region 8 with (go_at_fn kk; (with_reducible refine (HC'.out).mono ?_); rintro e w1 ⟨rfl, hb1⟩; have HB1 := Lib.hid hb1; have hmr := (hb1.block _ hlm).trans HI.out.mr; have m1 := mark_at (b := false) hmr hiM (by have := HFR.out; rw [HIU.out.1] at this; exact this); have m2 := mark_free hmr i; have HMR := Lib.hid hmr; clear hb1 hmr)
      have HW2 := Lib.hid (show (w1.setCell ⟨W.heap.size, i, none⟩ (.bool true)).heap[W.heap.size]? = some (.cells (mks (M.set i true)) 4) by rw [show mks (M.set i true) = (mks M).setIfInBounds i (.bool true) by unfold mks; simp [List.map_set]]; exact heap_setCell_same w1 _ i _ _ _ HMR.out)
      have HO2 := Lib.hid (own_set_apart (j := i) (u := .bool true) (own_bel HI.out.own HB1.out) HMR.out (by decide))
      have HB2 := Lib.hid (below_st (p := ⟨W.heap.size, i, none⟩) (below_on HI.out.bel HB1.out) HI.out.mlo (.bool true))
      have HBW2 := Lib.hid (below_st (p := ⟨W.heap.size, i, none⟩) (below_on HBW.out HB1.out) (Nat.le_refl _) (.bool true))
      clear m1 m2 HMR
      generalize w1.setCell ⟨W.heap.size, i, none⟩ (.bool true) = W2 at HW2 HO2 HB2 HBW2 ⊢
      have hcnt : S.length ≤ 1000000 := by have := HI.out.cnt; omega
      go_upto_region 9 with (at_builtin; refine wpList_append_strs rfl _ _ rfl W.heap.size S.length 1 1 (W2.heap.size + 1) S [b] (.slice vA S.length vc) (some ⟨W2.heap.size, 0, none⟩) rfl (HO2.out.alloc _) rfl (srow_new _ _) rfl (fun h => by cases h) (by omega) (by rw [World.size_alloc]; have := HBW2.out.size; omega) ?_; intro v' w3 hown hgrow)
      obtain ⟨g', cap', rfl⟩ := ownsRow_succ hown
      have hpos := un_set HFR.out
      have J := Lib.hid (show SpInv L n a w W.heap.size (gk - 1) (.slice (some ⟨g', 0, none⟩) (S.length + 1) cap') (S ++ [b]) (M.set i true) u w3 from by
        have hmu := HI.out.mu
        have h := HI.out.step (k' := gk - 1) HV.out HN.out HF.out (by omega) hus (by rw [HIU.out.1]; exact HW2.out) HB2.out HO2.out hown hgrow
        rw [HIU.out.1, HIU.out.2] at h
        exact h)
      have JB := Lib.hid (show Below W.heap.size W w3 from (below_al HBW2.out _).grown hgrow (by rw [World.size_alloc]; have := HBW2.out.size; omega) (fun q hq => (HO2.out.lt q hq).1))
      have hgl := Nat.lt_of_lt_of_le hg HB.out.size
      have c1 := (JB.out.cell (p := ⟨g, o + i * 4 + 1, none⟩) hgl).trans ((HB.out.cell (p := ⟨g, o + i * 4 + 1, none⟩) hg).trans HC1.out)
      have hmu := HI.out.mu
      clear hown hgrow
      go_wp2
      go_roundg (gk - 1)
      case measure => omega
      case rel => exact ⟨u, _, _, rfl, J.out, JB.out⟩
end Go.Proofs.YthifmcnemeiphaaDoor
