/- Layer 4: desc.ClassNames. -/
import Derived.Test.YtfafmanjgillcaaDoorDescSig
import Derived.Test.YtfafmanjgillcaaDoorSet
namespace Go.Proofs.YtfafmanjgillcaaDoor
open Go.ChangeShapes Go.WideShapes Go.ChangeAt Go.RowKit Go.PlainAid
set_option linter.unusedSimpArgs false
set_option linter.unusedVariables false

theorem infoS : (Tryd.prog.info? 9).map (fun i => (i.zero, i.size, i.bytes)) = some (some (.string ⟨#[]⟩), 1, 16) := by kernel_rfl
/-- the names of the classes, each once, in the order of their first place -/
def cnStep (acc : List ByteArray) (p : Ty) : List ByteArray := if p.2.1 = 76 ∧ hasS acc p.2.2 = false then acc ++ [p.2.2] else acc
def cn (ps : List Ty) : List ByteArray := ps.foldl cnStep []
theorem cn_next {ps : List Ty} {k : Nat} {p : Ty} (h : ps[k]? = some p) : cn (ps.take (k + 1)) = cnStep (cn (ps.take k)) p := by
  unfold cn
  rw [List.take_add_one, h]
  simp
theorem cn_len : ∀ (ps : List Ty) (acc : List ByteArray), (ps.foldl cnStep acc).length ≤ acc.length + ps.length
  | [], acc => Nat.le_refl _
  | p :: ps, acc => by
    rw [List.foldl_cons]
    refine Nat.le_trans (cn_len ps _) ?_
    unfold cnStep
    split
    · simp; omega
    · simp
theorem cn_le (ps : List Ty) (k : Nat) (hk : ps.length ≤ 60) : (cn (ps.take k)).length ≤ 60 := by
  have := cn_len (ps.take k) []
  have h2 : (ps.take k).length ≤ ps.length := by rw [List.length_take]; omega
  unfold cn; simp at this; omega

def strs (xs : List ByteArray) : List Value := xs.map Value.string
theorem strs_snoc (xs : List ByteArray) (s : ByteArray) : strs xs ++ [.string s] = strs (xs ++ [s]) := by unfold strs; simp
/-- the strings of a slice of the call's own, at their places: below block B -/
def Strs (w : World) (B : Nat) (A : Option Addr) (xs : List ByteArray) : Prop :=
  xs = [] ∨ ∃ g, A = some ⟨g, 0, none⟩ ∧ g < B ∧ ∀ j x, xs[j]? = some x → w.cell? ⟨g, j, none⟩ = some (.string x)
theorem Strs.below {w w' : World} {B : Nat} {A : Option Addr} {xs : List ByteArray} (h : Strs w B A xs) (hb : Below B w w') : Strs w' B A xs := by
  rcases h with h | ⟨g, hA, hg, hc⟩
  · exact Or.inl h
  · exact Or.inr ⟨g, hA, hg, fun j x hx => (hb.cell (p := ⟨g, j, none⟩) hg).trans (hc j x hx)⟩
theorem Strs.of_own {w : World} {base e n c : Nat} {A : Option Addr} {xs : List ByteArray} (h : w.ownsRow base e 1 (.slice A n c) n (strs xs)) (hn : xs.length = n) : Strs w w.heap.size A xs := by
  cases xs with
  | nil => exact Or.inl rfl
  | cons x xs =>
    obtain ⟨g, cap, hv, _, hlt⟩ := h.form (by rw [← hn, List.length_cons]; omega)
    have hA : A = some ⟨g, 0, none⟩ := by injection hv
    subst hA
    have hcap : c = cap := by injection hv
    subst hcap
    refine Or.inr ⟨g, rfl, hlt, fun j y hj => ?_⟩
    have hjl : j < (x :: xs).length := by
      rcases Nat.lt_or_ge j (x :: xs).length with h | h
      · exact h
      · rw [List.getElem?_eq_none h] at hj; cases hj
    rw [h.cellAt j (by omega)]
    unfold strs
    rw [List.getElem?_map, hj]; rfl
/-- what ClassNames hands back -/
def NamesRet (w : World) (xs : List ByteArray) (e : Ending) (w' : World) : Prop :=
  ∃ A c, e = .returned (.slice A xs.length c) ∧ Strs w' w'.heap.size A xs ∧ Below w.heap.size w w'

structure CnInv (w wr : World) (ps : List Ty) (k : Nat) (v : Value) : Prop where
  own : wr.ownsRow (w.heap.size + 1) 9 1 v (cn (ps.take k)).length (strs (cn (ps.take k)))
  set : SetOf wr w.heap.size k (cn (ps.take k))
  bel : Below w.heap.size w wr
  size : w.heap.size + 1 ≤ wr.heap.size
theorem CnInv.value {w wr : World} {ps : List Ty} {k : Nat} {v : Value} (I : CnInv w wr ps k v) : ∃ A c, v = .slice A (cn (ps.take k)).length c := by
  rcases I.own.2 with ⟨hv, h0⟩ | ⟨g, cap, cur, hv, _⟩
  · exact ⟨none, 0, by rw [hv, h0]⟩
  · exact ⟨_, cap, hv⟩
theorem SetOf.more {w : World} {b n n' : Nat} {S : List ByteArray} (h : SetOf w b n S) (hn : n ≤ n') : SetOf w b n' S := by
  obtain ⟨D, h1, h2, h3⟩ := h; exact ⟨D, h1.mono hn, h2, h3⟩
theorem cn_skip {w wr : World} {ps : List Ty} {k : Nat} {v : Value} {p : Ty} (I : CnInv w wr ps k v) (hp : ps[k]? = some p) (h : ¬ (p.2.1 = 76 ∧ hasS (cn (ps.take k)) p.2.2 = false)) (o : Obj) : CnInv w (wr.alloc o) ps (k + 1) v := by
  have e : cn (ps.take (k + 1)) = cn (ps.take k) := by rw [cn_next hp]; unfold cnStep; rw [if_neg h]
  have h1 := I.own.alloc o
  have h2 := (I.set.alloc o).more (Nat.le_succ k)
  refine ⟨?_, ?_, below_al I.bel _, by rw [World.size_alloc]; have := I.size; omega⟩
  · rw [e]; exact h1
  · rw [e]; exact h2

theorem cn_new {w wr w1 w2 : World} {ps : List Ty} {k g cap : Nat} {v : Value} {pd : Int} {pn : ByteArray} {o o' : Obj} (I : CnInv w wr ps k v) (hp : ps[k]? = some (pd, 76, pn)) (h : hasS (cn (ps.take k)) pn = false)
    (hg1 : (wr.alloc o).grownBy w1 (some w.heap.size)) (hs : SetOf w1 w.heap.size (k + 1) (cn (ps.take k) ++ [pn]))
    (hown : w2.ownsRow (w.heap.size + 1) 9 1 (.slice (some ⟨g, 0, none⟩) ((cn (ps.take k)).length + 1) cap) ((cn (ps.take k)).length + 1) (strs (cn (ps.take k)) ++ [.string pn])) (hg2 : (w1.alloc o').grownBy w2 v.ownBlock) :
    CnInv w w2 ps (k + 1) (.slice (some ⟨g, 0, none⟩) ((cn (ps.take k)).length + 1) cap) := by
  have e : cn (ps.take (k + 1)) = cn (ps.take k) ++ [pn] := by rw [cn_next hp]; unfold cnStep; rw [if_pos ⟨rfl, h⟩]
  have hz := I.size
  have h1 := hg1.size
  have h2 := hg2.size
  simp only [World.size_alloc] at h1 h2
  have hv : ∀ q, v.ownBlock = some q → w.heap.size + 1 ≤ q := fun q hq => (I.own.lt q hq).1
  refine ⟨?_, ?_, ?_, by omega⟩
  · rw [e, ← strs_snoc, List.length_append]; exact hown
  · rw [e]
    exact (hs.alloc o').kept hg2 (fun e => by have := hv _ e.symm; omega)
  · have b1 : Below w.heap.size w w1 := (below_al I.bel o).grown hg1 (by simp only [World.size_alloc]; omega) (fun q hq => by injection hq with hq; omega)
    exact (below_al b1 o').grown hg2 (by simp only [World.size_alloc]; omega) (fun q hq => by have := hv q hq; omega)

set_option maxRecDepth 100000 in
set_option maxHeartbeats 2000000 in
theorem cnames_any (A : Option Addr) (n c : Nat) (ps : List Ty) (w : World) (hn : ps.length = n) (h60 : n ≤ 60) (hty : Tys w w.heap.size A ps) (hnm : ∀ p ∈ ps, p.2.2.size ≤ 9223372036854775807) :
    Calls Tryd.prog 52 #[.slice A n c] w (NamesRet w (cn ps)) := by
  have HT := Lib.hid hty
  have HN := Lib.hid hn
  have HM := Lib.hid hnm
  clear hty hn hnm
  obtain ⟨i0, hi, hz0, hz1, hz2⟩ := info_parts infoS
  have hmm := @run_makeMap Tryd.prog
  go_enter Tryd.func52, Tryd.ntmps52
  go_wp2
  go_loopw [3, 10] (fun v i wr => ∃ k : Nat, k ≤ n ∧ i = .int .i64 k ∧ CnInv w wr ps k v) (fun _ i _ => n - (intOf i).toNat)
  case atStart => exact ⟨0, Nat.zero_le _, rfl, World.ownsRow_nil _ _ _ _, set_made w, below_al (Below.refl _ _) _, by simp⟩
  case round =>
    obtain ⟨k, hk, rfl, I⟩ := hrel
    obtain ⟨A', c', rfl⟩ := I.value
    have hsz := I.size
    have hxs : w.heap.size < wr.heap.size := by omega
    have hcl := cn_le ps k (by have := HN.out; omega)
    have I' := Lib.hid I
    clear I
    by_cases hlt : k < n
    · have hp : ∃ p, ps[k]? = some p := ⟨ps[k]'(by rw [HN.out]; exact hlt), List.getElem?_eq_getElem _⟩
      obtain ⟨⟨pd, pb, pn⟩, hp⟩ := hp
      have hpn : pn.size ≤ maxLen := by unfold maxLen; exact HM.out _ (List.mem_of_getElem? hp)
      rcases HT.out with h0 | ⟨g, o, rfl, hg, hcell⟩
      · rw [h0] at hp; cases hp
      · obtain ⟨a0, a1, a2⟩ := hcell k _ hp
        have up : ∀ j v, w.cell? ⟨g, j, none⟩ = some v → wr.cell? ⟨g, j, none⟩ = some v := fun j v h => (I'.out.bel.cell (p := ⟨g, j, none⟩) hg).trans h
        have b0 := up _ _ a0
        have b1 := up _ _ a1
        have b2 := up _ _ a2
        have HP := Lib.hid hp
        have hPN := Lib.hid hpn
        clear a0 a1 a2 up hcell hp hpn
        by_cases h76 : pb = 76
        · subst h76
          have hlk := (I'.out.set.alloc (.cells #[.int .i64 pd, .int .u8 76, .string pn] 30)).look hPN.out
          cases hs : hasS (cn (ps.take k)) pn with
          | true =>
            have J := Lib.hid (cn_skip I'.out HP.out (by rintro ⟨_, h2⟩; simp only at h2; rw [hs] at h2; cases h2) (.cells #[.int .i64 pd, .int .u8 76, .string pn] 30))
            go_wp2
            go_roundw
            case rel => exact ⟨k + 1, by omega, by go_num, J.out⟩
            case measure => simp [intOf]; omega
          | false =>
            obtain ⟨D, hD1, hD2, hD3⟩ := (I'.out.set.alloc (.cells #[.int .i64 pd, .int .u8 76, .string pn] 30))
            have HD2 := Lib.hid hD2
            have HD3 := Lib.hid hD3
            clear hD2 hD3
            go_upto_region 8 with (at_mapUpdate; refine wpList_mapUpdate_own _ rfl _ _ _ 70 rfl 9 4 (Maps.string_keyed Tryd.underlying9) Tryd.underlying70 _ w.heap.size k D rfl hD1 (by unfold maxLen; omega) _ _ _ rfl rfl (set_key hPN.out) _ [] (plainElem_bool Tryd.underlying4 true) ?_; intro w1 hown1 hgrow1)
            have hs1 := hgrow1.size
            simp only [World.size_alloc] at hs1
            have hk1 : w1.heap[wr.heap.size]? = some (.cells #[.int .i64 pd, .int .u8 76, .string pn] 30) := (hgrow1.block wr.heap.size (by simp) (fun e => by injection e with e; omega)).trans (heap_alloc_new wr _)
            obtain ⟨c0, c1, c2, _, _, _⟩ := three_cells hk1
            have OWN1 := Lib.hid ((I'.out.own.alloc (.cells #[.int .i64 pd, .int .u8 76, .string pn] 30)).kept hgrow1 (Or.inr (fun e => by have := (I'.out.own.lt _ e).1; omega)))
            have SET1 := Lib.hid (SetOf.put HD2.out HD3.out hown1)
            have HG1 := Lib.hid hgrow1
            clear hown1 hgrow1 hD1 hlk hk1
            go_wp2_with (at_builtin; refine wpList_append_lies _ rfl _ _ 48 rfl (w.heap.size + 1) 9 i0 (.string ⟨#[]⟩) 1 16 Tryd.underlying48 hi hz0 hz1 hz2 rfl (by decide) (.slice A' (cn (ps.take k)).length c') (cn (ps.take k)).length (strs (cn (ps.take k))) rfl (OWN1.out.alloc _) ⟨w1.heap.size, 0, none⟩ 1 1 [.string pn] rfl rfl ?c1 ?c2 (by decide) ?c3 ?c4 ?c5 (w1.heap.size + 1) ?c6 ?_)
            case c2 => first | rfl | (intro u hu; simp at hu; subst hu; rfl)
            case c3 => unfold maxLen; omega
            case c4 => omega
            case c5 => first | omega | (simp; omega)
            intro g' cap w2 hown2 hgrow2 hat hlt2
            have J := Lib.hid (cn_new I'.out HP.out hs HG1.out SET1.out hown2 hgrow2)
            clear hown2 hgrow2 hat
            go_wp2
            go_roundw
            case rel => exact ⟨k + 1, by omega, by go_num, J.out⟩
            case measure => simp [intOf]; omega
        · have h76' := beqF h76
          have J := Lib.hid (cn_skip I'.out HP.out (by rintro ⟨h1, _⟩; exact h76 h1) (.cells #[.int .i64 pd, .int .u8 pb, .string pn] 30))
          clear h76
          go_wp2
          go_roundw
          case rel => exact ⟨k + 1, by omega, by go_num, J.out⟩
          case measure => simp [intOf]; omega
    · obtain rfl : k = n := by omega
      go_wp2
      go_ret
      have ht : ps.take k = ps := List.take_of_length_le (by have := HN.out; omega)
      have h1 := I'.out.own
      have h2 := I'.out.bel
      rw [ht] at h1 ⊢
      exact ⟨A', c', rfl, Strs.of_own h1 rfl, h2⟩

end Go.Proofs.YtfafmanjgillcaaDoor
