/- Layer 4: the reference's ClassNames. -/
import Derived.Test.YtfafmanjgillcaaDoorDescCn
import Derived.Deep.QuietTactic
import Derived.BigQuiet
namespace Go.Proofs.YtfafmanjgillcaaDoor
open Go.ChangeShapes Go.WideShapes Go.ChangeAt Go.RowKit Go.PlainAid
set_option linter.unusedSimpArgs false
set_option linter.unusedVariables false

structure RcInv (w wr : World) (ps : List Ty) (k : Nat) (v : Value) : Prop where
  own : wr.ownsRow w.heap.size 9 1 v (cn (ps.take k)).length (strs (cn (ps.take k)))
  bel : Below w.heap.size w wr
theorem RcInv.value {w wr : World} {ps : List Ty} {k : Nat} {v : Value} (I : RcInv w wr ps k v) : ∃ A c, v = .slice A (cn (ps.take k)).length c ∧ ∀ j x, (cn (ps.take k))[j]? = some x → ∃ g, A = some ⟨g, 0, none⟩ ∧ wr.cell? ⟨g, j, none⟩ = some (.string x) := by
  have h := I.own
  rcases I.own.2 with ⟨hv, h0⟩ | ⟨g, cap, cur, hv, _⟩
  · refine ⟨none, 0, by rw [hv, h0], fun j x hx => ?_⟩
    rw [List.eq_nil_of_length_eq_zero h0] at hx; cases hx
  · refine ⟨_, cap, hv, fun j x hx => ⟨g, rfl, ?_⟩⟩
    rw [hv] at h
    have hj : j < (cn (ps.take k)).length := by
      rcases Nat.lt_or_ge j (cn (ps.take k)).length with h | h
      · exact h
      · rw [List.getElem?_eq_none h] at hx; cases hx
    rw [h.cellAt j (by omega)]
    unfold strs
    rw [List.getElem?_map, hx]; rfl
theorem rc_skip {w wr : World} {ps : List Ty} {k : Nat} {v : Value} {p : Ty} (I : RcInv w wr ps k v) (hp : ps[k]? = some p) (h : ¬ (p.2.1 = 76 ∧ hasS (cn (ps.take k)) p.2.2 = false)) (q : Nat) : RcInv w (wr.drewN q) ps (k + 1) v := by
  have e : cn (ps.take (k + 1)) = cn (ps.take k) := by rw [cn_next hp]; unfold cnStep; rw [if_neg h]
  refine ⟨?_, ⟨I.bel.os, I.bel.tape, I.bel.output, I.bel.size, I.bel.block⟩⟩
  rw [e]; exact I.own
theorem rc_new {w wr W w2 : World} {ps : List Ty} {k g cap : Nat} {v : Value} {pd : Int} {pn : ByteArray} (I : RcInv w wr ps k v) (hp : ps[k]? = some (pd, 76, pn)) (h : hasS (cn (ps.take k)) pn = false) (hW : Below w.heap.size w W)
    (hown : w2.ownsRow w.heap.size 9 1 (.slice (some ⟨g, 0, none⟩) ((cn (ps.take k)).length + 1) cap) ((cn (ps.take k)).length + 1) (strs (cn (ps.take k)) ++ [.string pn])) (hg2 : W.grownBy w2 v.ownBlock) :
    RcInv w w2 ps (k + 1) (.slice (some ⟨g, 0, none⟩) ((cn (ps.take k)).length + 1) cap) := by
  have e : cn (ps.take (k + 1)) = cn (ps.take k) ++ [pn] := by rw [cn_next hp]; unfold cnStep; rw [if_pos ⟨rfl, h⟩]
  refine ⟨?_, ?_⟩
  · rw [e, ← strs_snoc, List.length_append]; exact hown
  · exact hW.grown hg2 hW.size (fun q hq => (I.own.lt q hq).1)
theorem has_take {S : List ByteArray} {j : Nat} {x s : ByteArray} (h : S[j]? = some x) : hasS (S.take (j + 1)) s = (hasS (S.take j) s || (x.data.toList == s.data.toList)) := by
  unfold hasS
  rw [List.take_add_one, h, List.any_append]
  simp

set_option maxRecDepth 100000 in
set_option maxHeartbeats 2000000 in
theorem rcnames_any (A : Option Addr) (n c : Nat) (ps : List Ty) (w : World) (hn : ps.length = n) (h60 : n ≤ 60) (hty : Tys w w.heap.size A ps) :
    Calls Tryd.prog 53 #[.slice A n c] w (NamesRet w (cn ps)) := by
  have HT := Lib.hid hty
  have HN := Lib.hid hn
  clear hty hn
  obtain ⟨i0, hi, hz0, hz1, hz2⟩ := info_parts infoS
  go_enter Tryd.func53, Tryd.ntmps53
  go_wp2
  go_loopw [3, 4] (fun v i wr => ∃ k : Nat, k ≤ n ∧ i = .int .i64 k ∧ RcInv w wr ps k v) (fun _ i _ => n - (intOf i).toNat)
  case atStart => exact ⟨0, Nat.zero_le _, rfl, World.ownsRow_nil _ _ _ _, Below.refl _ _⟩
  case round =>
    obtain ⟨k, hk, rfl, I⟩ := hrel
    obtain ⟨A', c', rfl, hat⟩ := I.value
    have HAT := Lib.hid hat
    clear hat
    have hsz := I.bel.size
    have hcl := cn_le ps k (by have := HN.out; omega)
    have I' := Lib.hid I
    clear I
    obtain ⟨wo, ewo⟩ : ∃ wo : World, wo = wr := ⟨_, rfl⟩
    by_cases hlt : k < n
    · have hp : ∃ p, ps[k]? = some p := ⟨ps[k]'(by rw [HN.out]; exact hlt), List.getElem?_eq_getElem _⟩
      obtain ⟨⟨pd, pb, pn⟩, hp⟩ := hp
      rcases HT.out with h0 | ⟨g, o, rfl, hg, hcell⟩
      · rw [h0] at hp; cases hp
      · obtain ⟨a0, a1, a2⟩ := hcell k _ hp
        have up : ∀ j v, w.cell? ⟨g, j, none⟩ = some v → wr.cell? ⟨g, j, none⟩ = some v := fun j v h => (I'.out.bel.cell (p := ⟨g, j, none⟩) hg).trans h
        have b0 : wr.cell? ⟨g, o + k * 3, none⟩ = some (.int .i64 pd) := up _ _ a0
        have b1 : wr.cell? ⟨g, o + k * 3 + 1, none⟩ = some (.int .u8 pb) := up _ _ a1
        have b2 : wr.cell? ⟨g, o + k * 3 + 2, none⟩ = some (.string pn) := up _ _ a2
        have HP := Lib.hid hp
        have hk0 : (0 : Int) ≤ (k : Int) := by omega
        have hk1 : (k : Int) < (n : Int) := by omega
        clear a0 a1 a2 up hcell hp
        clear ewo wo
        go_wp2
        obtain ⟨wo, rfl⟩ : ∃ wo : World, wo = wr := ⟨_, rfl⟩
        go_loopw [5, 6] (fun h i wi => ∃ j q : Nat, j ≤ (cn (ps.take k)).length ∧ i = .int .i64 j ∧ h = .bool (hasS ((cn (ps.take k)).take j) pn) ∧ wi = wo.drewN q) (fun _ i _ => (cn (ps.take k)).length - (intOf i).toNat)
        case atStart => exact ⟨0, 0, Nat.zero_le _, rfl, rfl, rfl⟩
        case round =>
          obtain ⟨j, q, hj, rfl, rfl, rfl⟩ := hrel
          by_cases hlj : j < (cn (ps.take k)).length
          · obtain ⟨x, hx⟩ : ∃ x, (cn (ps.take k))[j]? = some x := ⟨(cn (ps.take k))[j], List.getElem?_eq_getElem hlj⟩
            obtain ⟨g', rfl, hcx⟩ := HAT.out j x hx
            have HX := Lib.hid hx
            clear hx
            have hj0 : (0 : Int) ≤ (j : Int) := by omega
            have hj1 : (j : Int) < ((cn (ps.take k)).length : Int) := by omega
            cases hh : hasS ((cn (ps.take k)).take j) pn with
            | true =>
              go_wp2
              go_quiet (fail)
              go_wp2
              go_roundw
              case rel => exact ⟨j + 1, _, by omega, by go_num, by rw [has_take HX.out, hh]; rfl, rfl⟩
              case measure => simp [intOf]; omega
            | false =>
              go_wp2
              go_quiet (fail)
              go_wp2
              go_roundw
              case rel => exact ⟨j + 1, _, by omega, by go_num, by rw [has_take HX.out, hh, Bool.false_or, Lib.toList_data, Lib.toList_data], rfl⟩
              case measure => simp [intOf]; omega
          · have ht : hasS ((cn (ps.take k)).take j) pn = hasS (cn (ps.take k)) pn := by rw [List.take_of_length_le (by omega)]
            have hjm : (cn (ps.take k)).length ≤ j := by omega
            have HQ : Below w.heap.size w (wo.drewN q) := ⟨I'.out.bel.os, I'.out.bel.tape, I'.out.bel.output, I'.out.bel.size, I'.out.bel.block⟩
            have HQ' := Lib.hid HQ
            clear HQ
            by_cases h76 : pb = 76
            · subst h76
              cases hs : hasS (cn (ps.take k)) pn with
              | true =>
                have J := Lib.hid (rc_skip I'.out HP.out (by rintro ⟨_, h2⟩; simp only at h2; rw [hs] at h2; cases h2) q)
                rw [hs] at ht
                go_wp2
                go_roundw
                case rel => exact ⟨k + 1, by omega, by go_num, J.out⟩
                case measure => simp [intOf]; omega
              | false =>
                rw [hs] at ht
                go_wp2_with (at_builtin; refine wpList_append_lies _ rfl _ _ 48 rfl w.heap.size 9 i0 (.string ⟨#[]⟩) 1 16 Tryd.underlying48 hi hz0 hz1 hz2 rfl (by decide) (.slice A' (cn (ps.take k)).length c') (cn (ps.take k)).length (strs (cn (ps.take k))) rfl (I'.out.own.alloc _) ⟨wo.heap.size, 0, none⟩ 1 1 [.string pn] rfl rfl ?c1 ?c2 (by decide) ?c3 ?c4 ?c5 (wo.heap.size + 1) ?c6 ?_)
                case c1 => exact World.news_of_block (heap_alloc_new (wo.drewN q) (.cells #[.string pn] 9))
                case c2 => first | rfl | (intro u hu; simp at hu; subst hu; rfl)
                case c3 => unfold maxLen; omega
                case c4 => omega
                case c5 => rw [World.size_alloc]; show w.heap.size ≤ wo.heap.size + 1; omega
                case c6 => rw [World.size_alloc]; rfl
                intro g' cap w2 hown2 hgrow2 hat2 hlt2
                have J := Lib.hid (rc_new I'.out HP.out hs (below_al HQ'.out _) hown2 hgrow2)
                clear hown2 hgrow2 hat2
                go_wp2
                go_roundw
                case rel => exact ⟨k + 1, by omega, by go_num, J.out⟩
                case measure => simp [intOf]; omega
            · have h76' := beqF h76
              have J := Lib.hid (rc_skip I'.out HP.out (by rintro ⟨h1, _⟩; exact h76 h1) q)
              clear h76
              go_wp2
              go_roundw
              case rel => exact ⟨k + 1, by omega, by go_num, J.out⟩
              case measure => simp [intOf]; omega
    · obtain rfl : k = n := by omega
      clear ewo
      go_wp2
      go_ret
      have ht : ps.take k = ps := List.take_of_length_le (by have := HN.out; omega)
      have h1 := I'.out.own
      have h2 := I'.out.bel
      rw [ht] at h1 ⊢
      exact ⟨A', c', rfl, Strs.of_own h1 rfl, h2⟩

end Go.Proofs.YtfafmanjgillcaaDoor
