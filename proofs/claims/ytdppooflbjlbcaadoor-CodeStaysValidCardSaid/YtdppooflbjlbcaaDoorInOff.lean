/- Layer 8: Offsets, in the package. -/
import Derived.Test.YtdppooflbjlbcaaDoorInOf
namespace Go.Proofs.YtdppooflbjlbcaaDoor.I
open Go.ChangeShapes Go.WideShapes Go.ChangeAt Go.RowKit Go.PlainAid
set_option linter.unusedSimpArgs false
set_option linter.unusedVariables false

theorem OfInv.value {w wr : World} {L : List In} {k : Nat} {v : Value} (I : OfInv w wr L k v) : ∃ A c, v = .slice A k c := by
  obtain ⟨A, c, h, _⟩ := own_form I.own
  exact ⟨A, c, h⟩
theorem OfInv.size {w wr : World} {L : List In} {k : Nat} {v : Value} (I : OfInv w wr L k v) : w.heap.size ≤ wr.heap.size := I.bel.size
set_option maxRecDepth 100000 in
set_option maxHeartbeats 2000000 in
theorem offs_any {w0 : World} {A : Option Addr} {n c : Nat} {L : List In} (hn : L.length = n) (hN : n ≤ 1000) (hp : Ins w0 w0.heap.size A L) (w : World) (hb : Below w0.heap.size w0 w) :
    Calls Tryd.prog 63 #[.slice A n c] w (OffsRet w L) := by
  have HP := Lib.hid (hp.up hb)
  have HN := Lib.hid hn
  clear hp hb hn
  obtain ⟨i0, hi, hz0, hz1, hz2⟩ := info_parts infoI
  have hw0 : IntKind.i64.wrap ((n : Int) + 1) = (n : Int) + 1 := by simp [IntKind.wrap, IntKind.bits, IntKind.signed]; omega
  go_enter Tryd.func63, Tryd.ntmps63
  go_wp2_with (at_make; refine wpList_make_own _ rfl _ _ 32 rfl w.heap.size 3 i0 (.int .i64 0) 1 Tryd.underlying32 hi hz0 hz1 .i64 .i64 ((n : Int) + 1) (n + 1) rfl rfl (by omega) (by rw [hz2]; omega) (by unfold maxLen; omega) (Nat.le_refl _) ?_; intro wm ho hg)
  have hB := grown_below hg (B := w.heap.size) (fun k hk => by cases hk) (Nat.le_refl _)
  have HO := Lib.hid ho
  clear hi hz0 hz1 hz2 ho hg
  go_wp2
  go_loopw [4, 5, 15] (fun v a x wr => ∃ k : Nat, k ≤ n ∧ x = .int .i64 k ∧ a = .int .i64 (atN L k) ∧ OfInv w wr L k v) (fun _ _ x _ => n - (intOf x).toNat)
  case atStart => exact ⟨0, Nat.zero_le _, rfl, rfl, HO.out, hB, fun j i hj => absurd hj (Nat.not_lt_zero _)⟩
  case round =>
    obtain ⟨k, hk, rfl, rfl, I⟩ := hrel
    obtain ⟨V, vc, rfl⟩ := I.value
    have hsz := I.size
    have hat := atN_bd (L := L) k (by rw [HN.out]; exact hk) I.ok
    obtain ⟨z, hz⟩ : ∃ z, atN L k = z := ⟨_, rfl⟩
    rw [hz] at hat ⊢
    have I' := Lib.hid I
    have HZ := Lib.hid hz
    clear I hz HO hB
    by_cases hlt : k < n
    · obtain ⟨i, hp⟩ : ∃ p, L[k]? = some p := ⟨L[k]'(by rw [HN.out]; exact hlt), List.getElem?_eq_getElem _⟩
      have HPW := Lib.hid (HP.out.up I'.out.bel)
      rcases HPW.out with h0 | ⟨g, o, rfl, hg, hcell⟩
      · rw [h0] at hp; simp at hp
      · obtain ⟨iok, a0, a1, a2, a3, a4, a5, a6, a7, a8, a9⟩ := hcell k _ hp
        have IOK := Lib.hid iok
        have HPK := Lib.hid hp
        clear hcell iok hp
        have hk0 : (0 : Int) ≤ (k : Int) := by omega
        have hk1 : (k : Int) < (n : Int) := by omega
        by_cases hc : ciE i = 0
        · have HC := Lib.hid hc
          have hne : (ciE i != 0) = false := by rw [hc]; rfl
          clear hc
          go_upto_region 7 with (go_at_call 65; refine (chk_any i _ (IOK.out.up (by first | exact Below.refl _ _ | exact below_al (Below.refl _ _) _))).mono ?_; rintro e w1 ⟨rfl, hb1⟩)
          obtain ⟨s0, s1, s2, s3, s4, s5, s6, s7, s8, s9⟩ := ten_cells (first_box hb1)
          have hbw := below_on (w := wr) (below_al (Below.refl _ _) _) hb1
          have hz1 := hb1.size
          simp only [World.size_alloc] at hz1
          have hza : wr.heap.size < w1.heap.size := by omega
          have HBW := Lib.hid hbw
          have HW1 := Lib.hid ((own_below I'.out.own hbw).alloc (.cells #[.int .i64 z] 3))
          clear hb1 hbw
          go_upto_region 10 with (at_builtin; refine wpList_append_ints (by rfl) _ _ (by rfl) w.heap.size k 1 1 (w1.heap.size + 1) (ofN L k) [z] _ _ (by rfl) HW1.out (by rfl) (Row.one (ten_cell0 (new_at rfl)) (by omega)) rfl (fun h => by cases h) (by omega) (by simp; omega) ?_; intro v' w2 ho hgr)
          have HO := Lib.hid ho
          have HG := Lib.hid hgr
          have hz2 := hgr.size
          simp only [World.size_alloc] at hz2
          have hkeep : ∀ j, w2.cell? ⟨wr.heap.size, j, none⟩ = w1.cell? ⟨wr.heap.size, j, none⟩ := fun j => grown_cell HG.out (by simp; omega) (fun e => by have := (I'.out.own.lt _ e).2; omega) |>.trans (World.cell?_alloc_lt _ _ _ hza)
          rw [← hkeep] at s0 s1 s2 s3 s4 s5 s6 s7 s8 s9
          have hsv := szV_bd HC.out
          have HSV := Lib.hid hsv
          obtain ⟨hs1, hs2, _, _⟩ := hsv
          have hw1 : IntKind.i64.wrap (z + szV i) = z + szV i := by simp [IntKind.wrap, IntKind.bits, IntKind.signed]; omega
          clear ho hgr hkeep
          go_wp2_with (go_at_call 84; refine (siz_any i _ (fun h => by have := HSV.out.2.2.1 h; omega) (fun h => by have := (HSV.out.2.2.2 h).1; omega)).mono ?_; rintro e w3 ⟨rfl, hb3⟩)
          go_roundw
          case rel =>
            refine ⟨k + 1, hlt, by go_num, by rw [atN_succ HPK.out, HZ.out], own_below (by rw [ofN_succ, HZ.out]; exact HO.out) hb3, ?_, ?_⟩
            · exact below_on (grown_own (below_al (below_on I'.out.bel HBW.out) _) HW1.out HG.out) hb3
            · intro j x hj hx
              rcases (by omega : j < k ∨ j = k) with h | rfl
              · exact I'.out.ok j x h hx
              · rw [HPK.out] at hx
                injection hx with hx
                rw [← hx]; exact HC.out
          case measure => simp [intOf]; omega
        · have G := Lib.hid (of_1 (L := L) (by rw [chkE_bad I'.out.ok HPK.out hc]; exact hc))
          have HCE := Lib.hid (chkE_bad I'.out.ok HPK.out hc)
          have hne := bneT' hc
          clear hc
          go_wp2_with (go_at_call 65; refine (chk_any i _ (IOK.out.up (by first | exact Below.refl _ _ | exact below_al (Below.refl _ _) _))).mono ?_; rintro e w1 ⟨rfl, hb1⟩)
          go_ret2
          exact offs_no ⟨by rw [G.out.1, HCE.out], G.out.2⟩ (below_on (below_al I'.out.bel _) hb1)
    · obtain ⟨rfl⟩ : n = k := by omega
      have HCK := Lib.hid (chkE_ok (L := L) fun j i hj => I'.out.ok j i (by
        rcases Nat.lt_or_ge j n with h | h
        · exact h
        · rw [List.getElem?_eq_none (by rw [HN.out]; exact h)] at hj; cases hj) hj)
      by_cases h2 : 20000 < z
      · have G := Lib.hid (of_3 HCK.out (by rw [HN.out]; omega) (by rw [HN.out, HZ.out]; exact h2))
        go_wp2
        go_ret2
        exact offs_no G.out I'.out.bel
      · have G := Lib.hid (of_4 HCK.out (by rw [HN.out]; omega) (by rw [HN.out, HZ.out]; exact h2))
        have HW1 := Lib.hid (I'.out.own.alloc (.cells #[.int .i64 z] 3))
        go_wp2_with (at_builtin; refine wpList_append_ints (by rfl) _ _ (by rfl) w.heap.size n 1 1 (wr.heap.size + 1) (ofN L n) [z] _ _ (by rfl) HW1.out (by rfl) (Row.one (ten_cell0 (new_at rfl)) (by omega)) rfl (fun h => by cases h) (by omega) (by simp; omega) ?_; intro v' w2 ho hgr)
        go_ret2
        refine offs_own ⟨G.out.1, by rw [G.out.2, HN.out, ofN_succ, HZ.out]⟩ ho ?_
        exact grown_own (below_al I'.out.bel _) HW1.out hgr

end Go.Proofs.YtdppooflbjlbcaaDoor.I
