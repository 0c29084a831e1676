import Derived.Test.YtalejaklggnnpaaGreatDoorInOffS
/- Layer 8: Offsets, in the reference. -/
namespace Go.Proofs.YtalejaklggnnpaaGreatDoor.I
open Go.ChangeShapes Go.WideShapes Go.ChangeAt Go.RowKit Go.PlainAid
set_option linter.unusedSimpArgs false
set_option linter.unusedVariables false
set_option maxRecDepth 100000 in
set_option maxHeartbeats 2000000 in
theorem roffs_any {w0 : World} {A : Option Addr} {n c : Nat} {L : List In} (hn : L.length = n) (hN : n ≤ 1000) (hp : Ins w0 w0.heap.size A L) (w : World) (hb : Below w0.heap.size w0 w) :
  Calls Tryz.prog 40 #[.slice A n c] w (OffsRet w L) := by
 have HP := Lib.hid (hp.up hb)
 have HN := Lib.hid hn
 clear hp hb hn
 have hB : Below w.heap.size w w := Below.refl _ _
 go_enter Tryz.func40, Tryz.ntmps40
 go_wp2
 go_loopw [4] (fun x wr => ∃ k : Nat, k ≤ n ∧ x = .int .i64 k ∧ (∀ (j : Nat) (i : In), j < k → L[j]? = some i → ciE i = 0) ∧ Below w.heap.size w wr) (fun x _ => n - (intOf x).toNat)
 case atStart => exact ⟨0, Nat.zero_le _, rfl, fun j i hj => absurd hj (Nat.not_lt_zero _), hB⟩
 case round =>
  obtain ⟨k, hk, rfl, hok, hBr⟩ := hrel
  have HOK := Lib.hid hok
  clear hok
  by_cases hlt : k < n
  ·
   obtain ⟨i, hp⟩ : ∃ p, L[k]? = some p := ⟨L[k]'(by rw [HN.out]; exact hlt), List.getElem?_eq_getElem _⟩
   have HPW := Lib.hid (HP.out.up hBr)
   rcases HPW.out with h0 | ⟨g, o, rfl, hg, hcell⟩
   ·
    rw [h0] at hp; simp at hp
   ·
    obtain ⟨iok, a0, a1, a2, a3, a4, a5, a6, a7, a8, a9⟩ := hcell k _ hp
    have IOK := Lib.hid iok
    have HPK := Lib.hid hp
    clear hcell iok hp
    have hk0 : (0 : Int) ≤ (k : Int) := by omega
    have hk1 : (k : Int) < (n : Int) := by omega
    by_cases hc : ciE i = 0
    ·
     have HC := Lib.hid hc
     have hne : (ciE i != 0) = false := by rw [hc]; rfl
     clear hc
     go_wp2_with (go_at_call 69; refine (rchk_any i _ (IOK.out.up (by first | exact Below.refl _ _ | exact below_al (Below.refl _ _) _))).mono ?_; rintro e w1 ⟨rfl, hb1⟩)
     go_roundw
     case rel =>
      refine ⟨k + 1, hlt, by go_num, fun j x hj hx => ?_, below_on hBr hb1⟩
      rcases (by omega : j < k ∨ j = k) with h | rfl
      ·
       exact HOK.out j x h hx
      ·
       rw [HPK.out] at hx
       injection hx with hx
       rw [← hx]; exact HC.out
     case measure => simp [intOf]; omega
    ·
     have G := Lib.hid (of_1 (L := L) (by rw [chkE_bad HOK.out HPK.out hc]; exact hc))
     have HCE := Lib.hid (chkE_bad HOK.out HPK.out hc)
     have hne := bneT' hc
     clear hc
     go_wp2_with (go_at_call 69; refine (rchk_any i _ (IOK.out.up (by first | exact Below.refl _ _ | exact below_al (Below.refl _ _) _))).mono ?_; rintro e w1 ⟨rfl, hb1⟩)
     go_ret2
     exact offs_no ⟨by rw [G.out.1, HCE.out], G.out.2⟩ (below_on hBr hb1)
  ·
   obtain ⟨rfl⟩ : n = k := by omega
   have HCK := Lib.hid (chkE_ok (L := L) fun j i hj => HOK.out j i (by
    rcases Nat.lt_or_ge j n with h | h
    ·
     exact h
    ·
     rw [List.getElem?_eq_none (by rw [HN.out]; exact h)] at hj; cases hj) hj)
   clear HOK
   have HBR := Lib.hid hBr
   have HO := Lib.hid (own_one (w := wr) 0 (base := w.heap.size) hBr.size)
   go_wp2
   go_loopw [6, 7] (fun v x wr => ∃ k : Nat, k ≤ n ∧ x = .int .i64 k ∧ wr.ownsRow w.heap.size 3 1 v (k + 1) (Ri (ofN L (k + 1))) ∧ Below w.heap.size w wr) (fun _ x _ => n - (intOf x).toNat)
   case atStart => exact ⟨0, Nat.zero_le _, rfl, HO.out, below_al HBR.out _⟩
   case round =>
    clear HO HBR
    obtain ⟨k, hk, rfl, ho, hBr⟩ := hrel
    obtain ⟨g6, c6, rfl, hg6, hl6⟩ := ho.form (by omega)
    have hcl := ho.cellAt k (by omega)
    rw [show (Ri (ofN L (k + 1)))[k]? = some (.int .i64 (atN L k)) by simp [Ri, ofN]] at hcl
    have HO := Lib.hid ho
    have hat := atN_bd (L := L) k (by rw [HN.out]; exact hk) (fun j i _ hj => chkE_all HCK.out j i hj)
    obtain ⟨z, hz⟩ : ∃ z, atN L k = z := ⟨_, rfl⟩
    rw [hz] at hat hcl
    have HZ := Lib.hid hz
    clear ho hz
    by_cases hlt : k < n
    ·
     obtain ⟨i, hp⟩ : ∃ p, L[k]? = some p := ⟨L[k]'(by rw [HN.out]; exact hlt), List.getElem?_eq_getElem _⟩
     rcases HP.out with h0 | ⟨g, o, rfl, hg, hcell⟩
     ·
      rw [h0] at hp; simp at hp
     ·
      obtain ⟨iok, b0, b1, b2, b3, b4, b5, b6, b7, b8, b9⟩ := hcell k _ hp
      have up : ∀ j v, w.cell? ⟨g, j, none⟩ = some v → wr.cell? ⟨g, j, none⟩ = some v := fun j v h => (hBr.cell (p := ⟨g, j, none⟩) hg).trans h
      have a0 := up _ _ b0
      have a1 := up _ _ b1
      have a2 := up _ _ b2
      have a3 := up _ _ b3
      have a4 := up _ _ b4
      have a5 := up _ _ b5
      have a6 := up _ _ b6
      have a7 := up _ _ b7
      have a8 := up _ _ b8
      have a9 := up _ _ b9
      have hsv := szV_bd (chkE_all HCK.out k i hp)
      have HSV := Lib.hid hsv
      have HPK := Lib.hid hp
      have hk0 : (0 : Int) ≤ (k : Int) := by omega
      have hk1 : (k : Int) < (n : Int) := by omega
      have hk2 : (k : Int) < (k : Int) + 1 := by omega
      have hwz := hBr.size
      obtain ⟨hs1, hs2, _, _⟩ := hsv
      have hw1 : IntKind.i64.wrap (z + szV i) = z + szV i := by simp [IntKind.wrap, IntKind.bits, IntKind.signed]; omega
      clear hcell iok hp up b0 b1 b2 b3 b4 b5 b6 b7 b8 b9
      go_wp2
      go_region_held3 (fun w' => w'.cell? ⟨g6, k, none⟩ = some (.int .i64 z) ∧ w'.cell? ⟨g, o + k * 10, none⟩ = some (.int .i64 i.op) ∧ w'.cell? ⟨g, o + k * 10 + 1, none⟩ = some (.int .i64 i.a) ∧ w'.cell? ⟨g, o + k * 10 + 2, none⟩ = some (.int .i64 i.b) ∧ w'.cell? ⟨g, o + k * 10 + 3, none⟩ = some (.int .i64 i.t) ∧ w'.cell? ⟨g, o + k * 10 + 4, none⟩ = some (.slice i.kA i.kn i.kc) ∧ w'.cell? ⟨g, o + k * 10 + 5, none⟩ = some (.slice i.tA i.tn i.tc) ∧ w'.cell? ⟨g, o + k * 10 + 6, none⟩ = some (.string i.r1) ∧ w'.cell? ⟨g, o + k * 10 + 7, none⟩ = some (.string i.r2) ∧ w'.cell? ⟨g, o + k * 10 + 8, none⟩ = some (.string i.r3) ∧ w'.cell? ⟨g, o + k * 10 + 9, none⟩ = some (.string i.s) ∧ w.heap.size ≤ w'.heap.size ∧ Below w.heap.size w w') (((try go_split_ands); (repeat' apply And.intro) <;> (first | assumption | (first | exact below_on (w := w) (by assumption) hq | exact Below.trans (by assumption) hq | exact Below.drew (by assumption) | exact below_al (by assumption) _ | exact below_al (Below.drew (by assumption)) _ | assumption) | exact (Below.cell (by (first | exact below_on (w := w) (by assumption) hq | exact Below.trans (by assumption) hq | exact Below.drew (by assumption) | exact below_al (by assumption) _ | exact below_al (Below.drew (by assumption)) _ | assumption)) hg).trans (by assumption) | exact (hkp _ (by omega)).trans (by assumption) | exact (Below.cell hq (by first | (dsimp only; omega) | (simp; omega))).trans (by assumption) | (have := hq.size; omega) | (simp; omega) | go_keep)))
       (first | (go_at_call 81; refine (rsiz_any i _ (fun h => by have := HSV.out.2.2.1 h; omega) (fun h => by have := (HSV.out.2.2.2 h).1; omega)).mono ?_; rintro e w3 ⟨rfl, hq⟩) | (refine step_append_keep (by rfl) _ _ (by rfl) w.heap.size (k + 1) 1 1 g6 c6 (ofN L (k + 1)) [z + szV i] _ (by rfl) (by first | exact (own_below2 hq HO.out).alloc _ | exact HO.out) (by rfl) (Row.one (ten_cell0 (new_at (by simp; done))) (by simp; done)) rfl (by omega) (by have := hq.size; first | (simp at this ⊢; omega) | (simp; omega) | omega) ?_; intro v' w4 ho hq hkp))
      go_split_ands
      go_wp2
      go_roundw
      case rel => exact ⟨k + 1, hlt, by go_num, by rw [ofN_succ, atN_succ HPK.out, HZ.out]; exact ho, by assumption⟩
      case measure => simp [intOf]; omega
    ·
     obtain ⟨rfl⟩ : n = k := by omega
     by_cases h2 : 20000 < z
     ·
      have G := Lib.hid (of_3 HCK.out (by rw [HN.out]; omega) (by rw [HN.out, HZ.out]; exact h2))
      go_wp2
      go_ret2
      exact offs_no G.out hBr
     ·
      have G := Lib.hid (of_4 HCK.out (by rw [HN.out]; omega) (by rw [HN.out, HZ.out]; exact h2))
      go_wp2
      go_ret2
      exact offs_own ⟨G.out.1, by rw [G.out.2, HN.out]⟩ HO.out hBr
end Go.Proofs.YtalejaklggnnpaaGreatDoor.I
