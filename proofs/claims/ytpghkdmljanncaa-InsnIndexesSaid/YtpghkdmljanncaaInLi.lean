/- Layer 8: the law of the offsets. -/
import Derived.Test.YtpghkdmljanncaaInSz
namespace Go.Proofs.Ytpghkdmljanncaa
open Go.ChangeShapes Go.WideShapes Go.ChangeAt Go.RowKit Go.PlainAid
set_option linter.unusedSimpArgs false
set_option linter.unusedVariables false

theorem below_dr' {B : Nat} {w W : World} (h : Below B w W) (q : Nat) : Below B w (W.drewN q) := ⟨h.os, h.tape, h.output, h.size, h.block⟩
theorem atN_zero (L : List In) : atN L 0 = 0 := rfl
set_option maxRecDepth 100000 in
set_option maxHeartbeats 4000000 in
theorem indexes_law {A : Option Addr} {n c : Nat} {L : List In} (hn : L.length = n) (hz : ∀ i ∈ L, i.nz) (w : World) (hp : Ins w w.heap.size A L) : Calls Try.prog 9 #[.slice A n c] w fun e w' => e = .returned (.bool true) ∧ Below w.heap.size w w' := by
  have HB := Lib.hid (Below.refl w.heap.size w)
  have HP := Lib.hid hp
  have HN := Lib.hid hn
  have HZ := Lib.hid hz
  have HS := Lib.hid (small_any (c := c) hn hp w (Below.refl _ _))
  clear hp hn hz
  go_enter Try.func9, Try.ntmps9
  go_upto_region 2 with (go_at_call 14; refine HS.out.mono ?_; rintro e w2 ⟨b, rfl, hsm, rfl⟩; have HSM := Lib.hid hsm; clear hsm)
  · go_wp2_with (go_at_call 15; refine (works_any _).mono ?_; rintro e w3 ⟨rfl, hb3⟩)
    go_ret
    exact ⟨rfl, hb3⟩
  · have hbb : (!b) = false := by assumption
    obtain rfl : b = true := by simpa using hbb
    have hsm := (HSM.out rfl).1
    rw [HN.out] at hsm
    have hN : n ≤ 1000 := by omega
    clear HSM HS hsm
    by_cases h : ¬ ofE L = 0
    · have hne := bneT' h
      have hl : ofP L = [] := if_neg h
      clear h
      go_upto_region 5 with (go_at_call 21; refine (offs_any HN.out hN HP.out _ HB.out).mono ?_; rintro e w1 ⟨A1, c1, rfl, _, _, _, hr1, hb1⟩; rw [hl]; replace HB := Lib.hid (below_on HB.out hb1); clear hr1 hb1)
      go_wp2_with (go_at_call 15; refine (works_any _).mono ?_; rintro e w6 ⟨rfl, hb1⟩; replace HB := Lib.hid (below_on HB.out hb1); clear hb1)
      all_goals go_ret
      all_goals exact ⟨rfl, HB.out⟩
    · replace h : ofE L = 0 := Classical.byContradiction h
      have HE := Lib.hid h
      have hlen : (ofP L).length = n + 1 := by rw [(of_ok h).2.2.2, ofN_len, HN.out]
      have hw0 : IntKind.i64.wrap ((n : Int) + 1) = (n : Int) + 1 := by simp [IntKind.wrap, IntKind.bits, IntKind.signed]; omega
      clear h
      go_upto_region 4 with (go_at_call 21; refine (offs_any HN.out hN HP.out _ HB.out).mono ?_; rintro e w1 ⟨A1, c1, rfl, _, _, _, hr1, hb1⟩; rw [HE.out, hlen]; have HR1 := Lib.hid hr1; replace HB := Lib.hid (below_on HB.out hb1); clear hr1 hb1)
      obtain ⟨g, o, rfl, hg, hc⟩ := HR1.out.at (by omega)
      have HC := Lib.hid (fun k (hk : k ≤ n) => by
        have h1 := hc k (by omega)
        rw [List.getD_eq_getElem?_getD, ofP_at HE.out (by rw [HN.out]; exact hk)] at h1
        simpa using h1 : ∀ k, k ≤ n → w1.cell? ⟨g, o + k, none⟩ = some (.int .i64 (atN L k)))
      have c0 := HC.out 0 (Nat.zero_le _)
      rw [Nat.add_zero, atN_zero] at c0
      clear hc
      have hn1 : (0 : Int) < (n : Int) + 1 := by omega
      have HB1 := Lib.hid (Below.refl w1.heap.size w1)
      go_wp2
      go_loopw [5] (fun x wr => ∃ k : Nat, k ≤ n + 1 ∧ x = .int .i64 k ∧ Below w1.heap.size w1 wr) (fun x _ => n + 1 - (intOf x).toNat)
      case atStart => exact ⟨0, Nat.zero_le _, rfl, HB1.out⟩
      case round =>
        obtain ⟨k, hk, rfl, hBr⟩ := hrel
        have HBR := Lib.hid hBr
        clear hBr
        by_cases hlt : k < n + 1
        · have hk0 : (0 : Int) ≤ (k : Int) := by omega
          have hk1 : (k : Int) < (n : Int) + 1 := by omega
          have up : ∀ j v, w1.cell? ⟨g, j, none⟩ = some v → wr.cell? ⟨g, j, none⟩ = some v := fun j v h => (HBR.out.cell (p := ⟨g, j, none⟩) hg).trans h
          have ck := up _ _ (HC.out k (by omega))
          have IA := Lib.hid (ia_at HE.out (k := k) (by rw [HN.out]; omega))
          have HLT := Lib.hid (fun (h : 0 < k) => by
            have := atN_lt (of_ok HE.out).1 0 (k - 1) (by rw [HN.out]; omega)
            rwa [show k - 1 + 0 + 1 = k by omega] at this : 0 < k → atN L (k - 1) < atN L k)
          obtain ⟨z, hz⟩ : ∃ z, atN L k = z := ⟨_, rfl⟩
          rw [hz] at ck
          have HZK := Lib.hid hz
          have IX := Lib.hid (ix_any z (c := c) HN.out hN HP.out wr (below_on HB.out HBR.out))
          rw [← hz, IA.out.1, IA.out.2, hz] at IX
          clear hz
          go_upto_region 12 with (go_at_call 23; refine IX.out.mono ?_; rintro e w2 ⟨rfl, hb2⟩)
          have hg2 : g < wr.heap.size := Nat.lt_of_lt_of_le hg HBR.out.size
          have ck2 := (hb2.cell (p := ⟨g, o + k, none⟩) hg2).trans ck
          have HB2 := Lib.hid (below_on HBR.out hb2)
          rcases Nat.eq_zero_or_pos k with h0 | h0
          · subst h0
            clear ck up hb2
            go_quiet (fail)
            go_wp2
            exact ⟨⟨1, by omega, by go_num, below_dr' HB2.out _⟩, by simp [intOf]⟩
          · have cj2 := (hb2.cell (p := ⟨g, o + (k - 1), none⟩) hg2).trans (up _ _ (HC.out (k - 1) (by omega)))
            have hyz := HLT.out h0
            rw [HZK.out] at hyz
            obtain ⟨y, hy⟩ : ∃ y, atN L (k - 1) = y := ⟨_, rfl⟩
            rw [hy] at cj2 hyz
            have hj0 : (0 : Int) ≤ (k : Int) - 1 := by omega
            have hj1 : (k : Int) - 1 < (n : Int) + 1 := by omega
            have hj2 : ((k : Int) - 1).toNat = k - 1 := by omega
            have hw1 : IntKind.i64.wrap ((k : Int) - 1) = (k : Int) - 1 := by simp [IntKind.wrap, IntKind.bits, IntKind.signed]; omega
            have hkp : (0 : Int) < (k : Int) := by omega
            have hno : ¬ z ≤ y := by omega
            clear ck up hb2 hy
            go_quiet (fail)
            go_wp2
            exact ⟨⟨k + 1, hlt, by go_num, below_dr' HB2.out _⟩, by simp [intOf]; omega⟩
        · obtain ⟨rfl⟩ : k = n + 1 := by omega
          have cn := (HBR.out.cell (p := ⟨g, o + n, none⟩) hg).trans (HC.out n (Nat.le_refl _))
          have hEN := Lib.hid (enc_any (c := c) HN.out hN HZ.out HP.out wr (below_on HB.out HBR.out))
          have hgr : g < wr.heap.size := Nat.lt_of_lt_of_le hg HBR.out.size
          have HBW := Lib.hid (below_on HB.out HBR.out)
          by_cases he : ¬ enE L = 0
          · have hne := bneT' he
            clear he
            go_upto_region 15 with (go_at_call 25; refine hEN.out.mono ?_; rintro e w3 ⟨rfl, hb3⟩)
            have HB3 := Lib.hid (below_on HBW.out hb3)
            go_wp2_with (go_at_call 15; refine (works_any _).mono ?_; rintro e w6 ⟨rfl, hb6⟩)
            all_goals go_ret
            all_goals exact ⟨rfl, below_on HB3.out hb6⟩
          · replace he : enE L = 0 := Classical.byContradiction he
            have hsz := enS_len he (fun i hi => by
              obtain ⟨j, hj, hje⟩ := List.getElem_of_mem hi
              have ok := HP.out.get (k := j) (i := i) (by rw [List.getElem?_eq_getElem hj, hje])
              exact ⟨ok.1, ok.2.2.2.2.1⟩)
            rw [HN.out] at hsz
            have HEE := Lib.hid he
            obtain ⟨z, hz⟩ : ∃ z, atN L n = z := ⟨_, rfl⟩
            rw [hz] at cn hsz
            clear hz he
            go_upto_region 15 with (go_at_call 25; refine hEN.out.mono ?_; rintro e w3 ⟨rfl, hb3⟩; rw [HEE.out])
            have cn2 := (hb3.cell (p := ⟨g, o + n, none⟩) hgr).trans cn
            have HB3 := Lib.hid (below_on HBW.out hb3)
            have hnn : (0 : Int) ≤ (n : Int) := by omega
            have hnn1 : (n : Int) < (n : Int) + 1 := by omega
            clear cn hb3
            go_wp2_with (go_at_call 15; refine (works_any _).mono ?_; rintro e w6 ⟨rfl, hb6⟩)
            all_goals go_ret
            all_goals exact ⟨rfl, below_on HB3.out hb6⟩

end Go.Proofs.Ytpghkdmljanncaa
