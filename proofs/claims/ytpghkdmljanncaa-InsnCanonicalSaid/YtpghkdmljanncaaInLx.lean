/- Layer 8: the laws of Offsets, IndexAt and Encode. -/
import Derived.Test.YtpghkdmljanncaaInLw
namespace Go.Proofs.Ytpghkdmljanncaa
open Go.ChangeShapes Go.WideShapes Go.ChangeAt Go.RowKit Go.PlainAid
set_option linter.unusedSimpArgs false
set_option linter.unusedVariables false

theorem ofP_len (L : List In) (h : L.length ≤ 1000) : (ofP L).length ≤ 1000000 := by
  by_cases h1 : ofE L = 0
  · rw [(of_ok h1).2.2.2, ofN_len]; omega
  · rw [show ofP L = [] from if_neg h1]; simp
set_option maxRecDepth 100000 in
set_option maxHeartbeats 2000000 in
theorem offsets_law {A : Option Addr} {n c : Nat} {L : List In} (p : Int) (hn : L.length = n) (w : World) (hp : Ins w w.heap.size A L) : Calls Try.prog 4 #[.slice A n c, .int .i64 p] w fun e w' => e = .returned (.bool true) ∧ Below w.heap.size w w' := by
  have HB := Lib.hid (Below.refl w.heap.size w)
  have HP := Lib.hid hp
  have HN := Lib.hid hn
  have HS := Lib.hid (small_any (c := c) hn hp w (Below.refl _ _))
  clear hp hn
  go_enter Try.func4, Try.ntmps4
  go_upto_region 2 with (go_at_call 14; refine HS.out.mono ?_; rintro e w2 ⟨b, rfl, hsm, rfl⟩; have HSM := Lib.hid hsm; clear hsm)
  · go_wp2_with (go_at_call 15; refine (works_any _).mono ?_; rintro e w3 ⟨rfl, hb3⟩)
    go_ret
    exact ⟨rfl, hb3⟩
  · have hbb : (!b) = false := by assumption
    obtain rfl : b = true := by simpa using hbb
    have hsm := (HSM.out rfl).1
    have hl := ofP_len L (by omega)
    rw [HN.out] at hsm
    have hN : n ≤ 1000 := by omega
    clear HSM HS hsm
    go_upto_region 4 with (go_at_call 21; refine (offs_any HN.out hN HP.out _ HB.out).mono ?_; rintro e w1 ⟨A1, c1, rfl, _, _, _, hr1, hb1⟩; have HR1 := Lib.hid hr1; replace HB := Lib.hid (below_on HB.out hb1); clear hr1 hb1)
    go_upto_region 5 with (go_at_call 22; refine (roffs_any HN.out hN HP.out _ HB.out).mono ?_; rintro e w2 ⟨A2, c2, rfl, _, _, _, hr2, hb1⟩; replace HR1 := Lib.hid (HR1.out.up hb1); have HR2 := Lib.hid hr2; replace HB := Lib.hid (below_on HB.out hb1); clear hr2 hb1)
    go_upto_region 6 with (go_at_call 23; refine (ix_any p HN.out hN HP.out _ HB.out).mono ?_; rintro e w3 ⟨rfl, hb1⟩; replace HR1 := Lib.hid (HR1.out.up hb1); replace HR2 := Lib.hid (HR2.out.up hb1); replace HB := Lib.hid (below_on HB.out hb1); clear hb1)
    go_upto_region 7 with (go_at_call 24; refine (rix_any p HN.out hN HP.out _ HB.out).mono ?_; rintro e w4 ⟨rfl, hb1⟩; replace HR1 := Lib.hid (HR1.out.up hb1); replace HR2 := Lib.hid (HR2.out.up hb1); replace HB := Lib.hid (below_on HB.out hb1); clear hb1)
    go_wp2_with (first | (go_at_call 18; refine (eqs_same HR1.out HR2.out hl).mono ?_; rintro e w5 ⟨rfl, hb1⟩; replace HB := Lib.hid (below_on HB.out hb1); clear hb1) | (go_at_call 15; refine (works_any _).mono ?_; rintro e w6 ⟨rfl, hb1⟩; replace HB := Lib.hid (below_on HB.out hb1); clear hb1))
    all_goals go_ret
    all_goals exact ⟨rfl, HB.out⟩
set_option maxRecDepth 100000 in
set_option maxHeartbeats 2000000 in
theorem encode_law {A : Option Addr} {n c : Nat} {L : List In} (hn : L.length = n) (hz : ∀ i ∈ L, i.nz) (w : World) (hp : Ins w w.heap.size A L) : Calls Try.prog 5 #[.slice A n c] w fun e w' => e = .returned (.bool true) ∧ Below w.heap.size w w' := by
  have HB := Lib.hid (Below.refl w.heap.size w)
  have HP := Lib.hid hp
  have HN := Lib.hid hn
  have HZ := Lib.hid hz
  have HS := Lib.hid (small_any (c := c) hn hp w (Below.refl _ _))
  clear hp hn hz
  go_enter Try.func5, Try.ntmps5
  go_upto_region 2 with (go_at_call 14; refine HS.out.mono ?_; rintro e w2 ⟨b, rfl, hsm, rfl⟩; have HSM := Lib.hid hsm; clear hsm)
  · go_wp2_with (go_at_call 15; refine (works_any _).mono ?_; rintro e w3 ⟨rfl, hb3⟩)
    go_ret
    exact ⟨rfl, hb3⟩
  · have hbb : (!b) = false := by assumption
    obtain rfl : b = true := by simpa using hbb
    have hsm := (HSM.out rfl).1
    rw [HN.out] at hsm
    have hN : n ≤ 1000 := by omega
    clear HSM HS hsm
    go_upto_region 4 with (go_at_call 25; refine (enc_any HN.out hN HZ.out HP.out _ HB.out).mono ?_; rintro e w1 ⟨rfl, hb1⟩; replace HB := Lib.hid (below_on HB.out hb1); clear hb1)
    go_upto_region 5 with (go_at_call 26; refine (renc_any HN.out hN HZ.out HP.out _ HB.out).mono ?_; rintro e w2 ⟨rfl, hb1⟩; replace HB := Lib.hid (below_on HB.out hb1); clear hb1)
    go_wp2_with (go_at_call 15; refine (works_any _).mono ?_; rintro e w6 ⟨rfl, hb1⟩; replace HB := Lib.hid (below_on HB.out hb1); clear hb1)
    all_goals go_ret
    all_goals exact ⟨rfl, HB.out⟩

end Go.Proofs.Ytpghkdmljanncaa
