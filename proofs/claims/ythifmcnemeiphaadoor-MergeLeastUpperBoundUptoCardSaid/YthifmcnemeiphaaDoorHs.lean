/- Layer 16: the reference's Check. -/
import Derived.Test.YthifmcnemeiphaaDoorHr
import Derived.Test.YthifmcnemeiphaaDoorHj
namespace Go.Proofs.YthifmcnemeiphaaDoor
open Go.ChangeShapes Go.WideShapes Go.ChangeAt Go.RowKit Go.PlainAid Go.Maps
set_option linter.unusedSimpArgs false
set_option linter.unusedVariables false

theorem rce_any (A : Option Addr) (n c : Nat) (L : List CI) (i : Nat) (w : World) (hn : L.length = n) (hs : Mid L) (h : CIs w w.heap.size A L) (hcap : n ≤ c) (hcm : c ≤ 9223372036854775807) (hi : i < n) (x : CI) (hx : L[i]? = some x) :
    Calls Tryd.prog 57 #[.slice A n c, .int .i64 i] w fun e w' => e = .returned (.int .i64 (ceV L i x)) ∧ Below w.heap.size w w' := by
  have htd := take_dup hx
  cases h1 : clsB x.nm with
  | false => rw [show ceV L i x = 12 from by unfold ceV; rw [if_pos h1]]; exact rce_a A n c L i w hn hs h hcap hcm hi x hx h1
  | true =>
    by_cases h2 : fI L x.nm = i
    · rw [decide_eq_false (by simpa using h2)] at htd
      cases h3 : abB L x with
      | false =>
        have e : ceV L i x = 33 := by
          unfold ceV
          unfold abB at h3
          rw [if_neg (by simp [h1]), if_neg (by simpa using h2)]
          rw [Bool.and_eq_false_iff, Bool.not_eq_false', Bool.not_eq_false', decide_eq_true_iff, decide_eq_true_iff] at h3
          rcases h3 with h3 | h3
          · rw [if_pos h3]
          · by_cases hq : x.su.toList.isEmpty ≠ (x.nm.toList == rootL) ∨ (x.isI = true ∧ (x.su.toList == rootL) = false)
            · rw [if_pos hq]
            · rw [if_neg hq, if_pos h3]
        rw [e]; exact rce_c A n c L i w hn hs h hcap hcm hi x hx h1 htd h3
      | true =>
        have h3' := h3
        unfold abB at h3'
        rw [Bool.and_eq_true, Bool.not_eq_true', Bool.not_eq_true', decide_eq_false_iff_not, decide_eq_false_iff_not] at h3'
        cases h4 : x.fs.all (ifOk L) with
        | false =>
          have e : ceV L i x = 37 := by
            unfold ceV
            rw [if_neg (by simp [h1]), if_neg (by simpa using h2), if_neg h3'.1, if_neg h3'.2, if_pos h4]
          rw [e]; exact rce_d A n c L i w hn hs h hcap hcm hi x hx h1 htd h3 h4
        | true =>
          cases h6 : rcB L i i with
          | true =>
            have e : ceV L i x = 31 := by
              unfold ceV
              rw [if_neg (by simp [h1]), if_neg (by simpa using h2), if_neg h3'.1, if_neg h3'.2, if_neg (by simp [h4]), if_pos h6]
            rw [e]; exact rce_et A n c L i w hn hs h hcap hcm hi x hx h1 htd h3 h4 h2 h6
          | false =>
            have e : ceV L i x = 0 := by
              unfold ceV
              rw [if_neg (by simp [h1]), if_neg (by simpa using h2), if_neg h3'.1, if_neg h3'.2, if_neg (by simp [h4]), if_neg (by simp [h6])]
            rw [e]; exact rce_ef A n c L i w hn hs h hcap hcm hi x hx h1 htd h3 h4 h2 h6
    · rw [decide_eq_true (by simpa using h2)] at htd
      have e : ceV L i x = 6 := by
        unfold ceV
        rw [if_neg (by simp [h1]), if_pos h2]
      rw [e]; exact rce_b A n c L i w hn hs h hcap hcm hi x hx h1 htd
set_option maxRecDepth 100000 in
set_option maxHeartbeats 4000000 in
theorem rcheck_any (A : Option Addr) (n c : Nat) (L : List CI) (w : World) (hn : L.length = n) (hs : Mid L) (hcap : n ≤ c) (hcm : c ≤ 9223372036854775807) (h : CIs w w.heap.size A L) :
    Calls Tryd.prog 18 #[.slice A n c] w (ChkRet L w) := by
  have HL := Lib.hid h
  have HN := Lib.hid hn
  have hn60 : n ≤ 60 := by rw [← hn]; exact hs.1
  clear h hn
  go_enter Tryd.func18, Tryd.ntmps18
  go_wp2
  go_loopw [4] (fun jv wr => ∃ j : Nat, jv = .int .i64 j ∧ j ≤ n ∧ Hid (Below w.heap.size w wr) ∧ Hid (∀ k y, k < j → L[k]? = some y → ceV L k y = 0)) (fun jv _ => n - (intOf jv).toNat)
  case atStart => exact ⟨0, rfl, Nat.zero_le _, Lib.hid (Below.refl _ _), Lib.hid fun k y hk => absurd hk (Nat.not_lt_zero _)⟩
  case round =>
    obtain ⟨j, rfl, hj, hB, hg⟩ := hrel
    by_cases hjl : j < n
    · have hjx : j < L.length := by rw [HN.out]; exact hjl
      obtain ⟨g, o, rfl, hgl, hok, c0, c1, c2, c3⟩ := HL.out.at hjx
      have HX := Lib.hid (show L[j]? = some L[j] from List.getElem?_eq_getElem hjx)
      clear hok
      generalize L[j] = x at c0 c1 c2 c3 HX
      have HLW := Lib.hid (HL.out.up hB.out)
      obtain ⟨v, hv⟩ : ∃ v, ceV L j x = v := ⟨_, rfl⟩
      have HV := Lib.hid hv
      clear hv
      have HC0 := Lib.hid c0
      clear c0 c1 c2 c3
      go_upto_region 5 with (go_at_call 57; (with_reducible refine (rce_any _ n c L j _ HN.out hs HLW.out hcap hcm hjl x HX.out).mono ?_); rintro e w3 ⟨rfl, hb3⟩; rw [HV.out]; have HB3 := Lib.hid (below_on hB.out hb3); clear hb3)
      have c0 := (HB3.out.cell (p := ⟨g, _, none⟩) hgl).trans HC0.out
      by_cases hz : v = 0
      · subst hz
        have HG := Lib.hid (show ∀ k y, k < j + 1 → L[k]? = some y → ceV L k y = 0 from fun k y hk hy => by
          rcases Nat.lt_or_ge k j with h | h
          · exact hg.out k y h hy
          · obtain rfl : k = j := by omega
            rw [HX.out] at hy
            obtain rfl := Option.some.inj hy
            exact HV.out)
        go_wp2
        go_roundw
        case rel => exact ⟨j + 1, by go_num, by omega, HB3, HG⟩
        case measure => simp [intOf]; omega
      · have hz1 : (v != 0) = true := by simpa using hz
        have HR := Lib.hid (show ChkV L x.nm v from Or.inl ⟨j, x, HX.out, hg.out, HV.out, hz, rfl⟩)
        clear hz
        go_wp2
        go_ret2
        exact ⟨⟨_, _, rfl, HR.out⟩, HB3.out⟩
    · obtain rfl : j = n := by omega
      have HR := Lib.hid (show ChkV L ⟨#[]⟩ 0 from Or.inr ⟨fun k y hy => hg.out k y (by rw [← HN.out]; exact lt_of_some hy) hy, rfl, rfl⟩)
      go_wp2
      go_ret2
      exact ⟨⟨_, _, rfl, HR.out⟩, hB.out⟩
end Go.Proofs.YthifmcnemeiphaaDoor
