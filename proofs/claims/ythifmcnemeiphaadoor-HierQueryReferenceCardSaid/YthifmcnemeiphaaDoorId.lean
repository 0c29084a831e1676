/- Layer 16: few, right; the law of Check. -/
import Derived.Test.YthifmcnemeiphaaDoorIc
import Derived.Test.YthifmcnemeiphaaDoorHs
namespace Go.Proofs.YthifmcnemeiphaaDoor
open Go.ChangeShapes Go.WideShapes Go.ChangeAt Go.RowKit Go.PlainAid Go.Maps
set_option linter.unusedSimpArgs false
set_option linter.unusedVariables false

def smB (L : List CI) : Bool := decide (L.length ≤ 60) && L.all fun x => decide (x.fs.length ≤ 20)
theorem smB_iff {L : List CI} : smB L = true ↔ Small L := by
  unfold smB Small
  rw [Bool.and_eq_true, decide_eq_true_iff, List.all_eq_true]
  constructor
  · rintro ⟨h1, h2⟩; exact ⟨h1, fun x hx => of_decide_eq_true (h2 x hx)⟩
  · rintro ⟨h1, h2⟩; exact ⟨h1, fun x hx => decide_eq_true (h2 x hx)⟩
theorem smB_no {L : List CI} {k : Nat} (hk : k < L.length) (h : 20 < L[k].fs.length) : smB L = false := by
  cases hs : smB L with
  | false => rfl
  | true => have := (smB_iff.1 hs).2 _ (List.getElem_mem hk); omega
set_option maxRecDepth 100000 in
set_option maxHeartbeats 1000000 in
theorem few_any (A : Option Addr) (n c : Nat) (L : List CI) (w : World) (hn : L.length = n) (hc : n ≤ 9223372036854775807) (h : CIs w w.heap.size A L) :
    Calls Tryd.prog 15 #[.slice A n c] w fun e w' => e = .returned (.bool (smB L)) ∧ Below w.heap.size w w' := by
  have HL := Lib.hid h
  have HN := Lib.hid hn
  clear h hn
  by_cases h60 : n ≤ 60
  · go_enter Tryd.func15, Tryd.ntmps15
    go_wp2
    go_loop [3] (fun i => ∃ k : Nat, k ≤ n ∧ i = .int .i64 k ∧ Hid (∀ j (hj : j < k) (hl : j < L.length), L[j].fs.length ≤ 20)) (fun i => n - (intOf i).toNat)
    case atStart => exact ⟨0, Nat.zero_le _, rfl, Lib.hid fun j hj => absurd hj (Nat.not_lt_zero _)⟩
    case round =>
      obtain ⟨k, hk, rfl, hv⟩ := hrel
      by_cases hlt : k < n
      · have hkl : k < L.length := by rw [HN.out]; exact hlt
        obtain ⟨g, o, rfl, hg, hok, c0, c1, c2, c3⟩ := HL.out.at hkl
        have hfn : L[k].fs.length = L[k].n := hok.2.2.1
        have HFN := Lib.hid hfn
        clear hok hfn c0 c1 c3
        by_cases hq : L[k].n ≤ 20
        · have HV := Lib.hid (show ∀ j (hj : j < k + 1) (hl : j < L.length), L[j].fs.length ≤ 20 from fun j hj hl => by
            rcases Nat.lt_or_ge j k with h | h
            · exact hv.out j h hl
            · obtain rfl : j = k := by omega
              rw [HFN.out]; exact hq)
          go_wp2
          go_round
          case rel => exact ⟨k + 1, by omega, by go_num, HV⟩
          case measure => simp [intOf]; omega
        · have HR := Lib.hid (smB_no hkl (by rw [HFN.out]; omega))
          go_wp2
          go_ret
          exact ⟨ret_bool HR.out.symm, Below.refl _ _⟩
      · obtain rfl : k = n := by omega
        have HR := Lib.hid (smB_iff.2 (show Small L from ⟨by rw [HN.out]; exact h60, fun x hx => by
          obtain ⟨j, hj, rfl⟩ := List.getElem_of_mem hx
          exact hv.out j (by rw [← HN.out]; exact hj) hj⟩))
        go_wp2
        go_ret
        exact ⟨ret_bool HR.out.symm, Below.refl _ _⟩
  · have HR := Lib.hid (show smB L = false by unfold smB; rw [decide_eq_false (by rw [HN.out]; exact h60)]; rfl)
    go_enter Tryd.func15, Tryd.ntmps15
    go_wp2
    go_ret
    exact ⟨ret_bool HR.out.symm, Below.refl _ _⟩
theorem ChkV.vh {L : List CI} {s : ByteArray} {v : Int} (h : ChkV L s v) : v = 0 ↔ VH L := by
  rcases h with ⟨i, x, h1, h2, h3, h4, h5⟩ | ⟨h1, h2, h3⟩
  · constructor
    · intro e; exact absurd e h4
    · intro hv; exact h3.symm.trans (hv i x h1)
  · exact ⟨fun _ => h1, fun _ => h2⟩
noncomputable def rgB (L : List CI) : Bool := smB L && @decide (VH L) (Classical.propDecidable _)
theorem rgB_iff {L : List CI} : rgB L = true ↔ Small L ∧ VH L := by
  unfold rgB
  rw [Bool.and_eq_true, smB_iff, @decide_eq_true_iff _ (Classical.propDecidable _)]
set_option maxRecDepth 100000 in
theorem right_any (A : Option Addr) (n c : Nat) (L : List CI) (w : World) (hn : L.length = n) (hcap : n ≤ c) (hcm : c ≤ 9223372036854775807) (h : CIs w w.heap.size A L) :
    Calls Tryd.prog 19 #[.slice A n c] w fun e w' => e = .returned (.bool (rgB L)) ∧ Below w.heap.size w w' := by
  have HL := Lib.hid h
  have HN := Lib.hid hn
  have HF := Lib.hid (few_any A n c L w hn (by omega) h)
  clear h hn
  cases hs : smB L with
  | false =>
    rw [hs] at HF
    have HR := Lib.hid (show rgB L = false by unfold rgB; rw [hs]; rfl)
    clear hs
    rw [HR.out]
    go_enter Tryd.func19, Tryd.ntmps19
    go_wp2_with (go_at_call 15; (with_reducible refine (HF.out).mono ?_); rintro e w1 ⟨rfl, hb1⟩)
    go_ret
    exact ⟨rfl, hb1⟩
  | true =>
    rw [hs] at HF
    have HS := Lib.hid (smB_iff.1 hs)
    have HR := Lib.hid (show ∀ s v, ChkV L s v → rgB L = (v == 0) by
      intro s v hv
      rw [Bool.eq_iff_iff, rgB_iff, beq_iff_eq, hv.vh]
      exact ⟨fun h => h.2, fun h => ⟨HS.out, h⟩⟩)
    clear hs
    obtain ⟨r, hr⟩ : ∃ r, rgB L = r := ⟨_, rfl⟩
    rw [hr] at HR ⊢
    clear hr
    go_enter Tryd.func19, Tryd.ntmps19
    go_wp2_with (first | (go_at_call 15; (with_reducible refine (HF.out).mono ?_); rintro e w1 ⟨rfl, hb1⟩; have HB1 := Lib.hid hb1; clear hb1) | (go_at_call 18; (with_reducible refine (rcheck_any A n c L _ HN.out HS.out hcap hcm (HL.out.up HB1.out)).mono ?_); rintro e w2 ⟨⟨s2, v2, rfl, hch⟩, hb2⟩; have HE := Lib.hid (HR.out s2 v2 hch); have HB2 := Lib.hid (below_on HB1.out hb2); clear hb2 hch))
    go_ret
    exact ⟨ret_bool HE.out.symm, HB2.out⟩
set_option maxRecDepth 100000 in
theorem check_law (A : Option Addr) (n c : Nat) (L : List CI) (w : World) (hn : L.length = n) (hcap : n ≤ c) (hcm : c ≤ 9223372036854775807) (h : CIs w w.heap.size A L) :
    Calls Tryd.prog 3 #[.slice A n c] w fun e w' => e = .returned (.bool true) ∧ Below w.heap.size w w' := by
  have HL := Lib.hid h
  have HN := Lib.hid hn
  have HF := Lib.hid (few_any A n c L w hn (by omega) h)
  clear h hn
  cases hs : smB L with
  | false =>
    rw [hs] at HF
    clear hs
    go_enter Tryd.func3, Tryd.ntmps3
    go_wp2_with (first | (go_at_call 15; (with_reducible refine (HF.out).mono ?_); rintro e w1 ⟨rfl, hb1⟩; have HB1 := Lib.hid hb1; clear hb1) | (go_at_call 16; (with_reducible refine (awake16_any _).mono ?_); rintro e w2 ⟨rfl, hb2⟩; have HB2 := Lib.hid (below_on HB1.out hb2); clear hb2))
    go_ret
    exact ⟨rfl, HB2.out⟩
  | true =>
    rw [hs] at HF
    have HS := Lib.hid (smB_iff.1 hs)
    have hn60 : n ≤ 60 := by rw [← HN.out]; exact HS.out.1
    clear hs
    go_enter Tryd.func3, Tryd.ntmps3
    go_upto_region 5 with (first | (go_at_call 15; (with_reducible refine (HF.out).mono ?_); rintro e w1 ⟨rfl, hb1⟩; have HB1 := Lib.hid hb1; clear hb1) | (go_at_call 17; (with_reducible refine (check_any A n c L _ HN.out (by omega) (HL.out.up HB1.out)).mono ?_); rintro e w2 ⟨⟨s2, v2, rfl, hch⟩, hb2⟩; have HCH := Lib.hid hch; have HB2 := Lib.hid (below_on HB1.out hb2); clear hb2 hch) | (go_at_call 18; (with_reducible refine (rcheck_any A n c L _ HN.out HS.out hcap hcm (HL.out.up HB2.out)).mono ?_); rintro e w3 ⟨⟨s3, v3, rfl, hch⟩, hb3⟩; obtain ⟨rfl, rfl⟩ := HCH.out.one hch; have HB3 := Lib.hid (below_on HB2.out hb3); clear hb3 hch))
    go_wp2_with (go_at_call 16; (with_reducible refine (awake16_any _).mono ?_); rintro e w4 ⟨rfl, hb4⟩; have HB4 := Lib.hid (below_on HB3.out hb4); clear hb4)
    go_ret
    exact ⟨rfl, HB4.out⟩
end Go.Proofs.YthifmcnemeiphaaDoor
