/- Layer 53: the law LexOffsets. -/
import Derived.Test.YtfpdnhbbbadegaaDoorYx
namespace Go.Proofs.YtfpdnhbbbadegaaDoor
open Go.ChangeShapes Go.WideShapes Go.ChangeAt Go.RowKit Go.PlainAid
set_option linter.unusedSimpArgs false
set_option linter.unusedVariables false

/-- what is known of the tokens of a text -/
structure Offs (l : List UInt8) (L : List Tk) : Prop where
  each : ∀ t ∈ L, TkAt 0 l t
  inc : ∀ (i : Nat) (t u : Tk), L[i]? = some t → L[i + 1]? = some u → t.a < u.a
  len : L.length ≤ 5000
  rng : ∀ t ∈ L, -9223372036854775808 ≤ t.n ∧ t.n ≤ 9223372036854775807
  jo : joE L = 0 ∨ joE L = 8
  rt : joE L = 0 → SameT (tkL (joS L)).1 L ∧ (tkL (joS L)).2.2 = 0
theorem offs_of {l : List UInt8} {L : List Tk} {P : Int} (h : tkL l = (L, P, 0)) : Offs l L := by
  have h0 : (tkL l).2.2 = 0 := by rw [h]
  have h2 : ¬ 20000 < l.length := by
    intro h2
    unfold tkL at h0
    rw [if_pos h2] at h0; cases h0
  have hL : (tkL l).1 = L := by rw [h]
  have e : tkL l = tkGo (l.length + 1) 0 0 l := by unfold tkL; rw [if_neg h2]
  refine ⟨?_, ?_, by rw [← hL]; exact tkL_len l, by rw [← hL]; exact tkL_rng l, by rw [← hL]; exact jo_of h0, fun hj => jo_rt hj⟩
  · rw [← hL, e]; rw [e] at h0; exact tk_each _ 0 0 l h0
  · rw [← hL, e]; rw [e] at h0; exact tk_inc _ 0 0 l h0
theorem op_len : ∀ o ∈ opL, o.length ≤ 3 := by decide
theorem sc_sl {l : List UInt8} {t : Sc} (h : scL l = some t) : t.s.length ≤ 1024 := by
  cases l with
  | nil => cases h
  | cons c l =>
    rw [sc_cons] at h
    split at h
    · unfold scNm at h
      split at h
      · rename_i h2
        cases h
        unfold clsT at h2
        rw [Bool.and_eq_true, decide_eq_true_eq] at h2
        exact Nat.le_trans h2.1 (by decide)
      · cases h
    · split at h
      · unfold scNu at h
        split at h
        · cases h
        · split at h
          · cases hp : okI (Lib.parseIntB 64 ((c :: l).take (dgN (c :: l)))) with
            | none => rw [hp] at h; cases h
            | some v => rw [hp] at h; cases h; exact Nat.zero_le _
          · cases hp : okI (Lib.parseIntB 32 ((c :: l).take (dgN (c :: l)))) with
            | none => rw [hp] at h; cases h
            | some v => rw [hp] at h; cases h; exact Nat.zero_le _
      · split at h
        · unfold scSt at h
          cases hs : strGo (c :: l).length ((c :: l).drop 1) with
          | none => rw [hs] at h; cases h
          | some x =>
            rw [hs] at h
            simp only at h
            split at h
            · cases h; assumption
            · cases h
        · unfold scOp at h
          cases hf : opL.find? (·.isPrefixOf (c :: l)) with
          | none => rw [hf] at h; cases h
          | some o =>
            have := op_len o (List.mem_of_find?_eq_some hf)
            rw [hf] at h; cases h
            simp only
            omega
theorem sc_sz {t : Tk} {l : List UInt8} (h : TkAt 0 l t) : t.s.length ≤ 1024 := sc_sl (fm_sc h.fm)
set_option maxRecDepth 100000 in
set_option maxHeartbeats 4000000 in
theorem offsets_law (s : ByteArray) (hs : s.size ≤ 9223372036854775807) (w : World) (hL : Laid w) :
    Calls Tryd.prog 4 #[.string s] w fun e w' => e = .returned (.bool true) ∧ Below w.heap.size w w' := by
  have KA := Lib.hid (fun W (hW : Laid W) => awake53_any W hW)
  have HL := Lib.hid hL
  have hls := len_data s
  have T1 := fun W (hW : Laid W) => tokenize_any s hs W hW
  obtain ⟨⟨L, P, E⟩, hR1⟩ : ∃ R, tkL s.data.toList = R := ⟨_, rfl⟩
  rw [hR1] at T1
  have TT1 := Lib.hid T1
  have HB := Lib.hid (Below.refl w.heap.size w)
  have hb := get_bt s
  clear hL T1
  by_cases hE : E = 0
  · subst hE
    have HO := Lib.hid (offs_of hR1)
    have h20 : s.size ≤ 20000 := by
      rcases Nat.lt_or_ge 20000 s.size with h | h
      · unfold tkL at hR1; rw [if_pos (by omega)] at hR1; cases hR1
      · exact h
    have HLS := Lib.hid hls
    clear hR1 hls
    go_enter Tryd.func4, Tryd.ntmps4
    go_wp2_with (go_at_call 9; refine (TT1.out _ HL.out).mono ?_; rintro e w1 ⟨A, n, c, rfl, ho1, hb1⟩; have hn1 : n ≤ 5000 := (by rw [← ho1.len]; exact HO.out.len); have HX1 := Lib.hid (own_tkr ho1 HO.out.rng); have HB := Lib.hid hb1; clear hb1 ho1)
    go_loopw [6] (fun x wr => ∃ k q : Nat, k ≤ n ∧ x = .int .i64 k ∧ wr = w1.drewN q) (fun x _ => n - (intOf x).toNat)
    case atStart => exact ⟨0, 0, Nat.zero_le _, rfl, rfl⟩
    case round =>
      obtain ⟨k, q, hk, rfl, rfl⟩ := hrel
      by_cases hlt : k < n
      · obtain ⟨t, g, o, e1, rfl, hg, a0, a1, a2, a3⟩ := HX1.out.get hlt
        have hat := HO.out.each t (List.mem_of_getElem? e1)
        obtain ⟨p, hp⟩ : ∃ p : Nat, t.a = p := ⟨t.a.toNat, by have := hat.lo; omega⟩
        have hk0 : (0 : Int) ≤ (k : Int) := by omega
        have hk1 : (k : Int) < (n : Int) := by omega
        have hps : p < s.size := by have := hat.hi; rw [HLS.out] at this; omega
        rw [hp] at a3
        have hp0 : decide ((p : Int) < 0) = false := decide_eq_false (by omega)
        have hp1 : decide (s.size ≤ p) = false := decide_eq_false (by omega)
        have HAT := Lib.hid hat
        have HPS := Lib.hid hps
        have HPA := Lib.hid hp
        have HE1 := Lib.hid e1
        clear hat hps hp e1
        have HINC := HO.out.inc
        obtain ⟨K, hK⟩ : ∃ K, t.k = K := ⟨_, rfl⟩
        obtain ⟨S, hS⟩ : ∃ S, bsB t.s = S := ⟨_, rfl⟩
        have hzs := bsB_size t.s
        rw [hS] at a1 hzs
        rw [hK] at a0
        have HLIT := Lib.hid (show K = 6 ∨ K = 2 → t.s.isPrefixOf (s.data.toList.drop p) = true from fun h => by
          have := HAT.out.lit (by omega)
          rw [HPA.out] at this
          simpa using this)
        have HSB := Lib.hid hS
        have HZS := Lib.hid hzs
        have HSM := Lib.hid (sc_sz HAT.out)
        clear hzs hS hK
        by_cases hk2 : 0 < k
        case' pos =>
          obtain ⟨j, hj⟩ : ∃ j, k = j + 1 := ⟨k - 1, by omega⟩
          obtain ⟨u, g2, o2, e2, e3, _, _, _, _, b3⟩ := HX1.out.get (k := j) (by omega)
          obtain ⟨rfl, rfl⟩ : g = g2 ∧ o = o2 := by injection e3 with h; injection h with h1 h2; exact ⟨h1, h2⟩
          have hua := HO.out.each u (List.mem_of_getElem? e2)
          obtain ⟨p2, hp2⟩ : ∃ p2 : Nat, u.a = p2 := ⟨u.a.toNat, by have := hua.lo; omega⟩
          rw [hp2] at b3
          have hinc := HINC j u t e2 (by rw [← hj]; exact HE1.out)
          rw [hp2, HPA.out] at hinc
          have hgt : decide ((0 : Int) < (k : Int)) = true := decide_eq_true (by omega)
          have hgu : decide (0 < k) = true := decide_eq_true (by omega)
          have hpp : decide (p ≤ p2) = false := decide_eq_false (by omega)
          have hw1 : IntKind.i64.wrap ((k : Int) - 1) = (j : Int) := by subst hj; simp [IntKind.wrap, IntKind.bits, IntKind.signed]; omega
          have hq0 : (0 : Int) ≤ (j : Int) := by omega
          have hq1 : (j : Int) < (n : Int) := by omega
          clear hk2 e2 e3 hua hp2 hinc hj HINC
          go_wp2
          go_quiet (fail)
        case' neg =>
          have hgt : decide ((0 : Int) < (k : Int)) = false := decide_eq_false (by omega)
          have hgu : decide (0 < k) = false := decide_eq_false (by omega)
          clear hk2 HINC
          go_wp2
          go_quiet (fail)
        all_goals
          by_cases h6 : K = 6 ∨ K = 2
          · have hpx := HLIT.out h6
            have hzl : p + S.size ≤ s.size := by
              have := pfx_len hpx
              rw [List.length_drop, HLS.out, ← HZS.out] at this
              have := HPS.out
              omega
            have hex : s.extract p (p + S.size) = S := by
              rw [← HSB.out]
              refine bsB_of ?_
              rw [data_extract, Nat.add_sub_cancel_left, bsB_size]
              exact pfx_take hpx
            have hd1 : decide ((s.size : Int) - (p : Int) < (S.size : Int)) = false := decide_eq_false (by omega)
            have hd2 : (p : Int) ≤ (p : Int) + (S.size : Int) := by omega
            have hd3 : (p : Int) + (S.size : Int) ≤ (s.size : Int) := by omega
            have hd4 : (0 : Int) ≤ (p : Int) := by omega
            have hd5 : (S.size : Int) ≤ 1048576 := by
              have := HZS.out
              have := HSM.out
              omega
            clear hpx
            have HF5 := Lib.hid hs
            rcases h6 with rfl | rfl
            · go_upto_region 10 with fail
              go_quiet (fail)
              go_wp2
              exact ⟨⟨k + 1, _, hlt, by go_num, rfl⟩, by simp [intOf]; omega⟩
            · go_upto_region 10 with fail
              go_quiet (fail)
              go_wp2
              exact ⟨⟨k + 1, _, hlt, by go_num, rfl⟩, by simp [intOf]; omega⟩
          · have n6 : (K == 6) = false := by rw [beq_eq_false_iff_ne]; omega
            have n2 : (K == 2) = false := by rw [beq_eq_false_iff_ne]; omega
            clear h6
            go_wp2
            exact ⟨⟨k + 1, _, hlt, by go_num, rfl⟩, by simp [intOf]; omega⟩
      · obtain rfl : k = n := by omega
        have HX1 := Lib.hid (HX1.out.up (below_dr (Below.refl _ _) q))
        have HB := Lib.hid (below_dr HB.out q)
        generalize w1.drewN q = w2 at HX1 HB ⊢
        have T2 := fun W A n c (hW : Laid W) (hO : TkR W A n L) (hn : n ≤ 9223372036854775807) => join_any (c := c) hn hO (fun t ht => Nat.le_trans (sc_sz (HO.out.each t ht)) (by decide)) hW
        obtain ⟨X, hX⟩ : ∃ X, bsB (joS L) = X := ⟨_, rfl⟩
        have hjz : (joE L = 0 ∨ joE L = 8) := HO.out.jo
        have hjo := HO.out.rt
        have hXd : X.data.toList = joS L := by rw [← hX, bsB_data]
        have hXz : X.size ≤ 9223372036854775807 := by
          rw [← len_data, hXd]
          rcases hjz with h | h
          · unfold joE at h
            split at h
            · cases h
            · split at h
              · split at h
                · cases h
                · rename_i h1 h2 h3
                  unfold joS
                  split
                  · omega
                  · exact Nat.zero_le _
              · cases h
          · unfold joS; rw [h]; exact Nat.zero_le _
        have T3 := fun W (hW : Laid W) => tokenize_any X hXz W hW
        rw [hXd] at T3
        rw [hX] at T2
        obtain ⟨⟨L3, P3, E3⟩, hR3⟩ : ∃ R, tkL (joS L) = R := ⟨_, rfl⟩
        have r3 := tkL_rng (joS L)
        have l3 := tkL_len (joS L)
        rw [hR3] at T3 hjo r3 l3
        simp only at hjo r3 l3
        have TT2 := Lib.hid T2
        have TT3 := Lib.hid T3
        have R3 := Lib.hid r3
        have LL3 := Lib.hid l3
        clear T2 T3 hX hXd hXz hR3 r3 l3
        rcases hjz with h0 | h8
        · obtain ⟨hsm, rfl⟩ := hjo h0
          rw [h0] at TT2
          have SM := Lib.hid hsm
          clear hjo h0 hsm
          go_wp2_with (first
            | (go_at_call 8; refine (TT2.out _ _ _ _ (HL.out.up HB.out) HX1.out (by omega)).mono ?_; rintro e w3 ⟨rfl, hb3⟩; have HX1 := Lib.hid (HX1.out.up hb3); have HB := Lib.hid (below_on HB.out hb3); clear hb3)
            | (go_at_call 9; refine (TT3.out _ (HL.out.up HB.out)).mono ?_; rintro e w4 ⟨A4, n4, c4, rfl, ho4, hb4⟩; have hn4 : n4 ≤ 5000 := (by rw [← ho4.len]; exact LL3.out); have HX4 := Lib.hid (own_tkr ho4 R3.out); have HX1 := Lib.hid (HX1.out.up hb4); have HB := Lib.hid (below_on HB.out hb4); clear hb4 ho4)
            | (go_at_call 7; refine (KA.out _ (HL.out.up HB.out)).mono ?_; rintro e w5 ⟨rfl, hb5⟩; have HX1 := Lib.hid (HX1.out.up hb5); have HX4 := Lib.hid (HX4.out.up hb5); have HB := Lib.hid (below_on HB.out hb5); clear hb5)
            | (go_at_call 10; refine (same_yes HX4.out HX1.out SM.out (by omega)).mono ?_; rintro e w6 ⟨rfl, q6, rfl⟩))
          go_ret
          exact ⟨rfl, below_dr HB.out _⟩
        · rw [h8] at TT2
          clear hjo h8
          go_wp2_with (first
            | (go_at_call 8; refine (TT2.out _ _ _ _ (HL.out.up HB.out) HX1.out (by omega)).mono ?_; rintro e w3 ⟨rfl, hb3⟩; have HX1 := Lib.hid (HX1.out.up hb3); have HB := Lib.hid (below_on HB.out hb3); clear hb3)
            | (go_at_call 9; refine (TT3.out _ (HL.out.up HB.out)).mono ?_; rintro e w4 ⟨A4, n4, c4, rfl, _, hb4⟩; have HB := Lib.hid (below_on HB.out hb4); clear hb4)
            | (go_at_call 7; refine (KA.out _ (HL.out.up HB.out)).mono ?_; rintro e w5 ⟨rfl, hb5⟩; have HB := Lib.hid (below_on HB.out hb5); clear hb5))
          go_ret
          exact ⟨rfl, HB.out⟩
  · have hL0 : L = [] ∧ 0 ≤ P ∧ (E = 70 → P < s.size) ∧ (E = 5 ∨ E = 8 ∨ E = 70) := by
      by_cases h20 : 20000 < s.data.toList.length
      · unfold tkL at hR1
        rw [if_pos h20] at hR1
        injection hR1 with e1 e2
        injection e2 with e2 e3
        subst e1 e2 e3
        exact ⟨rfl, by omega, fun h => by omega, by omega⟩
      · have hk := tkL_err s.data.toList (by omega)
        rw [hR1] at hk
        simp only at hk
        have hz : L = [] := by
          unfold tkL at hR1
          rw [if_neg h20] at hR1
          have := (tk_err (s.data.toList.length + 1) 0 0 s.data.toList).2.1 (by rw [hR1]; exact hE)
          rw [hR1] at this; exact this
        rcases hk.2 with h | h | h
        · exact absurd h hE
        · exact ⟨hz, by omega, fun h2 => by omega, by omega⟩
        · exact ⟨hz, by omega, fun h2 => by omega, by omega⟩
    obtain ⟨rfl, hP0, hPs, hEE⟩ := hL0
    have hge : decide ((0 : Int) ≤ P) = true := decide_eq_true hP0
    clear hR1 hls hE
    rcases hEE with rfl | rfl | rfl
    case' inr.inr => have hlt2 : decide (P < (s.size : Int)) = true := decide_eq_true (hPs rfl)
    all_goals
      clear hPs
      go_enter Tryd.func4, Tryd.ntmps4
      go_wp2_with (first
        | (go_at_call 9; refine (TT1.out _ HL.out).mono ?_; rintro e w1 ⟨A, n, c, rfl, ho1, hb1⟩; have hn1 := ho1.len; simp only [List.length_nil] at hn1; subst hn1; have HB := Lib.hid hb1; clear hb1 ho1)
        | (go_at_call 7; refine (KA.out _ (HL.out.up HB.out)).mono ?_; rintro e w5 ⟨rfl, hb5⟩; have HB := Lib.hid (below_on HB.out hb5); clear hb5))
      go_ret
      exact ⟨rfl, HB.out⟩

end Go.Proofs.YtfpdnhbbbadegaaDoor
