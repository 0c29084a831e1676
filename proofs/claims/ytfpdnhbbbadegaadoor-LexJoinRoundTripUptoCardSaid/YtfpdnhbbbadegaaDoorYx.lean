/- Layer 53: the law LexIgnoresComments. -/
import Derived.Test.YtfpdnhbbbadegaaDoorYw
namespace Go.Proofs.YtfpdnhbbbadegaaDoor
open Go.ChangeShapes Go.WideShapes Go.ChangeAt Go.RowKit Go.PlainAid
set_option linter.unusedSimpArgs false
set_option linter.unusedVariables false

theorem sc_rng {l : List UInt8} {t : Sc} (h : scL l = some t) : -9223372036854775808 ≤ t.n ∧ t.n ≤ 9223372036854775807 := by
  have hall : ∀ c ∈ l.take (dgN l), dg8 c = true := by
    intro c hc
    have e : l.take (dgN l) = l.takeWhile dg8 := by unfold dgN; exact (List.prefix_iff_eq_take.1 (List.takeWhile_prefix dg8)).symm
    rw [e] at hc
    exact (List.all_eq_true.1 (List.all_takeWhile (p := dg8) (l := l))) c hc
  cases l with
  | nil => cases h
  | cons c l =>
    rw [sc_cons] at h
    split at h
    · unfold scNm at h
      split at h
      · cases h; simp only; omega
      · cases h
    · split at h
      · unfold scNu at h
        split at h
        · cases h
        · split at h
          · cases hp : okI (Lib.parseIntB 64 ((c :: l).take (dgN (c :: l)))) with
            | none => rw [hp] at h; cases h
            | some v =>
              obtain ⟨u, rfl, hu⟩ := okI_rng hp hall
              rw [hp] at h; cases h; simp only; omega
          · cases hp : okI (Lib.parseIntB 32 ((c :: l).take (dgN (c :: l)))) with
            | none => rw [hp] at h; cases h
            | some v =>
              obtain ⟨u, rfl, hu⟩ := okI_rng hp hall
              rw [hp] at h; cases h; simp only; omega
      · split at h
        · unfold scSt at h
          cases hs : strGo (c :: l).length ((c :: l).drop 1) with
          | none => rw [hs] at h; cases h
          | some x =>
            rw [hs] at h
            simp only at h
            split at h
            · cases h; simp only; omega
            · cases h
        · unfold scOp at h
          cases hf : opL.find? (·.isPrefixOf (c :: l)) with
          | none => rw [hf] at h; cases h
          | some o => rw [hf] at h; cases h; simp only; omega
theorem tk_rng : ∀ (f cnt a : Nat) (l : List UInt8), ∀ t ∈ (tkGo f cnt a l).1, -9223372036854775808 ≤ t.n ∧ t.n ≤ 9223372036854775807
  | 0, _, _, _, t, ht => by cases ht
  | f + 1, cnt, a, l, t, ht => by
    by_cases h : (tkGo (f + 1) cnt a l).2.2 = 0
    · rcases tk_ok h with h1 | ⟨x, hs, h2, h3, h1⟩
      · rw [h1] at ht; cases ht
      · rw [h1] at ht
        rcases List.mem_cons.1 ht with rfl | ht
        · exact sc_rng hs
        · exact tk_rng f _ _ _ t ht
    · rw [(tk_err (f + 1) cnt a l).2.1 h] at ht; cases ht
theorem tkL_rng (l : List UInt8) : ∀ t ∈ (tkL l).1, -9223372036854775808 ≤ t.n ∧ t.n ≤ 9223372036854775807 := by
  unfold tkL
  split
  · intro t ht; cases ht
  · exact tk_rng _ _ _ _
theorem tkL_len (l : List UInt8) : (tkL l).1.length ≤ 5000 := by
  by_cases h : (tkL l).2.2 = 0
  · unfold tkL at h ⊢
    split
    · exact Nat.zero_le _
    · rename_i h2
      rw [if_neg h2] at h
      have := tk_len _ 0 0 l h (Nat.zero_le _)
      omega
  · unfold tkL at h ⊢
    split
    · exact Nat.zero_le _
    · rename_i h2
      rw [if_neg h2] at h
      rw [(tk_err _ _ _ _).2.1 h]; exact Nat.zero_le _
theorem tkL_err (l : List UInt8) (hl : l.length ≤ 20000) : ((tkL l).2.2 = 0 → (tkL l).2.1 = 0) ∧ ((tkL l).2.2 = 0 ∨ ((tkL l).2.2 = 5 ∧ (tkL l).2.1 = 0) ∨ ((tkL l).2.2 = 70 ∧ 0 ≤ (tkL l).2.1 ∧ (tkL l).2.1 < l.length)) := by
  unfold tkL
  rw [if_neg (by omega)]
  have := tk_err (l.length + 1) 0 0 l
  refine ⟨this.1, ?_⟩
  rcases this.2.2 with h | h | h
  · exact Or.inl h
  · exact Or.inr (Or.inl h)
  · refine Or.inr (Or.inr ⟨h.1, by have := h.2.1; omega, by have := h.2.2; omega⟩)
theorem same_refl (L : List Tk) : SameT L L := rfl
theorem no10_of {r : ByteArray} (h : ∀ j, j < r.size → bt r j ≠ 10) : ∀ c ∈ r.data.toList, c ≠ 10 := by
  intro c hc he
  obtain ⟨j, hj, hx⟩ := List.getElem_of_mem hc
  rw [len_data] at hj
  refine h j hj ?_
  rw [bt_data, List.getD_eq_getElem?_getD, List.getElem?_eq_getElem (by rw [len_data]; exact hj), hx, he]; rfl
set_option maxRecDepth 100000 in
set_option maxHeartbeats 4000000 in
theorem ignore_law (s r : ByteArray) (hs : s.size ≤ 9223372036854775807) (hr : r.size ≤ 9223372036854775807) (w : World) (hL : Laid w) :
    Calls Tryd.prog 5 #[.string s, .string r] w fun e w' => e = .returned (.bool true) ∧ Below w.heap.size w w' := by
  have KA := Lib.hid (fun W (hW : Laid W) => awake53_any W hW)
  have HL := Lib.hid hL
  have hb := get_bt r
  by_cases h1 : 15000 < s.size
  · have h1' : (15000 : Int) < (s.size : Int) := by omega
    clear h1 hL hb
    go_enter Tryd.func5, Tryd.ntmps5
    go_wp2_with (go_at_call 7; refine (KA.out _ HL.out).mono ?_; rintro e w1 ⟨rfl, hb1⟩)
    go_ret
    exact ⟨rfl, hb1⟩
  by_cases h2 : 1000 < r.size
  · have h1' : ¬ (15000 : Int) < (s.size : Int) := by omega
    have h2' : (1000 : Int) < (r.size : Int) := by omega
    clear h1 h2 hL hb
    go_enter Tryd.func5, Tryd.ntmps5
    go_wp2_with (go_at_call 7; refine (KA.out _ HL.out).mono ?_; rintro e w1 ⟨rfl, hb1⟩)
    go_ret
    exact ⟨rfl, hb1⟩
  have h1' : ¬ (15000 : Int) < (s.size : Int) := by omega
  have h2' : ¬ (1000 : Int) < (r.size : Int) := by omega
  have HS := Lib.hid (show s.size ≤ 15000 by omega)
  have HR := Lib.hid (show r.size ≤ 1000 by omega)
  clear h1 h2 hL
  go_enter Tryd.func5, Tryd.ntmps5
  go_wp2
  go_loop [5] (fun i => ∃ k : Nat, k ≤ r.size ∧ i = .int .i64 k ∧ ∀ j, j < k → bt r j ≠ 10) (fun i => r.size - (intOf i).toNat)
  case atStart => exact ⟨0, Nat.zero_le _, rfl, fun j hj => absurd hj (Nat.not_lt_zero _)⟩
  case round =>
    obtain ⟨k, hk, rfl, hall⟩ := hrel
    have HALL := Lib.hid hall
    clear hall
    by_cases hlt : k < r.size
    · by_cases h10 : bt r k = 10
      · have e10 : (bt r k == 10) = true := by simpa using h10
        clear h10
        go_wp2_with (go_at_call 7; refine (KA.out _ HL.out).mono ?_; rintro e w1 ⟨rfl, hb1⟩)
        go_ret
        exact ⟨rfl, hb1⟩
      · have e10 : (bt r k == 10) = false := by simpa using h10
        have HN := Lib.hid (show ∀ j, j < k + 1 → bt r j ≠ 10 from fun j hj => by
          rcases (by omega : j < k ∨ j = k) with h | rfl
          · exact HALL.out j h
          · exact h10)
        clear h10
        go_wp2
        go_round
        case rel => exact ⟨k + 1, by omega, by go_num, HN.out⟩
        case measure => simp [intOf]; omega
    · obtain rfl : k = r.size := by omega
      have hls := len_data s
      have hlr := len_data r
      have hno := no10_of HALL.out
      obtain ⟨S2, hS2⟩ : ∃ S2, s ++ ⟨#[10, 32, 47, 47]⟩ = S2 := ⟨_, rfl⟩
      obtain ⟨S3, hS3⟩ : ∃ S3, S2 ++ r = S3 := ⟨_, rfl⟩
      obtain ⟨S4, hS4⟩ : ∃ S4, ⟨#[32, 9]⟩ ++ s = S4 := ⟨_, rfl⟩
      have hd3 : S3.data.toList = s.data.toList ++ 10 :: 32 :: 47 :: 47 :: r.data.toList := by rw [← hS3, ← hS2]; simp [ByteArray.data_append, Array.toList_append]
      have hd4 : S4.data.toList = 32 :: 9 :: s.data.toList := by rw [← hS4]; simp [ByteArray.data_append, Array.toList_append]
      have hz3 : S3.size ≤ 9223372036854775807 := by rw [← len_data, hd3]; simp only [List.length_append, List.length_cons]; have := HS.out; have := HR.out; omega
      have hz4 : S4.size ≤ 9223372036854775807 := by rw [← len_data, hd4]; simp only [List.length_cons]; have := HS.out; omega
      have t3 : tkL S3.data.toList = tkL s.data.toList := by rw [hd3]; exact tk_remark hno (by have := HS.out; omega) (by have := HR.out; omega)
      have t4 := tk_white (l := s.data.toList) (by have := HS.out; omega)
      rw [← hd4] at t4
      have hk4 := tkL_err S4.data.toList (by rw [hd4]; simp only [List.length_cons]; have := HS.out; omega)
      have hk1 := tkL_err s.data.toList (by have := HS.out; omega)
      have T1 := fun W (hW : Laid W) => tokenize_any s (by have := HS.out; omega) W hW
      have T3 := fun W (hW : Laid W) => tokenize_any S3 hz3 W hW
      have T4 := fun W (hW : Laid W) => tokenize_any S4 hz4 W hW
      rw [t3] at T3
      have r1 := tkL_rng s.data.toList
      have r4 := tkL_rng S4.data.toList
      have l1 := tkL_len s.data.toList
      have l4 := tkL_len S4.data.toList
      obtain ⟨⟨L, P, E⟩, hR1⟩ : ∃ R, tkL s.data.toList = R := ⟨_, rfl⟩
      obtain ⟨⟨L4, P4, E4⟩, hR4⟩ : ∃ R, tkL S4.data.toList = R := ⟨_, rfl⟩
      rw [hR1] at T1 T3 r1 l1 hk1 t4
      rw [hR4] at T4 r4 l4 hk4 t4
      simp only at r1 l1 hk1 r4 l4 hk4 t4
      obtain ⟨hsm, rfl⟩ := t4
      have R1 := Lib.hid r1
      have R4 := Lib.hid r4
      have LL1 := Lib.hid l1
      have LL4 := Lib.hid l4
      have SM := Lib.hid hsm
      have c3 : (s.size : Int) + 4 ≤ 20000 := by have := HS.out; omega
      subst hS2
      subst hS3
      subst hS4
      have TT1 := Lib.hid T1
      have TT3 := Lib.hid T3
      have TT4 := Lib.hid T4
      clear T1 T3 T4 r1 r4 l1 l4 hsm hz3 hz4 hd3 hd4 t3 hno hls hlr hR1 hR4 hb
      have HB := Lib.hid (Below.refl w.heap.size w)
      by_cases hE : E4 = 0
      · subst hE
        obtain rfl : P = 0 := hk1.1 rfl
        obtain rfl : P4 = 0 := hk4.1 rfl
        clear hk1 hk4
        go_wp2_with (first
          | (go_at_call 9; (with_reducible refine (TT1.out _ (HL.out.up HB.out)).mono ?_); rintro e w1 ⟨A1, n1, c1, rfl, ho1, hb1⟩; have hn1 : n1 ≤ 5000 := (by rw [← ho1.len]; exact LL1.out); have HX1 := Lib.hid (own_tkr ho1 R1.out); have HB := Lib.hid (below_on HB.out hb1); clear hb1 ho1)
          | (go_at_call 9; (with_reducible refine (TT3.out _ (HL.out.up HB.out)).mono ?_); rintro e w3 ⟨A3, n3, c3, rfl, ho3, hb3⟩; have hn3 : n3 ≤ 5000 := (by rw [← ho3.len]; exact LL1.out); have HX3 := Lib.hid (own_tkr ho3 R1.out); have HX1 := Lib.hid (HX1.out.up hb3); have HB := Lib.hid (below_on HB.out hb3); clear hb3 ho3)
          | (go_at_call 9; (with_reducible refine (TT4.out _ (HL.out.up HB.out)).mono ?_); rintro e w4 ⟨A4, n4, c4, rfl, ho4, hb4⟩; have hn4 : n4 ≤ 5000 := (by rw [← ho4.len]; exact LL4.out); have HX4 := Lib.hid (own_tkr ho4 R4.out); have HX1 := Lib.hid (HX1.out.up hb4); have HX3 := Lib.hid (HX3.out.up hb4); have HB := Lib.hid (below_on HB.out hb4); clear hb4 ho4)
          | (go_at_call 7; refine (KA.out _ (HL.out.up HB.out)).mono ?_; rintro e w5 ⟨rfl, hb5⟩; have HX1 := Lib.hid (HX1.out.up hb5); have HX3 := Lib.hid (HX3.out.up hb5); have HX4 := Lib.hid (HX4.out.up hb5); have HB := Lib.hid (below_on HB.out hb5); clear hb5)
          | (go_at_call 10; (with_reducible refine (same_yes HX3.out HX1.out (same_refl L) (by omega)).mono ?_); rintro e w6 ⟨rfl, q6, rfl⟩; have HX1 := Lib.hid (HX1.out.up (below_dr (Below.refl _ _) q6)); have HX4 := Lib.hid (HX4.out.up (below_dr (Below.refl _ _) q6)))
          | (go_at_call 10; (with_reducible refine (same_yes HX4.out HX1.out SM.out (by omega)).mono ?_); rintro e w7 ⟨rfl, q7, rfl⟩))
        go_ret
        exact ⟨rfl, below_dr HB.out _⟩
      · have hE' : E4 = 5 ∨ E4 = 70 := by rcases hk1.2 with h | h | h <;> omega
        clear hk1 hk4 hE
        rcases hE' with rfl | rfl
        all_goals
          go_wp2_with (first
            | (go_at_call 9; (with_reducible refine (TT1.out _ (HL.out.up HB.out)).mono ?_); rintro e w1 ⟨A1, n1, c1, rfl, _, hb1⟩; have HB := Lib.hid (below_on HB.out hb1); clear hb1)
            | (go_at_call 9; (with_reducible refine (TT3.out _ (HL.out.up HB.out)).mono ?_); rintro e w3 ⟨A3, n3, c3, rfl, _, hb3⟩; have HB := Lib.hid (below_on HB.out hb3); clear hb3)
            | (go_at_call 7; refine (KA.out _ (HL.out.up HB.out)).mono ?_; rintro e w5 ⟨rfl, hb5⟩; have HB := Lib.hid (below_on HB.out hb5); clear hb5))
          go_ret
          exact ⟨rfl, HB.out⟩

end Go.Proofs.YtfpdnhbbbadegaaDoor
