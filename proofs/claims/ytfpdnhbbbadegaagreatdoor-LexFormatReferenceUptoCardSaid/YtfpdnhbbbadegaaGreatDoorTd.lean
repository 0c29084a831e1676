/- Layer 53, the reference: hex, char. (gen/td.py) -/
import Derived.Test.YtfpdnhbbbadegaaGreatDoorTa
namespace Go.Proofs.YtfpdnhbbbadegaaGreatDoor
open Go.ChangeShapes Go.WideShapes Go.ChangeAt Go.RowKit Go.PlainAid
set_option linter.unusedSimpArgs false
set_option linter.unusedVariables false

theorem hxV_cases : ∀ n, n < 256 → hxV (UInt8.ofNat n) = if 48 ≤ n ∧ n ≤ 57 then ((n - 48 : Nat) : Int) else if 97 ≤ n ∧ n ≤ 102 then ((n - 87 : Nat) : Int) else -1 := by decide +kernel
theorem hxV_at (c : UInt8) : hxV c = if 48 ≤ c.toNat ∧ c.toNat ≤ 57 then ((c.toNat - 48 : Nat) : Int) else if 97 ≤ c.toNat ∧ c.toNat ≤ 102 then ((c.toNat - 87 : Nat) : Int) else -1 := by
  have h := hxV_cases c.toNat (by have := c.toNat_lt; omega)
  rwa [UInt8.ofNat_toNat] at h
theorem rhex_any (c : UInt8) (b : Int) (hb : (c.toNat : Int) = b) (w : World) : Calls Tryz.prog 89 #[.int .u8 b] w fun e w' => e = .returned (.int .i64 (hxV c)) ∧ w = w' := by
  have hx := hxV_at c
  have hlt := c.toNat_lt
  rcases (by omega : (48 ≤ b ∧ b ≤ 57) ∨ (97 ≤ b ∧ b ≤ 102) ∨ (b < 97 ∧ ¬ (48 ≤ b ∧ b ≤ 57)) ∨ 102 < b) with ⟨h, h'⟩ | ⟨h, h'⟩ | ⟨h, h'⟩ | h
  · rw [if_pos (by omega)] at hx
    obtain ⟨n, hn⟩ : ∃ n : Nat, b = 48 + n := ⟨(b - 48).toNat, by omega⟩
    have HX := Lib.hid (show hxV c = (n : Int) by rw [hx]; omega)
    have hd : digB (48 + (n : Int)) = true := decide_eq_true (by omega)
    subst hn
    have hn9 : (n : Int) ≤ 9 := by omega
    clear hx hlt
    go_enter Tryz.func89, Tryz.ntmps89
    go_wp2_with (go_at_call 45; refine (rdig_any _ _).mono ?_; rintro e w' ⟨rfl, rfl⟩)
    go_ret
    exact ⟨by rw [HX.out]; first | rfl | (congr 2; omega) | (show Ending.returned (Value.int .i64 (48 + (n : Int) - 48)) = _; congr 2; omega), rfl⟩
  · rw [if_neg (by omega), if_pos (by omega)] at hx
    obtain ⟨n, hn⟩ : ∃ n : Nat, b = 97 + n := ⟨(b - 97).toNat, by omega⟩
    have HX := Lib.hid (show hxV c = (n : Int) + 10 by rw [hx]; omega)
    have hd : digB (97 + (n : Int)) = false := decide_eq_false (by omega)
    subst hn
    have hn9 : (n : Int) ≤ 5 := by omega
    clear hx hlt
    go_enter Tryz.func89, Tryz.ntmps89
    go_wp2_with (go_at_call 45; refine (rdig_any _ _).mono ?_; rintro e w' ⟨rfl, rfl⟩)
    go_ret
    exact ⟨by rw [HX.out]; first | rfl | (show Ending.returned (Value.int .i64 (97 + (n : Int) - 97 + 10)) = _; congr 2; omega), rfl⟩
  · rw [if_neg (by omega), if_neg (by omega)] at hx
    have HX := Lib.hid hx
    have hd : digB b = false := decide_eq_false (by omega)
    have hg : ¬ (97 : Int) ≤ b := by omega
    clear hx hlt h'
    go_enter Tryz.func89, Tryz.ntmps89
    go_wp2_with (go_at_call 45; refine (rdig_any _ _).mono ?_; rintro e w' ⟨rfl, rfl⟩)
    go_ret
    exact ⟨by rw [HX.out]; rfl, rfl⟩
  · rw [if_neg (by omega), if_neg (by omega)] at hx
    have HX := Lib.hid hx
    have hd : digB b = false := decide_eq_false (by omega)
    have hg : (97 : Int) ≤ b := by omega
    have hg2 : ¬ b ≤ (102 : Int) := by omega
    clear hx hlt
    go_enter Tryz.func89, Tryz.ntmps89
    go_wp2_with (go_at_call 45; refine (rdig_any _ _).mono ?_; rintro e w' ⟨rfl, rfl⟩)
    go_ret
    exact ⟨by rw [HX.out]; rfl, rfl⟩
/-- the byte that the next character stands for, and how many bytes it takes (0: none) -/
def chV : List UInt8 → UInt8 × Nat
  | [] => (0, 0)
  | c :: r => if c.toNat < 32 ∨ 126 < c.toNat ∨ c.toNat = 34 then (0, 0) else if c.toNat = 92 then (match escL r with | none => (0, 0) | some x => (x.1, 1 + x.2)) else (c, 1)
theorem chV_cons (c : UInt8) (r : List UInt8) : chV (c :: r) = if c.toNat < 32 ∨ 126 < c.toNat ∨ c.toNat = 34 then (0, 0) else if c.toNat = 92 then (match escL r with | none => (0, 0) | some x => (x.1, 1 + x.2)) else (c, 1) := rfl
def chO (l : List UInt8) : Value := .tuple #[.int .u8 ((chV l).1.toNat : Int), .int .i64 ((chV l).2 : Int)]
theorem ch_bad {l r : List UInt8} {c : UInt8} (h : l = c :: r) (hc : c.toNat < 32 ∨ 126 < c.toNat ∨ c.toNat = 34) : chO l = .tuple #[.int .u8 0, .int .i64 0] := by
  subst h; unfold chO; rw [chV_cons, if_pos hc]; rfl
theorem ch_one {l r : List UInt8} {c : UInt8} (h : l = c :: r) (hc : ¬ (c.toNat < 32 ∨ 126 < c.toNat ∨ c.toNat = 34)) (h2 : c.toNat ≠ 92) : chO l = .tuple #[.int .u8 (c.toNat : Int), .int .i64 1] := by
  subst h; unfold chO; rw [chV_cons, if_neg hc, if_neg h2]; rfl
theorem ch_no {l r : List UInt8} {c : UInt8} (h : l = c :: r) (hc : c.toNat = 92) (he : escL r = none) : chO l = .tuple #[.int .u8 0, .int .i64 0] := by
  subst h; unfold chO; rw [chV_cons, if_neg (by omega), if_pos hc, he]; rfl
theorem ch_esc {l r : List UInt8} {c b : UInt8} {n : Nat} (h : l = c :: r) (hc : c.toNat = 92) (he : escL r = some (b, n)) : chO l = .tuple #[.int .u8 (b.toNat : Int), .int .i64 ((1 + n : Nat) : Int)] := by
  subst h; unfold chO; rw [chV_cons, if_neg (by omega), if_pos hc, he]
set_option maxRecDepth 100000 in
set_option maxHeartbeats 2000000 in
theorem rchar_any (s : ByteArray) (a : Nat) (hs : s.size ≤ 1000000000) (ha : a < s.size) (w : World) :
    Calls Tryz.prog 73 #[.string s, .int .i64 (a : Int)] w fun e w' => e = .returned (chO (s.data.toList.drop a)) ∧ ∃ q, w' = w.drewN q := by
  have hb := get_bt s
  obtain ⟨V, hV⟩ : ∃ V, chO (s.data.toList.drop a) = V := ⟨_, rfl⟩
  have HV := Lib.hid hV
  rw [hV]
  obtain ⟨c, r, hd, hc, hr⟩ := drop_bt ha
  have hb0 := bt_nonneg s a
  have hb1 := bt_le s a
  have HD := Lib.hid hd
  have HR := Lib.hid hr
  have hai : (a : Int) < (s.size : Int) := by omega
  clear hV hd hr
  by_cases h1 : bt s a < 32
  · have HN := Lib.hid (show V = .tuple #[.int .u8 0, .int .i64 0] by rw [← HV.out, ch_bad HD.out (by omega)])
    clear hc
    go_enter Tryz.func73, Tryz.ntmps73
    go_wp2
    go_ret2
    exact ⟨by rw [HN.out]; rfl, 0, rfl⟩
  have h1' : decide (bt s a < 32) = false := decide_eq_false h1
  by_cases h2 : 126 < bt s a
  · have HN := Lib.hid (show V = .tuple #[.int .u8 0, .int .i64 0] by rw [← HV.out, ch_bad HD.out (by omega)])
    clear hc
    go_enter Tryz.func73, Tryz.ntmps73
    go_wp2
    go_ret2
    exact ⟨by rw [HN.out]; rfl, 0, rfl⟩
  have h2' : decide (126 < bt s a) = false := decide_eq_false h2
  by_cases h3 : bt s a = 34
  · have HN := Lib.hid (show V = .tuple #[.int .u8 0, .int .i64 0] by rw [← HV.out, ch_bad HD.out (by omega)])
    have e3 : (bt s a == 34) = true := by simpa using h3
    clear hc h1 h2 h3
    go_enter Tryz.func73, Tryz.ntmps73
    go_wp2
    go_ret2
    exact ⟨by rw [HN.out]; rfl, 0, rfl⟩
  have e3 : (bt s a == 34) = false := by simpa using h3
  by_cases h4 : bt s a = 92
  · have e4 : (bt s a != 92) = false := by simpa using h4
    have hc92 : c.toNat = 92 := by omega
    clear hc h1 h2 h3 h4 h1' h2' e3
    have h1' : decide (bt s a < 32) = false := decide_eq_false (by simp only [bne_eq_false_iff_eq] at e4; omega)
    have h2' : decide (126 < bt s a) = false := decide_eq_false (by simp only [bne_eq_false_iff_eq] at e4; omega)
    have e3 : (bt s a == 34) = false := by simp only [bne_eq_false_iff_eq] at e4; rw [e4]; rfl
    by_cases h5 : s.size - a < 2
    · have HN := Lib.hid (show V = .tuple #[.int .u8 0, .int .i64 0] by
        rw [← HV.out, ch_no HD.out hc92]
        rw [← HR.out, List.drop_eq_nil_of_le (by rw [len_data]; omega)]; rfl)
      have h5' : (s.size : Int) - (a : Int) < 2 := by omega
      clear h5
      go_enter Tryz.func73, Tryz.ntmps73
      go_wp2
      go_ret2
      exact ⟨by rw [HN.out]; rfl, 0, rfl⟩
    have h5' : ¬ (s.size : Int) - (a : Int) < 2 := by omega
    have ha1 : a + 1 < s.size := by omega
    have hai1 : (a : Int) + 1 < (s.size : Int) := by omega
    obtain ⟨d, r1, hd1, hdc, hr1⟩ := drop_bt ha1
    have hb2 := bt_nonneg s (a + 1)
    have hb3 := bt_le s (a + 1)
    have HE := Lib.hid (show escL r = if d.toNat = 34 ∨ d.toNat = 92 then some (d, 1) else if d.toNat = 110 then some (10, 1) else if d.toNat = 120 then (match r1 with
      | a :: b :: _ => if 0 ≤ hxV a ∧ 0 ≤ hxV b then some (UInt8.ofNat ((hxV a).toNat * 16 + (hxV b).toNat), 3) else none
      | _ => none) else none by rw [← HR.out, hd1]; exact esc_cons d r1)
    have HR1 := Lib.hid hr1
    have HDC := Lib.hid hdc
    clear h5 hd1 hr1
    by_cases h6 : bt s (a + 1) = 34 ∨ bt s (a + 1) = 92
    · have HN := Lib.hid (show V = .tuple #[.int .u8 (bt s (a + 1)), .int .i64 2] by
        rw [← HV.out, ch_esc HD.out hc92 (HE.out.trans (if_pos (by omega))), hdc]; rfl)
      clear hdc
      rcases h6 with h6 | h6
      · have e6 : (bt s (a + 1) == 34) = true := by simpa using h6
        clear h6
        go_enter Tryz.func73, Tryz.ntmps73
        go_wp2
        go_ret2
        exact ⟨by rw [HN.out]; rfl, 0, rfl⟩
      · have e6 : (bt s (a + 1) == 34) = false := by rw [h6]; rfl
        have e7 : (bt s (a + 1) == 92) = true := by simpa using h6
        clear h6
        go_enter Tryz.func73, Tryz.ntmps73
        go_wp2
        go_ret2
        exact ⟨by rw [HN.out]; rfl, 0, rfl⟩
    have e6 : (bt s (a + 1) == 34) = false := by rw [beq_eq_false_iff_ne]; omega
    have e7 : (bt s (a + 1) == 92) = false := by rw [beq_eq_false_iff_ne]; omega
    by_cases h8 : bt s (a + 1) = 110
    · have HN := Lib.hid (show V = .tuple #[.int .u8 10, .int .i64 2] by
        rw [← HV.out, ch_esc HD.out hc92 (HE.out.trans ((if_neg (by omega)).trans (if_pos (by omega))))]; rfl)
      have e8 : (bt s (a + 1) == 110) = true := by simpa using h8
      clear h6 h8 hdc
      go_enter Tryz.func73, Tryz.ntmps73
      go_wp2
      go_ret2
      exact ⟨by rw [HN.out]; rfl, 0, rfl⟩
    have e8 : (bt s (a + 1) == 110) = false := by rw [beq_eq_false_iff_ne]; omega
    by_cases h9 : bt s (a + 1) = 120
    · have e9 : (bt s (a + 1) == 120) = true := by simpa using h9
      have HQ := Lib.hid (HE.out.trans ((if_neg (by omega)).trans ((if_neg (by omega)).trans (if_pos (by omega)))))
      clear h6 h8 h9 hdc
      by_cases h10 : s.size - a < 4
      · have HN := Lib.hid (show V = .tuple #[.int .u8 0, .int .i64 0] by
          rw [← HV.out, ch_no HD.out hc92]
          rw [HQ.out]
          have hl := congrArg List.length HR1.out
          rw [List.length_drop, len_data] at hl
          rcases r1 with _ | ⟨x, _ | ⟨y, r1⟩⟩
          · rfl
          · rfl
          · simp at hl; omega)
        have h10' : ¬ (4 : Int) ≤ (s.size : Int) - (a : Int) := by omega
        have h10'' : decide ((4 : Int) ≤ (s.size : Int) - (a : Int)) = false := decide_eq_false h10'
        clear h10
        go_enter Tryz.func73, Tryz.ntmps73
        go_wp2
        go_ret2
        exact ⟨by rw [HN.out]; rfl, 0, rfl⟩
      · have h10' : (4 : Int) ≤ (s.size : Int) - (a : Int) := by omega
        have ha2 : a + 2 < s.size := by omega
        have ha3 : a + 3 < s.size := by omega
        have hai2 : (a : Int) + 2 < (s.size : Int) := by omega
        have hai3 : (a : Int) + 3 < (s.size : Int) := by omega
        obtain ⟨x, r2, d2, c2, x2⟩ := drop_bt ha2
        obtain ⟨y, r3, d3, c3, x3⟩ := drop_bt ha3
        have hrr : r1 = x :: y :: r3 := by
          rw [← HR1.out]
          show s.data.toList.drop (a + 2) = _
          rw [d2, ← x2, d3]
        have Ka := Lib.hid (fun W => rhex_any x (bt s (a + 2)) c2 W)
        have Kb := Lib.hid (fun W => rhex_any y (bt s (a + 3)) c3 W)
        have bu := hxV_bd x
        have bv := hxV_bd y
        have HQ2 := Lib.hid (show escL r = if 0 ≤ hxV x ∧ 0 ≤ hxV y then some (UInt8.ofNat ((hxV x).toNat * 16 + (hxV y).toNat), 3) else none by rw [HQ.out, hrr])
        obtain ⟨u, hu⟩ : ∃ u, hxV x = u := ⟨_, rfl⟩
        obtain ⟨v, hv⟩ : ∃ v, hxV y = v := ⟨_, rfl⟩
        rw [hu] at Ka bu
        rw [hv] at Kb bv
        rw [hu, hv] at HQ2
        clear d2 c2 x2 d3 c3 x3 hrr hu hv HQ h10
        obtain ⟨bu0, bu1⟩ := bu
        obtain ⟨bv0, bv1⟩ := bv
        by_cases h5 : 0 ≤ u
        · by_cases h6 : 0 ≤ v
          · obtain ⟨i, rfl⟩ : ∃ i : Nat, u = (i : Int) := ⟨u.toNat, by omega⟩
            obtain ⟨j, rfl⟩ : ∃ j : Nat, v = (j : Int) := ⟨v.toNat, by omega⟩
            have HN := Lib.hid (show V = .tuple #[.int .u8 ((i * 16 + j : Nat) : Int), .int .i64 4] by
              rw [← HV.out, ch_esc HD.out hc92 (HQ2.out.trans (if_pos ⟨h5, h6⟩)), Int.toNat_natCast, Int.toNat_natCast, UInt8.toNat_ofNat', Nat.mod_eq_of_lt (by omega)]; rfl)
            go_enter Tryz.func73, Tryz.ntmps73
            go_upto_region 16 with (first | (go_at_call 89; with_reducible refine (Ka.out _).mono ?_; rintro e w' ⟨rfl, rfl⟩) | (go_at_call 89; with_reducible refine (Kb.out _).mono ?_; rintro e w' ⟨rfl, rfl⟩))
            go_quiet ((first | (go_at_call 89; with_reducible exact Calls.quiet_of_same ((Ka.out _).mono fun _ _ h => ⟨h.1, h.2.symm⟩)) | (go_at_call 89; with_reducible exact Calls.quiet_of_same ((Kb.out _).mono fun _ _ h => ⟨h.1, h.2.symm⟩))))
            go_wp2
            go_ret2
            exact ⟨by rw [HN.out, show ((i * 16 + j : Nat) : Int) = (i : Int) * 16 + (j : Int) by omega]; rfl, _, rfl⟩
          · have HN := Lib.hid (show V = .tuple #[.int .u8 0, .int .i64 0] by rw [← HV.out, ch_no HD.out hc92 (HQ2.out.trans (if_neg (by omega)))])
            have hg : decide ((0 : Int) ≤ v) = false := decide_eq_false h6
            go_enter Tryz.func73, Tryz.ntmps73
            go_wp2_with (first | (go_at_call 89; with_reducible refine (Ka.out _).mono ?_; rintro e w' ⟨rfl, rfl⟩) | (go_at_call 89; with_reducible refine (Kb.out _).mono ?_; rintro e w' ⟨rfl, rfl⟩))
            go_ret2
            exact ⟨by rw [HN.out]; rfl, 0, rfl⟩
        · have HN := Lib.hid (show V = .tuple #[.int .u8 0, .int .i64 0] by rw [← HV.out, ch_no HD.out hc92 (HQ2.out.trans (if_neg (by omega)))])
          have hg : decide ((0 : Int) ≤ u) = false := decide_eq_false h5
          go_enter Tryz.func73, Tryz.ntmps73
          go_wp2_with (first | (go_at_call 89; with_reducible refine (Ka.out _).mono ?_; rintro e w' ⟨rfl, rfl⟩) | (go_at_call 89; with_reducible refine (Kb.out _).mono ?_; rintro e w' ⟨rfl, rfl⟩))
          go_ret2
          exact ⟨by rw [HN.out]; rfl, 0, rfl⟩
    · have e9 : (bt s (a + 1) == 120) = false := by rw [beq_eq_false_iff_ne]; omega
      have HN := Lib.hid (show V = .tuple #[.int .u8 0, .int .i64 0] by
        rw [← HV.out, ch_no HD.out hc92 (HE.out.trans ((if_neg (by omega)).trans ((if_neg (by omega)).trans (if_neg (by omega)))))])
      clear h6 h8 h9 hdc
      go_enter Tryz.func73, Tryz.ntmps73
      go_wp2
      go_ret2
      exact ⟨by rw [HN.out]; rfl, 0, rfl⟩
  · have e4 : (bt s a != 92) = true := by simpa using h4
    have HN := Lib.hid (show V = .tuple #[.int .u8 (bt s a), .int .i64 1] by rw [← HV.out, ch_one HD.out (by omega) (by omega), hc])
    clear hc h1 h2 h3 h4
    go_enter Tryz.func73, Tryz.ntmps73
    go_wp2
    go_ret2
    exact ⟨by rw [HN.out]; rfl, 0, rfl⟩

end Go.Proofs.YtfpdnhbbbadegaaGreatDoor
