/- The statements of layer 2 on the order of encodings and on the round trip of strings. -/
import Derived.Test.YtlgjcjcbleiioaaOctRound
import Derived.Lib.Strings
namespace Go.Proofs.Ytlgjcjcbleiioaa
open Go.ChangeShapes Go.WideShapes Go.ChangeAt Go.RowKit Go.PlainAid
set_option linter.unusedSimpArgs false
set_option linter.unusedVariables false

/-- the number that a list of bytes says, most significant first -/
def valB : List UInt8 → Int
  | [] => 0
  | c :: l => (c.toNat : Int) * 256 ^ l.length + valB l
theorem valB_bd : ∀ l, 0 ≤ valB l ∧ valB l < 256 ^ l.length
  | [] => by simp [valB]
  | c :: l => by
    have h := valB_bd l
    have hc : c.toNat < 256 := c.toNat_lt
    have hp : (0 : Int) < 256 ^ l.length := Int.pow_pos (by decide)
    have h1 : 0 ≤ (c.toNat : Int) * 256 ^ l.length := Int.mul_nonneg (by omega) (by omega)
    have h2 : (c.toNat : Int) * 256 ^ l.length ≤ 255 * 256 ^ l.length := Int.mul_le_mul_of_nonneg_right (by omega) (by omega)
    simp only [valB, List.length_cons, Int.pow_succ]
    omega
theorem lex_val : ∀ X Y : List UInt8, X.length = Y.length → Op.bytesLess X Y = decide (valB X < valB Y) ∧ (X == Y) = decide (valB X = valB Y)
  | [], [], _ => by simp [Op.bytesLess, valB]
  | [], _ :: _, h => by simp at h
  | _ :: _, [], h => by simp at h
  | a :: X, b :: Y, h => by
    have hl : X.length = Y.length := by simpa using h
    obtain ⟨i1, i2⟩ := lex_val X Y hl
    have hX := valB_bd X
    have hY := valB_bd Y
    rw [hl] at hX
    simp only [Op.bytesLess, valB, i1, hl]
    have e2 : (a :: X == b :: Y) = ((a == b) && (X == Y)) := rfl
    rw [e2, i2]
    obtain ⟨p, hp⟩ : ∃ p : Int, 256 ^ Y.length = p := ⟨_, rfl⟩
    rw [hp] at hX hY ⊢
    have ea : (a < b) = (a.toNat < b.toNat) := by rw [UInt8.lt_iff_toNat_lt]
    have eb : (a == b) = decide (a.toNat = b.toNat) := by
      rw [Bool.eq_iff_iff]; simp [UInt8.toNat_inj]
    simp only [ea, eb]
    rcases Nat.lt_trichotomy a.toNat b.toNat with hlt | heq | hgt
    · have h3 : ((a.toNat : Int) + 1) * p ≤ (b.toNat : Int) * p := Int.mul_le_mul_of_nonneg_right (by omega) (by omega)
      rw [Int.add_mul] at h3
      have n1 : ¬ a.toNat = b.toNat := by omega
      simp [hlt, n1]; omega
    · rw [heq]; simp
    · have h3 : ((b.toNat : Int) + 1) * p ≤ (a.toNat : Int) * p := Int.mul_le_mul_of_nonneg_right (by omega) (by omega)
      rw [Int.add_mul] at h3
      have n1 : ¬ a.toNat = b.toNat := by omega
      have n2 : ¬ a.toNat < b.toNat := by omega
      simp [n1, n2]; omega

theorem u8n (x : Int) (h : 0 ≤ x ∧ x < 256) : ((UInt8.ofNat x.toNat).toNat : Int) = x := by
  rw [UInt8.toNat_ofNat']; omega
theorem val_put8 (n : Int) (h0 : 0 ≤ n) (h1 : n ≤ 9223372036854775807) : valB ((putL n 8).map fun x => UInt8.ofNat x.toNat) = n := by
  have e : (putL n 8).map (fun x => UInt8.ofNat x.toNat) = [UInt8.ofNat (n / 72057594037927936 % 256).toNat, UInt8.ofNat (n / 281474976710656 % 256).toNat, UInt8.ofNat (n / 1099511627776 % 256).toNat, UInt8.ofNat (n / 4294967296 % 256).toNat, UInt8.ofNat (n / 16777216 % 256).toNat, UInt8.ofNat (n / 65536 % 256).toNat, UInt8.ofNat (n / 256 % 256).toNat, UInt8.ofNat (n % 256).toNat] := rfl
  rw [e]
  simp only [valB, List.length_cons, List.length_nil]
  rw [u8n _ (by omega), u8n _ (by omega), u8n _ (by omega), u8n _ (by omega), u8n _ (by omega), u8n _ (by omega), u8n _ (by omega), u8n _ (by omega)]
  have r7 : n / 72057594037927936 = n / 72057594037927936 % 256 := by omega
  have r6 : n / 281474976710656 = n / 72057594037927936 * 256 + n / 281474976710656 % 256 := by omega
  have r5 : n / 1099511627776 = n / 281474976710656 * 256 + n / 1099511627776 % 256 := by omega
  have r4 : n / 4294967296 = n / 1099511627776 * 256 + n / 4294967296 % 256 := by omega
  have r3 : n / 16777216 = n / 4294967296 * 256 + n / 16777216 % 256 := by omega
  have r2 : n / 65536 = n / 16777216 * 256 + n / 65536 % 256 := by omega
  have r1 : n / 256 = n / 65536 * 256 + n / 256 % 256 := by omega
  have r0 : n = n / 256 * 256 + n % 256 := by omega
  generalize n / 72057594037927936 % 256 = b7 at *
  generalize n / 281474976710656 % 256 = b6 at *
  generalize n / 1099511627776 % 256 = b5 at *
  generalize n / 4294967296 % 256 = b4 at *
  generalize n / 16777216 % 256 = b3 at *
  generalize n / 65536 % 256 = b2 at *
  generalize n / 256 % 256 = b1 at *
  generalize n % 256 = b0 at *
  generalize n / 72057594037927936 = q7 at *
  generalize n / 281474976710656 = q6 at *
  generalize n / 1099511627776 = q5 at *
  generalize n / 4294967296 = q4 at *
  generalize n / 16777216 = q3 at *
  generalize n / 65536 = q2 at *
  generalize n / 256 = q1 at *
  simp only [Nat.zero_add, Nat.reduceAdd, Int.reducePow]
  omega
theorem val_put (n z : Int) (hz : okSize z) (hf : fitsP n z) (h0 : 0 ≤ n) (h1 : n ≤ 9223372036854775807) : valB ((putL n z).map fun x => UInt8.ofNat x.toNat) = n := by
  unfold fitsP at hf
  rcases hz with rfl | rfl | rfl | rfl
  · simp [putL, valB, UInt8.toNat_ofNat'] at *; omega
  · simp [putL, valB, UInt8.toNat_ofNat'] at *; omega
  · simp [putL, valB, UInt8.toNat_ofNat'] at *; omega
  · exact val_put8 n h0 h1
theorem order_put (a b z : Int) (hz : okSize z) (ha : fitsP a z) (hb : fitsP b z) (ha0 : 0 ≤ a) (ha1 : a ≤ 9223372036854775807) (hb0 : 0 ≤ b) (hb1 : b ≤ 9223372036854775807) :
    Op.bytesLess (strOfNums (putL a z)).toList (strOfNums (putL b z)).toList = decide (a < b) ∧ ((strOfNums (putL a z)).toList == (strOfNums (putL b z)).toList) = decide (a = b) := by
  have h := lex_val ((putL a z).map fun x => UInt8.ofNat x.toNat) ((putL b z).map fun x => UInt8.ofNat x.toNat) (by rw [List.length_map, List.length_map, putL_len a z hz, putL_len b z hz])
  rw [val_put a z hz ha ha0 ha1, val_put b z hz hb hb0 hb1] at h
  rw [Lib.toList_data, Lib.toList_data, strOfNums_data, strOfNums_data]
  exact h

theorem order_any (a b z : Int) (ha1 : a ≤ 9223372036854775807) (hb1 : b ≤ 9223372036854775807) (w : World) :
    Calls Try.prog 7 #[.int .i64 a, .int .i64 b, .int .i64 z] w fun e w' => e = .returned (.bool true) ∧ Below w.heap.size w w' := by
  by_cases hok : okSize z ∧ fitsP a z ∧ fitsP b z ∧ 0 ≤ a ∧ 0 ≤ b
  · obtain ⟨hz, hfa, hfb, ha0, hb0⟩ := hok
    obtain ⟨o1, o2⟩ := order_put a b z hz hfa hfb ha0 ha1 hb0 hb1
    have h1 := Lib.hid (fun w => put_ok a z hz hfa w)
    have h2 := Lib.hid (fun w => put_ok b z hz hfb w)
    have no : ¬ a < 0 ∧ ¬ b < 0 := by omega
    clear hfa hfb hz
    rcases (by omega : a < b ∨ a = b ∨ b < a) with h | h | h
    · generalize strOfNums (putL a z) = x at *
      generalize strOfNums (putL b z) = y at *
      have e1 : decide (a < b) = true := by simpa using h
      have e2 : decide (a = b) = false := by simp; omega
      rw [e1] at o1; rw [e2] at o2
      clear e1 e2
      have e3 := beqF (show a ≠ b by omega)
      go_enter Try.func7, Try.ntmps7
      go_wp2_with (first | (go_at_call 9; (with_reducible refine (h1.out _).mono ?_); rintro e w1 ⟨rfl, hb1⟩) | (go_at_call 9; (with_reducible refine (h2.out _).mono ?_); rintro e w1 ⟨rfl, hb1⟩) | (go_at_call 11; refine (awake_any _).mono ?_; rintro e w1 ⟨rfl, hb1⟩))
      go_returns
      exact ⟨ret_bool (by first | rfl | (simp; done) | (simp; omega)), below_then (by assumption) (below_then (by assumption) (by assumption))⟩
    · subst h
      generalize strOfNums (putL a z) = x at *
      have e1 : decide (a < a) = false := by simp
      have e2 : decide (a = a) = true := by simp
      rw [e1] at o1; rw [e2] at o2
      clear e1 e2
      go_enter Try.func7, Try.ntmps7
      go_wp2_with (first | (go_at_call 9; (with_reducible refine (h1.out _).mono ?_); rintro e w1 ⟨rfl, hb1⟩) | (go_at_call 9; (with_reducible refine (h2.out _).mono ?_); rintro e w1 ⟨rfl, hb1⟩) | (go_at_call 11; refine (awake_any _).mono ?_; rintro e w1 ⟨rfl, hb1⟩))
      go_returns
      exact ⟨ret_bool (by first | rfl | (simp; done) | (simp; omega)), below_then (by assumption) (below_then (by assumption) (by assumption))⟩
    · generalize strOfNums (putL a z) = x at *
      generalize strOfNums (putL b z) = y at *
      have e1 : decide (a < b) = false := by simp; omega
      have e2 : decide (a = b) = false := by simp; omega
      rw [e1] at o1; rw [e2] at o2
      clear e1 e2
      have e3 := beqF (show a ≠ b by omega)
      go_enter Try.func7, Try.ntmps7
      go_wp2_with (first | (go_at_call 9; (with_reducible refine (h1.out _).mono ?_); rintro e w1 ⟨rfl, hb1⟩) | (go_at_call 9; (with_reducible refine (h2.out _).mono ?_); rintro e w1 ⟨rfl, hb1⟩) | (go_at_call 11; refine (awake_any _).mono ?_; rintro e w1 ⟨rfl, hb1⟩))
      go_returns
      exact ⟨ret_bool (by first | rfl | (simp; done) | (simp; omega)), below_then (by assumption) (below_then (by assumption) (by assumption))⟩
  · have hEa : putE a z = 0 ∨ putE a z = 1 ∨ putE a z = 8 := by unfold putE; split <;> (try split) <;> simp
    have hEb : putE b z = 0 ∨ putE b z = 1 ∨ putE b z = 8 := by unfold putE; split <;> (try split) <;> simp
    have hc : putE a z ≠ 0 ∨ putE b z ≠ 0 ∨ a < 0 ∨ b < 0 := by
      by_cases hz : okSize z
      · by_cases hfa : fitsP a z
        · by_cases hfb : fitsP b z
          · have : ¬ (0 ≤ a ∧ 0 ≤ b) := fun h => hok ⟨hz, hfa, hfb, h.1, h.2⟩
            omega
          · right; left; simp [putE, hz, hfb]
        · left; simp [putE, hz, hfa]
      · left; simp [putE, hz]
    have h1 := Lib.hid (fun w => put_any a z w)
    have h2 := Lib.hid (fun w => put_any b z w)
    generalize putE a z = ea at *
    generalize putE b z = eb at *
    generalize putB a z = x at *
    generalize putB b z = y at *
    clear hok
    by_cases c1 : ea = 0
    · subst c1
      by_cases c2 : eb = 0
      · subst c2
        by_cases c3 : a < 0
        · clear hEa hEb hc
          go_enter Try.func7, Try.ntmps7
          go_wp2_with (first | (go_at_call 9; (with_reducible refine (h1.out _).mono ?_); rintro e w1 ⟨rfl, hb1⟩) | (go_at_call 9; (with_reducible refine (h2.out _).mono ?_); rintro e w1 ⟨rfl, hb1⟩) | (go_at_call 11; refine (awake_any _).mono ?_; rintro e w1 ⟨rfl, hb1⟩))
          go_returns
          exact ⟨ret_bool (by first | rfl | (simp; done) | (simp; omega)), below_then (by assumption) (below_then (by assumption) (by assumption))⟩
        · have c4 : b < 0 := by omega
          clear hEa hEb hc
          go_enter Try.func7, Try.ntmps7
          go_wp2_with (first | (go_at_call 9; (with_reducible refine (h1.out _).mono ?_); rintro e w1 ⟨rfl, hb1⟩) | (go_at_call 9; (with_reducible refine (h2.out _).mono ?_); rintro e w1 ⟨rfl, hb1⟩) | (go_at_call 11; refine (awake_any _).mono ?_; rintro e w1 ⟨rfl, hb1⟩))
          go_returns
          exact ⟨ret_bool (by first | rfl | (simp; done) | (simp; omega)), below_then (by assumption) (below_then (by assumption) (by assumption))⟩
      · have c3 : (eb != 0) = true := by simpa using c2
        clear hEa hEb hc
        go_enter Try.func7, Try.ntmps7
        go_wp2_with (first | (go_at_call 9; (with_reducible refine (h1.out _).mono ?_); rintro e w1 ⟨rfl, hb1⟩) | (go_at_call 9; (with_reducible refine (h2.out _).mono ?_); rintro e w1 ⟨rfl, hb1⟩) | (go_at_call 11; refine (awake_any _).mono ?_; rintro e w1 ⟨rfl, hb1⟩))
        go_returns
        exact ⟨ret_bool (by first | rfl | (simp; done) | (simp; omega)), below_then (by assumption) (below_then (by assumption) (by assumption))⟩
    · have c3 : (ea != 0) = true := by simpa using c1
      clear hEa hEb hc
      go_enter Try.func7, Try.ntmps7
      go_wp2_with (first | (go_at_call 9; (with_reducible refine (h1.out _).mono ?_); rintro e w1 ⟨rfl, hb1⟩) | (go_at_call 9; (with_reducible refine (h2.out _).mono ?_); rintro e w1 ⟨rfl, hb1⟩) | (go_at_call 11; refine (awake_any _).mono ?_; rintro e w1 ⟨rfl, hb1⟩))
      go_returns
      exact ⟨ret_bool (by first | rfl | (simp; done) | (simp; omega)), below_then (by assumption) (below_then (by assumption) (by assumption))⟩

theorem gs_put (s a c : ByteArray) (hs : s.size ≤ 65535) :
    gsE (a ++ (strOfNums (putL s.size 2) ++ s) ++ c) a.size = 0 ∧ gsB (a ++ (strOfNums (putL s.size 2) ++ s) ++ c) a.size = s ∧ gsN (a ++ (strOfNums (putL s.size 2) ++ s) ++ c) a.size = a.size + 2 + s.size := by
  have e : a ++ (strOfNums (putL s.size 2) ++ s) ++ c = a ++ strOfNums (putL s.size 2) ++ (s ++ c) := by
    rw [ByteArray.append_assoc, ByteArray.append_assoc, ByteArray.append_assoc]
  have hu := uns_put s.size 2 a (s ++ c) (by simp [okSize]) (by omega)
  rw [← e] at hu
  have h2 : unsOf s.size 2 = s.size := by simp [unsOf]; omega
  rw [h2] at hu
  have hsz : (a ++ (strOfNums (putL s.size 2) ++ s) ++ c).size = a.size + (2 + s.size) + c.size := by
    rw [ByteArray.size_append, ByteArray.size_append, ByteArray.size_append, put2_size]
  have hg := gs_cases (a ++ (strOfNums (putL s.size 2) ++ s) ++ c) a.size
  rw [hu.1, hu.2, hsz] at hg
  rcases hg with ⟨h, _⟩ | ⟨_, _, _, h, _⟩ | ⟨_, _, _, h1, h2, h3⟩
  · exact absurd rfl h
  · omega
  · refine ⟨h1, ?_, h3⟩
    rw [h2]
    have e1 : ((a.size : Int) + 2).toNat = a.size + 2 := by omega
    have e2 : ((a.size : Int) + 2 + s.size).toNat = a.size + 2 + s.size := by omega
    rw [e1, e2]
    apply ByteArray.ext
    apply Array.ext'
    simp only [ByteArray.data_extract, ByteArray.data_append, Array.toList_extract, Array.toList_append]
    have l1 : a.data.toList.length = a.size := by simp
    have l2 : (strOfNums (putL s.size 2)).data.toList.length = 2 := by simp [strOfNums_data, putL]
    have l3 : s.data.toList.length = s.size := by simp
    rw [Array.toList_append, Array.toList_append, Array.toList_append]
    rw [show a.data.toList ++ ((strOfNums (putL s.size 2)).data.toList ++ s.data.toList) ++ c.data.toList = (a.data.toList ++ (strOfNums (putL s.size 2)).data.toList) ++ (s.data.toList ++ c.data.toList) by simp only [List.append_assoc]]
    rw [List.extract_eq_take_drop, List.drop_left' (by rw [List.length_append, l1, l2]), List.take_left' (by rw [l3]; omega)]

theorem bt_cut (b : ByteArray) (k i : Nat) (hk : k ≤ b.size) (hi : i < k) : bt (b.extract 0 k) i = bt b i := by
  have hl : b.data.toList.length = b.size := by simp
  rw [bt_data, bt_data]
  have e : (b.extract 0 k).data.toList = b.data.toList.take k := by
    simp only [ByteArray.data_extract, Array.toList_extract, List.extract_eq_take_drop, List.drop_zero, Nat.sub_zero]
  rw [e, List.getD_eq_getElem?_getD, List.getD_eq_getElem?_getD, List.getElem?_take, if_pos hi]
theorem gs_cut (s : ByteArray) (k : Nat) (hs : s.size ≤ 65535) (hk : k < 2 + s.size) :
    gsE ((strOfNums (putL s.size 2) ++ s).extract 0 k) 0 = 3 := by
  have hbs : (strOfNums (putL s.size 2) ++ s).size = 2 + s.size := by rw [ByteArray.size_append, put2_size]
  have hsz : ((strOfNums (putL s.size 2) ++ s).extract 0 k).size = k := by rw [ByteArray.size_extract, hbs]; omega
  have hc := unsE_cases ((strOfNums (putL s.size 2) ++ s).extract 0 k) 0 2
  rw [hsz] at hc
  have hok : okSize 2 := by simp [okSize]
  unfold gsE
  rw [hsz]
  by_cases h2 : k < 2
  · have : unsE ((strOfNums (putL s.size 2) ++ s).extract 0 k) 0 2 = 3 := by
      rcases hc with ⟨h, _⟩ | ⟨_, h, _⟩ | ⟨_, _, _, _, h, _⟩ | ⟨_, _, h, _⟩
      · exact absurd hok h
      · omega
      · exact h
      · omega
    rw [this]; simp
  · have h3 : unsE ((strOfNums (putL s.size 2) ++ s).extract 0 k) 0 2 = 0 ∧ unsV ((strOfNums (putL s.size 2) ++ s).extract 0 k) 0 2 = rdU (fromB ((strOfNums (putL s.size 2) ++ s).extract 0 k) (0 : Int).toNat) (2 : Int).toNat := by
      rcases hc with ⟨h, _⟩ | ⟨_, h, _⟩ | ⟨_, _, _, h, _⟩ | ⟨_, _, _, h⟩
      · exact absurd hok h
      · omega
      · omega
      · exact h
    have hv : rdU (fromB ((strOfNums (putL s.size 2) ++ s).extract 0 k) (0 : Int).toNat) (2 : Int).toNat = s.size := by
      have h := rd_put (fromB ((strOfNums (putL s.size 2) ++ s).extract 0 k) 0) s.size 2 hok (by omega) (fun i hi => by
        unfold fromB
        rw [Nat.zero_add, bt_cut _ _ _ (by rw [hbs]; omega) (by omega), bt_left _ _ _ (by rw [put2_size]; exact hi), bt_nums _ _ (by simpa [putL] using hi) (putL_bd _ 2 i)]
        rfl)
      have h2 : unsOf s.size ((2 : Nat) : Int) = s.size := by simp [unsOf]; omega
      rw [h2] at h
      exact h
    rw [h3.1, h3.2, hv]
    simp; omega

theorem strround_any (s a c : ByteArray) (k : Int) (hs : s.size ≤ 140737488351232) (ha : a.size ≤ 140737488351232) (hc : c.size ≤ 140737488351232) (w : World) :
    Calls Try.prog 8 #[.string s, .string a, .string c, .int .i64 k] w fun e w' => e = .returned (.bool true) ∧ Below w.heap.size w w' := by
  by_cases h : s.size ≤ 65535
  · obtain ⟨g1, g2, g3⟩ := gs_put s a c h
    have hp := Lib.hid (fun w => puts_any s (by omega) w)
    have hpb : psB s = strOfNums (putL s.size 2) ++ s := by unfold psB; rw [if_pos h]
    have hpe : psE s = 0 := by unfold psE; rw [if_pos h]
    rw [hpb, hpe] at hp
    have hbs : (strOfNums (putL s.size 2) ++ s).size = 2 + s.size := by rw [ByteArray.size_append, put2_size]
    have hcut := Lib.hid (fun j => gs_cut s j h)
    rw [← hbs] at hcut
    have hN : gsN (a ++ (strOfNums (putL s.size 2) ++ s) ++ c) a.size = a.size + ((strOfNums (putL s.size 2) ++ s).size : Nat) := by rw [g3, hbs]; omega
    clear g3 hpb hpe
    generalize strOfNums (putL s.size 2) ++ s = b at *
    have hbl : b.size ≤ 65537 := by omega
    clear hbs h
    have hab : (a ++ b).size = a.size + b.size := ByteArray.size_append
    have habc : (a ++ b ++ c).size = a.size + b.size + c.size := by rw [ByteArray.size_append, hab]
    have hg := Lib.hid (fun w => gets_any (a ++ b ++ c) a.size (by rw [habc]; omega) w)
    rw [g1, g2, hN] at hg
    clear g1 g2 hN habc
    by_cases hk : k < 0
    · go_enter Try.func8, Try.ntmps8
      go_wp2_with (first | (go_at_call 16; (with_reducible refine (hp.out _).mono ?_); rintro e w1 ⟨rfl, hb1⟩) | (go_at_call 18; (with_reducible refine (hg.out _).mono ?_); rintro e w' ⟨rfl, rfl⟩) | (go_at_call 11; refine (awake_any _).mono ?_; rintro e w1 ⟨rfl, hb1⟩))
      go_returns
      exact ⟨rfl, below_then (by assumption) (by assumption)⟩
    · by_cases hk2 : (b.size : Int) ≤ k
      · go_enter Try.func8, Try.ntmps8
        go_wp2_with (first | (go_at_call 16; (with_reducible refine (hp.out _).mono ?_); rintro e w1 ⟨rfl, hb1⟩) | (go_at_call 18; (with_reducible refine (hg.out _).mono ?_); rintro e w' ⟨rfl, rfl⟩) | (go_at_call 11; refine (awake_any _).mono ?_; rintro e w1 ⟨rfl, hb1⟩))
        go_returns
        exact ⟨rfl, below_then (by assumption) (by assumption)⟩
      · obtain ⟨j, rfl⟩ : ∃ j : Nat, k = j := ⟨k.toNat, by omega⟩
        have hj : j < b.size := by omega
        have hx := hcut.out j hj
        have hjs : (b.extract 0 j).size ≤ 9223372036854775807 := by rw [ByteArray.size_extract]; omega
        have hg2 := Lib.hid (fun w => gets_any (b.extract 0 j) 0 hjs w)
        rw [hx] at hg2
        clear hx hjs
        go_enter Try.func8, Try.ntmps8
        go_wp2_with (first | (go_at_call 16; (with_reducible refine (hp.out _).mono ?_); rintro e w1 ⟨rfl, hb1⟩) | (go_at_call 18; (with_reducible refine (hg.out _).mono ?_); rintro e w' ⟨rfl, rfl⟩) | (go_at_call 18; (with_reducible refine (hg2.out _).mono ?_); rintro e w' ⟨rfl, rfl⟩) | (go_at_call 11; refine (awake_any _).mono ?_; rintro e w1 ⟨rfl, hb1⟩))
        go_returns
        exact ⟨rfl, below_then (by assumption) (by assumption)⟩
  · have hp := Lib.hid (fun w => puts_any s (by omega) w)
    have hpe : psE s = 8 := by unfold psE; rw [if_neg h]
    rw [hpe] at hp
    clear hpe
    generalize psB s = b at *
    go_enter Try.func8, Try.ntmps8
    go_wp2_with (first | (go_at_call 16; (with_reducible refine (hp.out _).mono ?_); rintro e w1 ⟨rfl, hb1⟩) | (go_at_call 11; refine (awake_any _).mono ?_; rintro e w1 ⟨rfl, hb1⟩))
    go_returns
    exact ⟨ret_bool (by simp; omega), below_then (by assumption) (by assumption)⟩

end Go.Proofs.Ytlgjcjcbleiioaa
