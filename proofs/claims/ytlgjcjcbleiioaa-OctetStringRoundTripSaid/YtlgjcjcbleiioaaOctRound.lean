/- The statements of layer 2 on round trips and on order. -/
import Derived.Test.YtlgjcjcbleiioaaOctStr
namespace Go.Proofs.Ytlgjcjcbleiioaa
open Go.ChangeShapes Go.WideShapes Go.ChangeAt Go.RowKit Go.PlainAid
set_option linter.unusedSimpArgs false
set_option linter.unusedVariables false

theorem bt_data (s : ByteArray) (k : Nat) : bt s k = ((s.data.toList.getD k 0).toNat : Int) := by
  unfold bt
  by_cases h : k < s.size
  · have h' : k < s.data.toList.length := by simpa using h
    rw [dif_pos h, List.getD_eq_getElem?_getD, List.getElem?_eq_getElem h']
    rfl
  · have h' : s.data.toList.length ≤ k := by simpa using Nat.le_of_not_lt h
    rw [dif_neg h, List.getD_eq_getElem?_getD, List.getElem?_eq_none h']
    rfl
theorem data_append (a b : ByteArray) : (a ++ b).data.toList = a.data.toList ++ b.data.toList := by simp
theorem bt_left (a b : ByteArray) (i : Nat) (h : i < a.size) : bt (a ++ b) i = bt a i := by
  have h' : i < a.data.toList.length := by simpa using h
  rw [bt_data, bt_data, data_append, List.getD_eq_getElem?_getD, List.getD_eq_getElem?_getD, List.getElem?_append_left h']
theorem bt_right (a b : ByteArray) (i : Nat) : bt (a ++ b) (a.size + i) = bt b i := by
  have h' : a.data.toList.length = a.size := by simp
  rw [bt_data, bt_data, data_append, ← h', List.getD_eq_getElem?_getD, List.getD_eq_getElem?_getD, List.getElem?_append_right (by omega), Nat.add_sub_cancel_left]
theorem bt_nums (xs : List Int) (i : Nat) (h : i < xs.length) (h0 : 0 ≤ xs.getD i 0 ∧ xs.getD i 0 ≤ 255) : bt (strOfNums xs) i = xs.getD i 0 := by
  rw [bt_data, strOfNums_data]
  rw [List.getD_eq_getElem?_getD, List.getElem?_map, List.getElem?_eq_getElem h]
  rw [List.getD_eq_getElem?_getD, List.getElem?_eq_getElem h] at h0 ⊢
  simp only [Option.map_some, Option.getD_some] at h0 ⊢
  rw [UInt8.toNat_ofNat']
  omega
theorem mid_bytes (a b c : ByteArray) (i : Nat) (h : i < b.size) : fromB (a ++ b ++ c) a.size i = bt b i := by
  unfold fromB
  rw [bt_left _ _ _ (by rw [ByteArray.size_append]; omega), bt_right]

theorem putL_len (n z : Int) (hz : okSize z) : (putL n z).length = z.toNat := by
  rcases hz with rfl | rfl | rfl | rfl <;> rfl
theorem putL_bd (n z : Int) (i : Nat) : 0 ≤ (putL n z).getD i 0 ∧ (putL n z).getD i 0 ≤ 255 := by
  have hd : ∀ l : List Int, (∀ x ∈ l, 0 ≤ x ∧ x ≤ 255) → 0 ≤ l.getD i 0 ∧ l.getD i 0 ≤ 255 := by
    intro l hl
    rw [List.getD_eq_getElem?_getD]
    by_cases h : i < l.length
    · rw [List.getElem?_eq_getElem h]; exact hl _ (List.getElem_mem h)
    · rw [List.getElem?_eq_none (by omega)]; simp
  apply hd
  intro x hx
  unfold putL at hx
  split at hx
  · simp at hx; omega
  · split at hx
    · simp at hx; omega
    · split at hx
      · simp at hx; omega
      · simp at hx; omega

/-- the number that the bytes of n say -/
def unsOf (n z : Int) : Int := if z = 1 then n % 256 else if z = 2 then n % 65536 else if z = 4 then n % 4294967296 else n

theorem rd_put (f : Nat → Int) (n : Int) (z : Nat) (hz : okSize z) (hn : -9223372036854775808 ≤ n ∧ n ≤ 9223372036854775807) (hf : ∀ i, i < z → f i = (putL n z).getD i 0) : rdU f z = unsOf n z := by
  have h4 : z = 1 ∨ z = 2 ∨ z = 4 ∨ z = 8 := by unfold okSize at hz; omega
  rcases h4 with rfl | rfl | rfl | rfl
  · have f0 := hf 0 (by omega)
    simp [putL] at f0
    simp only [rdU, f0, unsOf]
    simp; unfold wrap64; omega
  · have f0 := hf 0 (by omega)
    have f1 := hf 1 (by omega)
    simp [putL] at f0 f1
    simp only [rdU, f0, f1, unsOf]
    simp; unfold wrap64; omega
  · have f0 := hf 0 (by omega)
    have f1 := hf 1 (by omega)
    have f2 := hf 2 (by omega)
    have f3 := hf 3 (by omega)
    simp [putL] at f0 f1 f2 f3
    have r1 : rdU f 1 = n / 16777216 % 256 := by simp only [rdU, f0]; unfold wrap64; omega
    have r2 : rdU f 2 = n / 65536 % 65536 := by rw [rdU, r1, f1]; unfold wrap64; omega
    have r3 : rdU f 3 = n / 256 % 16777216 := by rw [rdU, r2, f2]; unfold wrap64; omega
    rw [rdU, r3, f3]
    simp [unsOf]; unfold wrap64; omega
  · have f0 := hf 0 (by omega)
    have f1 := hf 1 (by omega)
    have f2 := hf 2 (by omega)
    have f3 := hf 3 (by omega)
    have f4 := hf 4 (by omega)
    have f5 := hf 5 (by omega)
    have f6 := hf 6 (by omega)
    have f7 := hf 7 (by omega)
    simp [putL] at f0 f1 f2 f3 f4 f5 f6 f7
    have r1 : rdU f 1 = n / 72057594037927936 % 256 := by simp only [rdU, f0]; unfold wrap64; omega
    have r2 : rdU f 2 = n / 281474976710656 % 65536 := by rw [rdU, r1, f1]; unfold wrap64; omega
    have r3 : rdU f 3 = n / 1099511627776 % 16777216 := by rw [rdU, r2, f2]; unfold wrap64; omega
    have r4 : rdU f 4 = n / 4294967296 % 4294967296 := by rw [rdU, r3, f3]; unfold wrap64; omega
    have r5 : rdU f 5 = n / 16777216 % 1099511627776 := by rw [rdU, r4, f4]; unfold wrap64; omega
    have r6 : rdU f 6 = n / 65536 % 281474976710656 := by rw [rdU, r5, f5]; unfold wrap64; omega
    have r7 : rdU f 7 = n / 256 % 72057594037927936 := by rw [rdU, r6, f6]; unfold wrap64; omega
    rw [rdU, r7, f7]
    simp [unsOf]; unfold wrap64; omega

theorem uns_put (n z : Int) (a c : ByteArray) (hz : okSize z) (hn : -9223372036854775808 ≤ n ∧ n ≤ 9223372036854775807) :
    unsE (a ++ strOfNums (putL n z) ++ c) a.size z = 0 ∧ unsV (a ++ strOfNums (putL n z) ++ c) a.size z = unsOf n z := by
  have hlen : (strOfNums (putL n z)).size = z.toNat := by rw [strOfNums_size, putL_len n z hz]
  have hz1 : 1 ≤ z ∧ z ≤ 8 := by unfold okSize at hz; omega
  have hsz : (a ++ strOfNums (putL n z) ++ c).size = a.size + z.toNat + c.size := by rw [ByteArray.size_append, ByteArray.size_append, hlen]
  have hc := unsE_cases (a ++ strOfNums (putL n z) ++ c) a.size z
  rw [hsz] at hc
  have h0 : unsE (a ++ strOfNums (putL n z) ++ c) a.size z = 0 ∧ unsV (a ++ strOfNums (putL n z) ++ c) a.size z = rdU (fromB (a ++ strOfNums (putL n z) ++ c) (a.size : Int).toNat) z.toNat := by
    rcases hc with ⟨h, _⟩ | ⟨_, h, _⟩ | ⟨_, _, _, h, _⟩ | ⟨_, _, _, h⟩
    · exact absurd hz h
    · omega
    · omega
    · exact h
  refine ⟨h0.1, ?_⟩
  rw [h0.2, Int.toNat_natCast]
  obtain ⟨y, rfl⟩ : ∃ y : Nat, z = y := ⟨z.toNat, by omega⟩
  rw [Int.toNat_natCast] at hlen ⊢
  refine rd_put _ n y hz hn fun i hi => ?_
  rw [mid_bytes _ _ _ _ (by rw [hlen]; exact hi), bt_nums _ _ (by rw [putL_len n y hz]; exact hi) (putL_bd n y i)]

/-- the facts of a round trip of one number -/
theorem round_facts (n z : Int) (hz : okSize z) (hf : fitsP n z) (hn : -9223372036854775808 ≤ n ∧ n ≤ 9223372036854775807) :
    fitsP (unsOf n z) z ∧ putL (unsOf n z) z = putL n z ∧ (z < 8 → 0 ≤ unsOf n z) ∧ (n < 0 → sgn z (unsOf n z) = n) ∧ (0 ≤ n → unsOf n z = n) ∧ (n < 0 → z < 8 → 127 < unsOf n z) := by
  unfold fitsP at *
  rcases hz with rfl | rfl | rfl | rfl
  · simp [unsOf, putL, sgn] at *; omega
  · simp [unsOf, putL, sgn] at *; omega
  · simp [unsOf, putL, sgn] at *; omega
  · simp [unsOf, putL, sgn] at *

theorem round_bad (n z : Int) (a c : ByteArray) (h : ¬ (okSize z ∧ fitsP n z)) (w : World) :
    Calls Try.prog 6 #[.int .i64 n, .int .i64 z, .string a, .string c] w fun e w' => e = .returned (.bool true) ∧ Below w.heap.size w w' := by
  have hB : putB n z = ⟨#[]⟩ := by unfold putB; rw [if_neg h]; rfl
  have hE : putE n z = 1 ∨ putE n z = 8 := by
    unfold putE
    by_cases hz : okSize z
    · have : ¬ fitsP n z := fun hf => h ⟨hz, hf⟩
      simp [hz, this]
    · simp [hz]
  have hp := put_any n z
  rw [hB] at hp
  rcases hE with hE | hE
  all_goals
    rw [hE] at hp
    have hp' := Lib.hid hp
    clear hp hE hB
    go_enter Try.func6, Try.ntmps6
    go_wp2_with (first | (go_at_call 9; refine (hp'.out _).mono ?_; rintro e w1 ⟨rfl, hb1⟩) | (go_at_call 11; refine (awake_any _).mono ?_; rintro e w1 ⟨rfl, hb1⟩))
    go_returns
    exact ⟨rfl, below_then (by assumption) hb1⟩

set_option maxHeartbeats 1000000 in
theorem round_ok (n z : Int) (a c : ByteArray) (hz : okSize z) (hf : fitsP n z) (hn : -9223372036854775808 ≤ n ∧ n ≤ 9223372036854775807)
    (ha : a.size ≤ 140737488351232) (hcz : c.size ≤ 140737488351232) (w : World) :
    Calls Try.prog 6 #[.int .i64 n, .int .i64 z, .string a, .string c] w fun e w' => e = .returned (.bool true) ∧ Below w.heap.size w w' := by
  obtain ⟨f1, f2, f3, f4, f5, f6⟩ := round_facts n z hz hf hn
  have hu := uns_put n z a c hz hn
  have hp1 := Lib.hid (fun w => put_ok n z hz hf w)
  have hp2' := put_ok (unsOf n z) z hz f1
  rw [f2] at hp2'
  have hp2 := Lib.hid hp2'
  clear hp2'
  have hlen : (strOfNums (putL n z)).size = z.toNat := by rw [strOfNums_size, putL_len n z hz]
  have hz1 : 1 ≤ z ∧ z ≤ 8 := by unfold okSize at hz; omega
  have hlz : ((strOfNums (putL n z)).size : Int) = z := by omega
  have hl9 : (strOfNums (putL n z)).size ≤ 8 := by omega
  obtain ⟨b, hb⟩ : ∃ b, strOfNums (putL n z) = b := ⟨_, rfl⟩
  rw [hb] at hu hlen hlz hl9 hp1 hp2
  have hsz : (a ++ b ++ c).size = a.size + b.size + c.size := by rw [ByteArray.size_append, ByteArray.size_append]
  have hsz1 : (a ++ b).size = a.size + b.size := by rw [ByteArray.size_append]
  have hus := Lib.hid (fun w => uns_any (a ++ b ++ c) a.size z (by omega) w)
  have hss := Lib.hid (fun w => sig_any (a ++ b ++ c) a.size z (by omega) w)
  rw [sigV, hu.1, hu.2] at hss
  rw [hu.1, hu.2] at hus
  obtain ⟨u, hu'⟩ : ∃ u, unsOf n z = u := ⟨_, rfl⟩
  obtain ⟨g, hg'⟩ : ∃ g, sgn z u = g := ⟨_, rfl⟩
  rw [hu'] at f3 f4 f5 f6 hp2 hus hss
  rw [hg'] at f4 hss
  clear hu hu' hg' f1 f2 hb hz hf hlen
  have hle : (((b.size : Nat) : Int) != z) = false := by simpa using hlz
  clear hlz hsz
  by_cases hneg : n < 0
  · have e1 := f4 hneg
    by_cases h8 : z < 8
    · have e2 := f6 hneg h8
      have e3 := f3 h8
      clear f3 f4 f5 f6
      go_enter Try.func6, Try.ntmps6
      go_wp2_with (first | (go_at_call 9; (with_reducible refine (hp1.out _).mono ?_); rintro e wA ⟨rfl, hbA⟩) | (go_at_call 9; (with_reducible refine (hp2.out _).mono ?_); rintro e wB ⟨rfl, hbB⟩) | (go_at_call 12; refine (hus.out _).mono ?_; rintro e w' ⟨rfl, rfl⟩) | (go_at_call 14; refine (hss.out _).mono ?_; rintro e w' ⟨rfl, rfl⟩) | (go_at_call 11; refine (awake_any _).mono ?_; rintro e w1 ⟨rfl, hb1⟩))
      go_returns
      exact ⟨rfl, below_then hbA (below_then hbB hb1)⟩
    · obtain rfl : z = 8 := by omega
      clear f3 f4 f5 f6
      go_enter Try.func6, Try.ntmps6
      go_wp2_with (first | (go_at_call 9; (with_reducible refine (hp1.out _).mono ?_); rintro e wA ⟨rfl, hbA⟩) | (go_at_call 9; (with_reducible refine (hp2.out _).mono ?_); rintro e wB ⟨rfl, hbB⟩) | (go_at_call 12; refine (hus.out _).mono ?_; rintro e w' ⟨rfl, rfl⟩) | (go_at_call 14; refine (hss.out _).mono ?_; rintro e w' ⟨rfl, rfl⟩) | (go_at_call 11; refine (awake_any _).mono ?_; rintro e w1 ⟨rfl, hb1⟩))
      go_returns
      exact ⟨rfl, below_then hbA (below_then hbB hb1)⟩
  · have e1 := f5 (by omega)
    subst e1
    clear f3 f4 f5 f6
    by_cases h8 : z < 8
    · go_enter Try.func6, Try.ntmps6
      go_wp2_with (first | (go_at_call 9; (with_reducible refine (hp1.out _).mono ?_); rintro e wA ⟨rfl, hbA⟩) | (go_at_call 9; (with_reducible refine (hp2.out _).mono ?_); rintro e wB ⟨rfl, hbB⟩) | (go_at_call 12; refine (hus.out _).mono ?_; rintro e w' ⟨rfl, rfl⟩) | (go_at_call 14; refine (hss.out _).mono ?_; rintro e w' ⟨rfl, rfl⟩) | (go_at_call 11; refine (awake_any _).mono ?_; rintro e w1 ⟨rfl, hb1⟩))
      go_returns
      exact ⟨rfl, below_then (by assumption) (below_then (by assumption) hb1)⟩
    · obtain rfl : z = 8 := by omega
      go_enter Try.func6, Try.ntmps6
      go_wp2_with (first | (go_at_call 9; (with_reducible refine (hp1.out _).mono ?_); rintro e wA ⟨rfl, hbA⟩) | (go_at_call 9; (with_reducible refine (hp2.out _).mono ?_); rintro e wB ⟨rfl, hbB⟩) | (go_at_call 12; refine (hus.out _).mono ?_; rintro e w' ⟨rfl, rfl⟩) | (go_at_call 14; refine (hss.out _).mono ?_; rintro e w' ⟨rfl, rfl⟩) | (go_at_call 11; refine (awake_any _).mono ?_; rintro e w1 ⟨rfl, hb1⟩))
      go_returns
      exact ⟨rfl, below_then (by assumption) (below_then (by assumption) hb1)⟩

theorem round_any (n z : Int) (a c : ByteArray) (hn : -9223372036854775808 ≤ n ∧ n ≤ 9223372036854775807)
    (ha : a.size ≤ 140737488351232) (hcz : c.size ≤ 140737488351232) (w : World) :
    Calls Try.prog 6 #[.int .i64 n, .int .i64 z, .string a, .string c] w fun e w' => e = .returned (.bool true) ∧ Below w.heap.size w w' := by
  by_cases h : okSize z ∧ fitsP n z
  · exact round_ok n z a c h.1 h.2 hn ha hcz w
  · exact round_bad n z a c h w

end Go.Proofs.Ytlgjcjcbleiioaa
