/- The statements of layer 2 on round trips and on order. -/
import Derived.Test.YtpghkdmljanncaaOctStr
namespace Go.Proofs.Ytpghkdmljanncaa
open Go.ChangeShapes Go.WideShapes Go.ChangeAt Go.RowKit Go.PlainAid
set_option linter.unusedSimpArgs false
set_option linter.unusedVariables false

theorem bt_dataO (s : ByteArray) (k : Nat) : bt s k = ((s.data.toList.getD k 0).toNat : Int) := by
  unfold bt
  by_cases h : k < s.size
  · have h' : k < s.data.toList.length := by simpa using h
    rw [dif_pos h, List.getD_eq_getElem?_getD, List.getElem?_eq_getElem h']
    rfl
  · have h' : s.data.toList.length ≤ k := by simpa using Nat.le_of_not_lt h
    rw [dif_neg h, List.getD_eq_getElem?_getD, List.getElem?_eq_none h']
    rfl
theorem data_append (a b : ByteArray) : (a ++ b).data.toList = a.data.toList ++ b.data.toList := by simp
theorem bt_left (a b : ByteArray) (i : Nat) (h : i < a.size) : bt (a ++ b) i = bt a i := by
  have h' : i < a.data.toList.length := by simpa using h
  rw [bt_dataO, bt_dataO, data_append, List.getD_eq_getElem?_getD, List.getD_eq_getElem?_getD, List.getElem?_append_left h']
theorem bt_right (a b : ByteArray) (i : Nat) : bt (a ++ b) (a.size + i) = bt b i := by
  have h' : a.data.toList.length = a.size := by simp
  rw [bt_dataO, bt_dataO, data_append, ← h', List.getD_eq_getElem?_getD, List.getD_eq_getElem?_getD, List.getElem?_append_right (by omega), Nat.add_sub_cancel_left]
theorem bt_nums (xs : List Int) (i : Nat) (h : i < xs.length) (h0 : 0 ≤ xs.getD i 0 ∧ xs.getD i 0 ≤ 255) : bt (strOfNums xs) i = xs.getD i 0 := by
  rw [bt_dataO, strOfNums_data]
  rw [List.getD_eq_getElem?_getD, List.getElem?_map, List.getElem?_eq_getElem h]
  rw [List.getD_eq_getElem?_getD, List.getElem?_eq_getElem h] at h0 ⊢
  simp only [Option.map_some, Option.getD_some] at h0 ⊢
  rw [UInt8.toNat_ofNat']
  omega
theorem mid_bytes (a b c : ByteArray) (i : Nat) (h : i < b.size) : fromB (a ++ b ++ c) a.size i = bt b i := by
  unfold fromB
  rw [bt_left _ _ _ (by rw [ByteArray.size_append]; omega), bt_right]

theorem putL_len (n z : Int) (hz : okSize z) : (putL n z).length = z.toNat := by
  rcases hz with rfl | rfl | rfl | rfl <;> rfl
theorem putL_bd (n z : Int) (i : Nat) : 0 ≤ (putL n z).getD i 0 ∧ (putL n z).getD i 0 ≤ 255 := by
  have hd : ∀ l : List Int, (∀ x ∈ l, 0 ≤ x ∧ x ≤ 255) → 0 ≤ l.getD i 0 ∧ l.getD i 0 ≤ 255 := by
    intro l hl
    rw [List.getD_eq_getElem?_getD]
    by_cases h : i < l.length
    · rw [List.getElem?_eq_getElem h]; exact hl _ (List.getElem_mem h)
    · rw [List.getElem?_eq_none (by omega)]; simp
  apply hd
  intro x hx
  unfold putL at hx
  split at hx
  · simp at hx; omega
  · split at hx
    · simp at hx; omega
    · split at hx
      · simp at hx; omega
      · simp at hx; omega

/-- the number that the bytes of n say -/
def unsOf (n z : Int) : Int := if z = 1 then n % 256 else if z = 2 then n % 65536 else if z = 4 then n % 4294967296 else n

theorem rd_put (f : Nat → Int) (n : Int) (z : Nat) (hz : okSize z) (hn : -9223372036854775808 ≤ n ∧ n ≤ 9223372036854775807) (hf : ∀ i, i < z → f i = (putL n z).getD i 0) : rdU f z = unsOf n z := by
  have h4 : z = 1 ∨ z = 2 ∨ z = 4 ∨ z = 8 := by unfold okSize at hz; omega
  rcases h4 with rfl | rfl | rfl | rfl
  · have f0 := hf 0 (by omega)
    simp [putL] at f0
    simp only [rdU, f0, unsOf]
    simp; unfold wrap64; omega
  · have f0 := hf 0 (by omega)
    have f1 := hf 1 (by omega)
    simp [putL] at f0 f1
    simp only [rdU, f0, f1, unsOf]
    simp; unfold wrap64; omega
  · have f0 := hf 0 (by omega)
    have f1 := hf 1 (by omega)
    have f2 := hf 2 (by omega)
    have f3 := hf 3 (by omega)
    simp [putL] at f0 f1 f2 f3
    have r1 : rdU f 1 = n / 16777216 % 256 := by simp only [rdU, f0]; unfold wrap64; omega
    have r2 : rdU f 2 = n / 65536 % 65536 := by rw [rdU, r1, f1]; unfold wrap64; omega
    have r3 : rdU f 3 = n / 256 % 16777216 := by rw [rdU, r2, f2]; unfold wrap64; omega
    rw [rdU, r3, f3]
    simp [unsOf]; unfold wrap64; omega
  · have f0 := hf 0 (by omega)
    have f1 := hf 1 (by omega)
    have f2 := hf 2 (by omega)
    have f3 := hf 3 (by omega)
    have f4 := hf 4 (by omega)
    have f5 := hf 5 (by omega)
    have f6 := hf 6 (by omega)
    have f7 := hf 7 (by omega)
    simp [putL] at f0 f1 f2 f3 f4 f5 f6 f7
    have r1 : rdU f 1 = n / 72057594037927936 % 256 := by simp only [rdU, f0]; unfold wrap64; omega
    have r2 : rdU f 2 = n / 281474976710656 % 65536 := by rw [rdU, r1, f1]; unfold wrap64; omega
    have r3 : rdU f 3 = n / 1099511627776 % 16777216 := by rw [rdU, r2, f2]; unfold wrap64; omega
    have r4 : rdU f 4 = n / 4294967296 % 4294967296 := by rw [rdU, r3, f3]; unfold wrap64; omega
    have r5 : rdU f 5 = n / 16777216 % 1099511627776 := by rw [rdU, r4, f4]; unfold wrap64; omega
    have r6 : rdU f 6 = n / 65536 % 281474976710656 := by rw [rdU, r5, f5]; unfold wrap64; omega
    have r7 : rdU f 7 = n / 256 % 72057594037927936 := by rw [rdU, r6, f6]; unfold wrap64; omega
    rw [rdU, r7, f7]
    simp [unsOf]; unfold wrap64; omega

theorem uns_put (n z : Int) (a c : ByteArray) (hz : okSize z) (hn : -9223372036854775808 ≤ n ∧ n ≤ 9223372036854775807) :
    unsE (a ++ strOfNums (putL n z) ++ c) a.size z = 0 ∧ unsV (a ++ strOfNums (putL n z) ++ c) a.size z = unsOf n z := by
  have hlen : (strOfNums (putL n z)).size = z.toNat := by rw [strOfNums_size, putL_len n z hz]
  have hz1 : 1 ≤ z ∧ z ≤ 8 := by unfold okSize at hz; omega
  have hsz : (a ++ strOfNums (putL n z) ++ c).size = a.size + z.toNat + c.size := by rw [ByteArray.size_append, ByteArray.size_append, hlen]
  have hc := unsE_cases (a ++ strOfNums (putL n z) ++ c) a.size z
  rw [hsz] at hc
  have h0 : unsE (a ++ strOfNums (putL n z) ++ c) a.size z = 0 ∧ unsV (a ++ strOfNums (putL n z) ++ c) a.size z = rdU (fromB (a ++ strOfNums (putL n z) ++ c) (a.size : Int).toNat) z.toNat := by
    rcases hc with ⟨h, _⟩ | ⟨_, h, _⟩ | ⟨_, _, _, h, _⟩ | ⟨_, _, _, h⟩
    · exact absurd hz h
    · omega
    · omega
    · exact h
  refine ⟨h0.1, ?_⟩
  rw [h0.2, Int.toNat_natCast]
  obtain ⟨y, rfl⟩ : ∃ y : Nat, z = y := ⟨z.toNat, by omega⟩
  rw [Int.toNat_natCast] at hlen ⊢
  refine rd_put _ n y hz hn fun i hi => ?_
  rw [mid_bytes _ _ _ _ (by rw [hlen]; exact hi), bt_nums _ _ (by rw [putL_len n y hz]; exact hi) (putL_bd n y i)]

/-- the facts of a round trip of one number -/
theorem round_facts (n z : Int) (hz : okSize z) (hf : fitsP n z) (hn : -9223372036854775808 ≤ n ∧ n ≤ 9223372036854775807) :
    fitsP (unsOf n z) z ∧ putL (unsOf n z) z = putL n z ∧ (z < 8 → 0 ≤ unsOf n z) ∧ (n < 0 → sgn z (unsOf n z) = n) ∧ (0 ≤ n → unsOf n z = n) ∧ (n < 0 → z < 8 → 127 < unsOf n z) := by
  unfold fitsP at *
  rcases hz with rfl | rfl | rfl | rfl
  · simp [unsOf, putL, sgn] at *; omega
  · simp [unsOf, putL, sgn] at *; omega
  · simp [unsOf, putL, sgn] at *; omega
  · simp [unsOf, putL, sgn] at *

end Go.Proofs.Ytpghkdmljanncaa
