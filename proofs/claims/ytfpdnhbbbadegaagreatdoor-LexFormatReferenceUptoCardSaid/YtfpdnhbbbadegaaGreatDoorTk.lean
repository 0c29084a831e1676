/- Layer 53, the reference: digits, spelled. -/
import Derived.Test.YtfpdnhbbbadegaaGreatDoorTb
import Derived.Test.YtfpdnhbbbadegaaGreatDoorYq
import Derived.Lib.ItoaNum
import Derived.Lib.ItoaLen
namespace Go.Proofs.YtfpdnhbbbadegaaGreatDoor
open Go.ChangeShapes Go.WideShapes Go.ChangeAt Go.RowKit Go.PlainAid
set_option linter.unusedSimpArgs false
set_option linter.unusedVariables false

theorem dd_len (d : Nat) : ((⟨#[48, 49, 50, 51, 52, 53, 54, 55, 56, 57]⟩ : ByteArray).extract d (d + 1)).size ≤ 1 := by rw [ByteArray.size_extract]; omega
theorem dd_at : ∀ d : Nat, d < 10 → ((⟨#[48, 49, 50, 51, 52, 53, 54, 55, 56, 57]⟩ : ByteArray).extract d (d + 1)).data.toList = [UInt8.ofNat (48 + d)] := by decide +kernel
/-- what digits has written: the digits of m behind those of u -/
def DgI (m u : Nat) (t : ByteArray) : Prop := (t = ⟨#[]⟩ ∧ u = m) ∨ (0 < t.size ∧ (if u = 0 then t.data.toList else Lib.decDigits u ++ t.data.toList) = Lib.decDigits m)
theorem DgI.step {m u : Nat} {t x : ByteArray} (h : DgI m u t) (hu : t = ⟨#[]⟩ ∨ 0 < u) (hx : x.data.toList = [UInt8.ofNat (48 + u % 10)]) : DgI m (u / 10) (x ++ t) := by
  have hxs : x.size = 1 := by rw [← len_data, hx]; rfl
  have key : (if u / 10 = 0 then x.data.toList else Lib.decDigits (u / 10) ++ x.data.toList) = Lib.decDigits u := by
    rw [hx]
    by_cases h10 : u < 10
    · rw [if_pos (by omega), Lib.decDigits_one h10, Nat.mod_eq_of_lt h10]
    · rw [if_neg (by omega)]
      conv => rhs; rw [Lib.decDigits, dif_neg h10]
  refine Or.inr ⟨by rw [ByteArray.size_append]; omega, ?_⟩
  rw [ByteArray.data_append, Array.toList_append]
  rcases h with ⟨rfl, rfl⟩ | ⟨h0, h1⟩
  · show (if u / 10 = 0 then x.data.toList ++ [] else Lib.decDigits (u / 10) ++ (x.data.toList ++ [])) = _
    rw [List.append_nil]; exact key
  · have hu0 : 0 < u := by
      rcases hu with rfl | h
      · exact absurd h0 (by decide)
      · exact h
    rw [if_neg (by omega)] at h1
    rw [← h1, ← key]
    split
    · rfl
    · rw [List.append_assoc]
theorem DgI.size {m u : Nat} {t : ByteArray} (h : DgI m u t) (hm : m ≤ 9223372036854775807) : t.size ≤ 21 := by
  have hl := Lib.itoa_length_le (m : Int) (by omega) (by omega)
  rw [Lib.itoa_nonneg] at hl
  rcases h with ⟨rfl, _⟩ | ⟨_, h⟩
  · exact Nat.zero_le _
  · rw [← h] at hl
    rw [← len_data]
    split at hl
    · exact hl
    · rw [List.length_append] at hl; omega
theorem DgI.last {m : Nat} {t : ByteArray} (h : DgI m 0 t) (ht : 0 < t.size) : t = bsB (Lib.decDigits m) := by
  rcases h with ⟨rfl, _⟩ | ⟨_, h⟩
  · exact absurd ht (by decide)
  · rw [if_pos rfl] at h; exact ba_ext (by rw [h]; rfl)
set_option maxRecDepth 100000 in
set_option maxHeartbeats 4000000 in
theorem rdigits_any (m : Nat) (hm : m ≤ 9223372036854775807) (w : World) : Calls Tryz.prog 25 #[.int .i64 (m : Int)] w fun e w' => e = .returned (.string (bsB (Lib.decDigits m))) ∧ w' = w := by
  have hz0 : (⟨#[48, 49, 50, 51, 52, 53, 54, 55, 56, 57]⟩ : ByteArray).size = 10 := rfl
  go_enter Tryz.func25, Tryz.ntmps25
  go_wp2
  go_loopw [0, 3] (fun x v wr => ∃ (u : Nat) (t : ByteArray), x = .int .i64 u ∧ v = .string t ∧ u ≤ m ∧ DgI m u t ∧ wr = w) (fun x v _ => (intOf x).toNat + (match v with | .string t => if t.size = 0 then 1 else 0 | _ => 0))
  case atStart => exact ⟨m, ⟨#[]⟩, rfl, rfl, Nat.le_refl _, Or.inl ⟨rfl, rfl⟩, rfl⟩
  case round =>
    obtain ⟨u, t, rfl, rfl, hum, hI, rfl⟩ := hrel
    have hux : u % 10 < 10 := Nat.mod_lt _ (by decide)
    have hx := dd_at (u % 10) hux
    have hsz := hI.size hm
    have hxs : ((⟨#[48, 49, 50, 51, 52, 53, 54, 55, 56, 57]⟩ : ByteArray).extract (u % 10) (u % 10 + 1)).size = 1 := by rw [← len_data, hx]; rfl
    by_cases h0 : 0 < t.size
    · have he := notEmpty h0
      by_cases hu : 0 < u
      · go_wp2
        refine ⟨⟨u / 10, _, by first | rfl | go_num, rfl, by omega, hI.step (Or.inr hu) hx, trivial⟩, ?_⟩
        simp only [intOf, ByteArray.size_append, hxs]
        rw [if_neg (by omega), if_neg (by omega)]
        omega
      · obtain rfl : u = 0 := by omega
        have hlast := hI.last h0
        have HLS := Lib.hid hlast
        clear hlast
        go_wp2
        go_ret
        exact ⟨by rw [← HLS.out]; rfl, rfl⟩
    · obtain rfl : t = ⟨#[]⟩ := ba_ext (by have := empty_data (show t.size = 0 by omega); rw [Lib.toList_data] at this; rw [this])
      go_wp2
      refine ⟨⟨u / 10, _, by first | rfl | go_num, rfl, by omega, hI.step (Or.inl rfl) hx, trivial⟩, ?_⟩
      simp only [intOf, ByteArray.size_append, hxs]
      rw [if_neg (by omega), if_pos (show (⟨#[]⟩ : ByteArray).size = 0 from rfl)]
      omega

set_option maxRecDepth 100000 in
set_option maxHeartbeats 4000000 in
theorem rspelled_any (s : ByteArray) (hs : s.size ≤ 1048576) (w : World) : Calls Tryz.prog 27 #[.string s] w fun e w' => e = .returned (.string (bsB (rpL s.data.toList))) ∧ w' = w := by
  have hb := get_bt s
  have hlen := len_data s
  obtain ⟨l, hl⟩ : ∃ l, s.data.toList = l := ⟨_, rfl⟩
  have HL := Lib.hid hl
  rw [hl] at hlen ⊢
  clear hl
  go_enter Tryz.func27, Tryz.ntmps27
  go_wp2
  go_loopw [3, 4] (fun v i wr => ∃ (k : Nat) (t : ByteArray), k ≤ s.size ∧ i = .int .i64 k ∧ v = .string t ∧ t.data.toList = rpL (l.take k) ∧ wr = w) (fun _ i _ => s.size - (intOf i).toNat)
  case atStart => exact ⟨0, ⟨#[]⟩, Nat.zero_le _, rfl, rfl, rfl, rfl⟩
  case round =>
    obtain ⟨k, t, hk, rfl, rfl, ht, rfl⟩ := hrel
    have HT := Lib.hid ht
    have hts : t.size ≤ 2 * k := by
      have := rp_le (l.take k)
      rw [← ht, len_data, List.length_take] at this
      omega
    clear ht
    by_cases hlt : k < s.size
    · obtain ⟨c, r, hd, hc, hr⟩ := drop_bt hlt
      rw [HL.out] at hd hr
      have hb0 := bt_nonneg s k
      have hb1 := bt_le s k
      have HTT := Lib.hid (show rpL (l.take (k + 1)) = rpL (l.take k) ++ (if c.toNat = 47 then [58, 58] else [c]) by
        have h : l[k]? = some c := by rw [← List.head?_drop, hd]; rfl
        unfold rpL
        rw [List.take_add_one, h, List.flatMap_append]
        simp)
      have HX := Lib.hid (show (s.extract k (k + 1)).data.toList = [c] by rw [data_extract, HL.out, hd, Nat.add_sub_cancel_left]; rfl)
      have HCC := Lib.hid hc
      have hxs : (s.extract k (k + 1)).size = 1 := by rw [← len_data, HX.out]; rfl
      clear hd hc hr
      by_cases h47 : bt s k = 47
      · have e47 : (bt s k == 47) = true := by simpa using h47
        have HY := Lib.hid (show c.toNat = 47 by have := HCC.out; omega)
        clear h47
        go_wp2
        refine ⟨⟨k + 1, _, by omega, by first | rfl | go_num, rfl, ?_, trivial⟩, ?_⟩
        · rw [HTT.out, if_pos HY.out, ByteArray.data_append, Array.toList_append, HT.out]
        · simp [intOf]; omega
      · have e47 : (bt s k == 47) = false := by simpa using h47
        have HY := Lib.hid (show ¬ c.toNat = 47 by have := HCC.out; omega)
        clear h47
        go_wp2
        refine ⟨⟨k + 1, _, by omega, by first | rfl | go_num, rfl, ?_, trivial⟩, ?_⟩
        · rw [HTT.out, if_neg HY.out, ByteArray.data_append, Array.toList_append, HT.out, HX.out]
        · simp [intOf]; omega
    · obtain rfl : k = s.size := by omega
      go_wp2
      go_ret
      refine ⟨?_, rfl⟩
      rw [bsB_of (s := t) rfl, HT.out, List.take_of_length_le (by omega)]
      rfl

end Go.Proofs.YtfpdnhbbbadegaaGreatDoor
