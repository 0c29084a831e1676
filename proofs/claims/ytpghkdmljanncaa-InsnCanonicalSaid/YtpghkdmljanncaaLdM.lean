import Derived.Test.YtpghkdmljanncaaOctRound
import Derived.Test.YtpghkdmljanncaaDsM
import Derived.Test.YtpghkdmljanncaaSmM
import Derived.Test.YtpghkdmljanncaaInLx
import Derived.Deep.Slices
import Derived.Deep.Strs
import Derived.Deep.Fields
import Derived.Lib.SmallJoins

/- By -/
/- Bytes: what is written is read again, and what is read is written again. (Out of XPcPure, what is of no layer.) -/
namespace Go.Proofs.Ytpghkdmljanncaa
open Go.ChangeShapes Go.WideShapes Go.ChangeAt Go.RowKit Go.PlainAid
set_option linter.unusedSimpArgs false
set_option linter.unusedVariables false

theorem data_extract (s : ByteArray) (i j : Nat) : (s.extract i j).data.toList = (s.data.toList.drop i).take (j - i) := by
  simp only [ByteArray.data_extract, Array.toList_extract, List.extract_eq_take_drop]
theorem un_0 {s : ByteArray} {p z : Int} (hz : okSize z) (h : unsE s p z = 0) : 0 ≤ p ∧ p + z ≤ s.size := by
  unfold unsE at h
  rw [if_neg (by simpa using hz)] at h
  split at h
  · cases h
  · split at h
    · cases h
    · omega
/- bytes -/
theorem bt_at {s : ByteArray} {k : Nat} (h : k < s.data.toList.length) : bt s k = ((s.data.toList[k]).toNat : Int) := by
  rw [bt_dataO, List.getD_eq_getElem?_getD, List.getElem?_eq_getElem h]; rfl
theorem len_dt (s : ByteArray) : s.data.toList.length = s.size := by simp
theorem bt_ext {a b : ByteArray} (hs : a.size = b.size) (h : ∀ i, i < a.size → bt a i = bt b i) : a = b := by
  apply ByteArray.ext
  apply Array.ext'
  apply List.ext_getElem
  · rw [len_dt, len_dt]; exact hs
  · intro i h1 h2
    have := h i (by rwa [len_dt] at h1)
    rw [bt_at h1, bt_at h2] at this
    exact UInt8.toNat_inj.1 (by omega)
theorem bt_ex {s : ByteArray} {p q i : Nat} (hq : q ≤ s.size) (h : p + i < q) : bt (s.extract p q) i = bt s (p + i) := by
  have hl : (s.extract p q).data.toList = (s.data.toList.drop p).take (q - p) := data_extract s p q
  rw [bt_dataO, bt_dataO, hl]
  rw [List.getD_eq_getElem?_getD, List.getD_eq_getElem?_getD, List.getElem?_take, if_pos (by omega), List.getElem?_drop]
theorem sz_ex {s : ByteArray} {p q : Nat} (hp : p ≤ q) (hq : q ≤ s.size) : (s.extract p q).size = q - p := by
  rw [ByteArray.size_extract]; omega
theorem ex_ap {s : ByteArray} {a b c : Nat} (h1 : a ≤ b) (h2 : b ≤ c) (h3 : c ≤ s.size) : s.extract a b ++ s.extract b c = s.extract a c := by
  refine bt_ext (by rw [ByteArray.size_append, sz_ex h1 (by omega), sz_ex h2 h3, sz_ex (by omega) h3]; omega) fun i hi => ?_
  rw [ByteArray.size_append, sz_ex h1 (by omega), sz_ex h2 h3] at hi
  rw [bt_ex h3 (by omega)]
  rcases Nat.lt_or_ge i (b - a) with h | h
  · rw [bt_left _ _ _ (by rw [sz_ex h1 (by omega)]; exact h), bt_ex (by omega) (by omega)]
  · have e : i = (s.extract a b).size + (i - (b - a)) := by rw [sz_ex h1 (by omega)]; omega
    rw [e, bt_right, bt_ex h3 (by omega), sz_ex h1 (by omega)]
    congr 1; omega

/- reading -/
theorem un_v {s : ByteArray} {p z : Int} (h : unsE s p z = 0) : unsV s p z = rdU (fromB s p.toNat) z.toNat := by unfold unsV; rw [if_pos h]
theorem un_in {s : ByteArray} {p z : Int} (hz : okSize z) (h0 : 0 ≤ p) (h1 : p + z ≤ s.size) : unsE s p z = 0 := by
  have : 0 < z := by unfold okSize at hz; omega
  unfold unsE
  rw [if_neg (by simpa using hz), if_neg (by omega), if_neg (by omega)]
theorem un_3 {s : ByteArray} {p z : Int} (hz : okSize z) (h0 : 0 ≤ p ∧ p ≤ s.size) (h1 : s.size < p + z) : unsE s p z = 3 := by
  unfold unsE
  rw [if_neg (by simpa using hz), if_neg (by omega), if_pos (by omega)]
theorem rd_eq {f g : Nat → Int} : ∀ z : Nat, (∀ i, i < z → f i = g i) → rdU f z = rdU g z
  | 0, _ => rfl
  | z + 1, h => by
    unfold rdU
    rw [rd_eq z (fun i hi => h i (by omega)), h z (by omega)]

/- b stands in s at p -/
def Sits (s : ByteArray) (p : Nat) (b : ByteArray) : Prop := p + b.size ≤ s.size ∧ ∀ i, i < b.size → bt s (p + i) = bt b i
theorem sits_mid (x b y : ByteArray) : Sits (x ++ b ++ y) x.size b := by
  refine ⟨by rw [ByteArray.size_append, ByteArray.size_append]; omega, fun i hi => mid_bytes x b y i hi⟩
theorem Sits.left {s a b : ByteArray} {p : Nat} (h : Sits s p (a ++ b)) : Sits s p a := by
  refine ⟨by have := h.1; rw [ByteArray.size_append] at this; omega, fun i hi => ?_⟩
  rw [h.2 i (by rw [ByteArray.size_append]; omega), bt_left _ _ _ hi]
theorem Sits.right {s a b : ByteArray} {p : Nat} (h : Sits s p (a ++ b)) : Sits s (p + a.size) b := by
  refine ⟨by have := h.1; rw [ByteArray.size_append] at this; omega, fun i hi => ?_⟩
  rw [Nat.add_assoc, h.2 _ (by rw [ByteArray.size_append]; omega), bt_right]
theorem Sits.cut {s b : ByteArray} {p : Nat} (h : Sits s p b) : s.extract p (p + b.size) = b := by
  have h1 := h.1
  refine bt_ext (by rw [sz_ex (by omega) h1]; omega) fun i hi => ?_
  rw [sz_ex (by omega) h1] at hi
  rw [bt_ex h1 (by omega), h.2 i (by omega)]
theorem putB_ok {n z : Int} (hz : okSize z) (hf : fitsP n z) : putB n z = strOfNums (putL n z) := by unfold putB; rw [if_pos ⟨hz, hf⟩]
theorem putB_sz {n z : Int} (hz : okSize z) (hf : fitsP n z) : ((putB n z).size : Int) = z := by
  rw [putB_ok hz hf, strOfNums_size, putL_len n z hz]
  have : 0 < z := by unfold okSize at hz; omega
  omega
theorem Sits.uns {s : ByteArray} {p : Nat} {n z : Int} (hz : okSize z) (hf : fitsP n z) (hn : -9223372036854775808 ≤ n ∧ n ≤ 9223372036854775807) (h : Sits s p (putB n z)) : unsE s p z = 0 ∧ unsV s p z = unsOf n z := by
  have hsz := putB_sz hz hf
  have h1 := h.1
  have e := un_in (s := s) (p := p) hz (by omega) (by omega)
  refine ⟨e, ?_⟩
  rw [un_v e]
  obtain ⟨y, rfl⟩ : ∃ y : Nat, z = y := ⟨z.toNat, by unfold okSize at hz; omega⟩
  rw [Int.toNat_natCast, Int.toNat_natCast]
  refine rd_put _ n y hz hn fun i hi => ?_
  unfold fromB
  rw [h.2 i (by omega), putB_ok hz hf, bt_nums _ _ (by rw [putL_len n y hz]; exact hi) (putL_bd n y i)]
/- what has been read, written again -/
theorem fromB_bt (s : ByteArray) (p i : Nat) : 0 ≤ fromB s p i ∧ fromB s p i ≤ 255 := fromB_bd s p i
theorem rd1 (f : Nat → Int) (h : ∀ i, 0 ≤ f i ∧ f i ≤ 255) : rdU f 1 = f 0 := by have := h 0; simp only [rdU]; unfold wrap64; omega
theorem rd2 (f : Nat → Int) (h : ∀ i, 0 ≤ f i ∧ f i ≤ 255) : rdU f 2 = f 0 * 256 + f 1 := by
  have := h 0; have := h 1
  rw [rdU, rd1 f h]; unfold wrap64; omega
theorem rd3 (f : Nat → Int) (h : ∀ i, 0 ≤ f i ∧ f i ≤ 255) : rdU f 3 = f 0 * 65536 + f 1 * 256 + f 2 := by
  have := h 0; have := h 1; have := h 2
  rw [rdU, rd2 f h]; unfold wrap64; omega
theorem rd4 (f : Nat → Int) (h : ∀ i, 0 ≤ f i ∧ f i ≤ 255) : rdU f 4 = f 0 * 16777216 + f 1 * 65536 + f 2 * 256 + f 3 := by
  have := h 0; have := h 1; have := h 2; have := h 3
  rw [rdU, rd3 f h]; unfold wrap64; omega
theorem rd5 (f : Nat → Int) (h : ∀ i, 0 ≤ f i ∧ f i ≤ 255) : rdU f 5 = f 0 * 4294967296 + f 1 * 16777216 + f 2 * 65536 + f 3 * 256 + f 4 := by
  have := h 0; have := h 1; have := h 2; have := h 3; have := h 4
  rw [rdU, rd4 f h]; unfold wrap64; omega
theorem rd6 (f : Nat → Int) (h : ∀ i, 0 ≤ f i ∧ f i ≤ 255) : rdU f 6 = f 0 * 1099511627776 + f 1 * 4294967296 + f 2 * 16777216 + f 3 * 65536 + f 4 * 256 + f 5 := by
  have := h 0; have := h 1; have := h 2; have := h 3; have := h 4; have := h 5
  rw [rdU, rd5 f h]; unfold wrap64; omega
theorem rd7 (f : Nat → Int) (h : ∀ i, 0 ≤ f i ∧ f i ≤ 255) : rdU f 7 = f 0 * 281474976710656 + f 1 * 1099511627776 + f 2 * 4294967296 + f 3 * 16777216 + f 4 * 65536 + f 5 * 256 + f 6 := by
  have := h 0; have := h 1; have := h 2; have := h 3; have := h 4; have := h 5; have := h 6
  rw [rdU, rd6 f h]; unfold wrap64; omega
def topB (f : Nat → Int) : Int := f 0 * 72057594037927936 + f 1 * 281474976710656 + f 2 * 1099511627776 + f 3 * 4294967296 + f 4 * 16777216 + f 5 * 65536 + f 6 * 256 + f 7
theorem rd8 (f : Nat → Int) (h : ∀ i, 0 ≤ f i ∧ f i ≤ 255) : rdU f 8 = if f 0 ≤ 127 then topB f else topB f - 18446744073709551616 := by
  have := h 0; have := h 1; have := h 2; have := h 3; have := h 4; have := h 5; have := h 6; have := h 7
  rw [rdU, rd7 f h]; unfold wrap64 topB; split <;> omega
theorem put_rd (f : Nat → Int) (h : ∀ i, 0 ≤ f i ∧ f i ≤ 255) (z : Int) (hz : okSize z) (n : Int) (hn : n = rdU f z.toNat ∨ n = sgn z (rdU f z.toNat)) : fitsP n z ∧ ∀ i, i < z.toNat → (putL n z).getD i 0 = f i := by
  have h0 := h 0; have h1 := h 1; have h2 := h 2; have h3 := h 3; have h4 := h 4; have h5 := h 5; have h6 := h 6; have h7 := h 7
  rcases hz with rfl | rfl | rfl | rfl
  · have e : n = f 0 ∨ n = (f 0 + 128) % 256 - 128 := by
      rcases hn with hn | hn
      · left; rw [hn]; exact rd1 f h
      · right; rw [hn]; show sgn 1 (rdU f 1) = _; rw [rd1 f h]; rfl
    refine ⟨by unfold fitsP; omega, fun i hi => ?_⟩
    obtain rfl : i = 0 := by simp at hi; omega
    simp [putL]; omega
  · have e : n = f 0 * 256 + f 1 ∨ n = (f 0 * 256 + f 1 + 32768) % 65536 - 32768 := by
      rcases hn with hn | hn
      · left; rw [hn]; exact rd2 f h
      · right; rw [hn]; show sgn 2 (rdU f 2) = _; rw [rd2 f h]; rfl
    refine ⟨by unfold fitsP; omega, fun i hi => ?_⟩
    rcases (by simp at hi; omega : i = 0 ∨ i = 1) with rfl | rfl <;> (simp [putL]; omega)
  · have e : n = f 0 * 16777216 + f 1 * 65536 + f 2 * 256 + f 3 ∨ n = (f 0 * 16777216 + f 1 * 65536 + f 2 * 256 + f 3 + 2147483648) % 4294967296 - 2147483648 := by
      rcases hn with hn | hn
      · left; rw [hn]; exact rd4 f h
      · right; rw [hn]; show sgn 4 (rdU f 4) = _; rw [rd4 f h]; rfl
    refine ⟨by unfold fitsP; omega, fun i hi => ?_⟩
    rcases (by simp at hi; omega : i = 0 ∨ i = 1 ∨ i = 2 ∨ i = 3) with rfl | rfl | rfl | rfl <;> (simp [putL]; omega)
  · have e : n = topB f ∨ n = topB f - 18446744073709551616 := by
      have e8 : n = rdU f 8 := by rcases hn with hn | hn <;> exact hn
      rw [rd8 f h] at e8
      split at e8
      · exact Or.inl e8
      · exact Or.inr e8
    unfold topB at e
    refine ⟨Or.inl rfl, fun i hi => ?_⟩
    rcases (by simp at hi; omega : i = 0 ∨ i = 1 ∨ i = 2 ∨ i = 3 ∨ i = 4 ∨ i = 5 ∨ i = 6 ∨ i = 7) with rfl | rfl | rfl | rfl | rfl | rfl | rfl | rfl <;> (simp [putL]; omega)
theorem put_un {s : ByteArray} {p z : Int} (hz : okSize z) (h : unsE s p z = 0) (n : Int) (hn : n = unsV s p z ∨ n = sigV s p z) : putB n z = s.extract p.toNat (p + z).toNat := by
  obtain ⟨hp0, hp1⟩ := un_0 hz h
  have hz1 : 1 ≤ z ∧ z ≤ 8 := by unfold okSize at hz; omega
  unfold sigV at hn
  rw [un_v h] at hn
  obtain ⟨hf, hb⟩ := put_rd (fromB s p.toNat) (fun i => fromB_bd s p.toNat i) z hz n hn
  rw [putB_ok hz hf]
  have hl := putL_len n z hz
  refine bt_ext (by rw [strOfNums_size, hl, sz_ex (by omega) (by omega)]; omega) fun i hi => ?_
  rw [strOfNums_size, hl] at hi
  rw [bt_nums _ _ (by rw [hl]; exact hi) (putL_bd n z i), hb i hi, bt_ex (by omega) (by omega)]
  rfl

end Go.Proofs.Ytpghkdmljanncaa

/- InPr -/
/- Layer 8: what Encode writes, Decode reads, pure. -/
namespace Go.Proofs.Ytpghkdmljanncaa
open Go.ChangeShapes Go.WideShapes Go.ChangeAt Go.RowKit Go.PlainAid
set_option linter.unusedSimpArgs false
set_option linter.unusedVariables false

theorem rd_u1 {s : ByteArray} {p : Nat} {n : Int} (h : Sits s p (putB n 1)) (hn : 0 ≤ n ∧ n ≤ 255) : unsE s p 1 = 0 ∧ unsV s p 1 = n := by
  have := h.uns ok1 (fit1 (by omega)) (by omega)
  refine ⟨this.1, ?_⟩
  rw [this.2]; unfold unsOf; rw [if_pos rfl]; omega
theorem rd_u2 {s : ByteArray} {p : Nat} {n : Int} (h : Sits s p (putB n 2)) (hn : 0 ≤ n ∧ n ≤ 65535) : unsE s p 2 = 0 ∧ unsV s p 2 = n := by
  have := h.uns ok2 (fit2b (by omega)) (by omega)
  refine ⟨this.1, ?_⟩
  rw [this.2]; unfold unsOf; rw [if_neg (by decide), if_pos rfl]; omega
theorem rd_s1 {s : ByteArray} {p : Nat} {n : Int} (h : Sits s p (putB n 1)) (hn : -128 ≤ n ∧ n ≤ 127) : unsE s p 1 = 0 ∧ sigV s p 1 = n := by
  have := h.uns ok1 (fit1 (by omega)) (by omega)
  refine ⟨this.1, ?_⟩
  unfold sigV
  rw [this.2]; unfold unsOf sgn; rw [if_pos rfl, if_pos rfl]; omega
theorem rd_s4 {s : ByteArray} {p : Nat} {n : Int} (h : Sits s p (putB n 4)) (hn : -2147483648 ≤ n ∧ n ≤ 2147483647) : unsE s p 4 = 0 ∧ sigV s p 4 = n := by
  have := h.uns ok4 (fit4 (by omega)) (by omega)
  refine ⟨this.1, ?_⟩
  unfold sigV
  rw [this.2]; unfold unsOf sgn
  rw [if_neg (by decide), if_neg (by decide), if_pos rfl, if_neg (by decide), if_neg (by decide), if_pos rfl]; omega
theorem tsF_app (P : List Int) (b : ByteArray) (l m : List Int) : tsF P b (l ++ m) = tsF P (tsF P b l) m := by unfold tsF; rw [List.foldl_append]
theorem ksF_app (P : List Int) (b : ByteArray) (l m : List (Int × Int)) : ksF P b (l ++ m) = ksF P (ksF P b l) m := by unfold ksF; rw [List.foldl_append]
theorem app_nil (b : ByteArray) : b ++ (⟨#[]⟩ : ByteArray) = b := by apply ByteArray.ext; apply Array.ext'; simp
theorem tsF_ext (P : List Int) : ∀ (l : List Int) (b : ByteArray), ∃ X, tsF P b l = b ++ X
  | [], b => ⟨⟨#[]⟩, (app_nil b).symm⟩
  | x :: l, b => by
    obtain ⟨X, h⟩ := tsF_ext P l (b ++ putB (plN P x) 2)
    exact ⟨putB (plN P x) 2 ++ X, by show tsF P (b ++ putB (plN P x) 2) l = _; rw [h, ByteArray.append_assoc]⟩
theorem ksF_ext (P : List Int) : ∀ (l : List (Int × Int)) (b : ByteArray), ∃ X, ksF P b l = b ++ X
  | [], b => ⟨⟨#[]⟩, (app_nil b).symm⟩
  | x :: l, b => by
    obtain ⟨X, h⟩ := ksF_ext P l (b ++ putB x.1 4 ++ putB (plN P x.2) 2)
    exact ⟨putB x.1 4 ++ putB (plN P x.2) 2 ++ X, by show ksF P (b ++ putB x.1 4 ++ putB (plN P x.2) 2) l = _; rw [h]; simp only [ByteArray.append_assoc]⟩
theorem cut_at {α : Type} {l : List α} {j : Nat} {x : α} (h : l[j]? = some x) : l = (l.take j ++ [x]) ++ l.drop (j + 1) := by
  rw [← take_snoc h, List.take_append_drop]
/-- the j-th target's bytes -/
theorem sits_ts {s b : ByteArray} {P l : List Int} {p j : Nat} {x : Int} (hp : PlOk P) (h : Sits s p (tsF P b l)) (hj : l[j]? = some x) : Sits s (p + b.size + 2 * j) (putB (plN P x) 2) := by
  rw [cut_at hj, tsF_app, tsF_snoc] at h
  obtain ⟨X, hX⟩ := tsF_ext P (l.drop (j + 1)) (tsF P b (l.take j) ++ putB (plN P x) 2)
  rw [hX] at h
  have hl := tsF_len hp (l.take j) b
  have hjl := get_lt hj
  rw [List.length_take, Nat.min_eq_left (by omega)] at hl
  have := h.left.right
  rw [show p + b.size + 2 * j = p + (tsF P b (l.take j)).size by omega]
  exact this
theorem sits_ks {s b : ByteArray} {P : List Int} {l : List (Int × Int)} {p j : Nat} {x : Int × Int} (hp : PlOk P) (hk : ∀ y ∈ l, k32 y.1 = true) (h : Sits s p (ksF P b l)) (hj : l[j]? = some x) : Sits s (p + b.size + 6 * j) (putB x.1 4) ∧ Sits s (p + b.size + 6 * j + 4) (putB (plN P x.2) 2) := by
  rw [cut_at hj, ksF_app, ksF_snoc] at h
  obtain ⟨X, hX⟩ := ksF_ext P (l.drop (j + 1)) (ksF P b (l.take j) ++ putB x.1 4 ++ putB (plN P x.2) 2)
  rw [hX] at h
  have hl := ksF_len hp (l.take j) b (fun y hy => hk y (List.mem_of_mem_take hy))
  have hjl := get_lt hj
  rw [List.length_take, Nat.min_eq_left (by omega)] at hl
  have h3 : ((putB x.1 4).size : Int) = 4 := putB_len ok4 (fit4 (by have := k32_iff.1 (hk x (List.mem_of_getElem? hj)); omega))
  have h1 := h.left.left.right
  have h2 := h.left.right
  rw [ByteArray.size_append] at h2
  rw [show p + b.size + 6 * j = p + (ksF P b (l.take j)).size by omega]
  refine ⟨h1, ?_⟩
  rw [show p + (ksF P b (l.take j)).size + 4 = p + ((ksF P b (l.take j)).size + (putB x.1 4).size) by omega]
  exact h2
/-- what stands in the bytes of an instruction: its targets as places -/
def rawC (P : List Int) (i : In) : Co := if brB i.op = true then ⟨i.op, i.a, i.b, plN P i.t, i.ks, i.ts.map (plN P)⟩ else i.core
theorem nuL_eq {f : Int → Int} {n : Nat} {l : List Int} (hl : l.length = n) (h : ∀ (j : Nat) (x : Int), l[j]? = some x → f j = x) : nuL f n = l := by
  subst hl
  apply List.ext_getElem?
  intro j
  unfold nuL
  rw [List.getElem?_map]
  rcases Nat.lt_or_ge j l.length with hj | hj
  · obtain ⟨x, hx⟩ := get_some hj
    rw [List.getElem?_range hj, hx]
    exact congrArg some (h j x hx)
  · rw [List.getElem?_eq_none (by simpa using hj), List.getElem?_eq_none hj]; rfl
theorem br_no {o : Int} (h0 : 0 ≤ kindV o) (h3 : kindV o ≠ 3) (h6 : kindV o ≠ 6) (h7 : kindV o ≠ 7) : brB o = false := by
  unfold brB
  apply decide_eq_false
  unfold kindV at h0 h3 h6 h7
  repeat' split at h0
  all_goals first | omega | (simp_all; done) | (simp_all; omega)
/-- nothing that an instruction's format does not use -/
theorem unused {i : In} {k : Int} (h : unB k i = false) : i.bare ∧ (k ≠ 1 → k ≠ 2 → k ≠ 4 → k ≠ 5 → k ≠ 6 → i.a = 0) ∧ (k ≠ 5 → i.b = 0) ∧ (k ≠ 3 → k < 6 → i.t = 0) ∧ (k ≠ 7 → i.kn = 0) ∧ (k < 6 → i.tn = 0) := by
  unfold unB at h
  simp only [Bool.or_eq_false_iff, Bool.and_eq_false_iff, Bool.not_eq_false', decide_eq_true_eq, bne_eq_false_iff_eq, Bool.not_eq_true', beq_eq_false_iff_ne, beq_iff_eq, Bool.or_eq_true, decide_eq_false_iff_not, rfZ, Bool.and_eq_true] at h
  obtain ⟨⟨r1, r2, r3⟩, hs, ha, hb, ht, hk, hts⟩ := h
  refine ⟨⟨s_nil.2 r1, s_nil.2 r2, s_nil.2 r3, s_nil.2 hs⟩, fun n1 n2 n4 n5 n6 => ?_, fun n5 => ?_, fun n3 l6 => ?_, fun n7 => ?_, fun l6 => ?_⟩
  · rcases ha with ha | ha
    · rcases ha with (((h | h) | h) | h) | h <;> omega
    · exact ha
  · rcases hb with hb | hb
    · omega
    · exact hb
  · rcases ht with ht | ht | ht
    · omega
    · omega
    · exact ht
  · rcases hk with hk | hk
    · omega
    · omega
  · rcases hts with hk | hk
    · omega
    · omega

end Go.Proofs.Ytpghkdmljanncaa

/- InPs -/
/- Layer 8: an instruction's bytes read, pure. -/
namespace Go.Proofs.Ytpghkdmljanncaa
open Go.ChangeShapes Go.WideShapes Go.ChangeAt Go.RowKit Go.PlainAid
set_option linter.unusedSimpArgs false
set_option linter.unusedVariables false

theorem size_of {i : In} {k z : Int} (h : kindV i.op = k) (h6 : k ≠ 6) (h7 : k ≠ 7) (hz : sizeV i.op = z) : szV i = z := by
  unfold szV
  rw [if_neg (fun e => h6 (h.symm.trans (kind6.2 e))), if_neg (fun e => h7 (h.symm.trans (kind7.2 e))), hz]
theorem sits_op {s b : ByteArray} {p : Nat} {o : Int} (h : Sits s p (putB o 1 ++ b)) (ho : 0 ≤ o ∧ o ≤ 80) : bt s p = o ∧ Sits s (p + 1) b := by
  have h1 := rd_u1 h.left (n := o) (by omega)
  have hz : ((putB o 1).size : Int) = 1 := putB_len ok1 (fit1 (by omega))
  have h2 := h.left.1
  have := (uns1 (s := s) (p := (p : Int)) (by omega) (by omega)).1
  rw [Int.toNat_natCast, h1.2] at this
  refine ⟨this.symm, ?_⟩
  rw [show p + 1 = p + (putB o 1).size by omega]
  exact h.right
theorem one_simple {s : ByteArray} {p : Nat} {i : In} {k z : Int} (hk : kindV i.op = k) (h6 : k ≠ 6) (h7 : k ≠ 7) (hz : sizeV i.op = z) (hs : (p : Int) + z ≤ s.size) (hz0 : 0 ≤ z) : ndV s p i.op = szV i := by
  rw [nd_plain (by rw [hk]; exact h6) (by rw [hk]; exact h7) hz, if_neg (by omega), size_of hk h6 h7 hz]
set_option maxHeartbeats 1000000 in
theorem read_one {s : ByteArray} {P : List Int} {p : Nat} {i : In} (hp : PlOk P) (hv : ciE i = 0) (hkl : i.ks.length = i.kn) (htl : i.ts.length = i.tn) (h : Sits s p (opB P i)) :
    bt s p = i.op ∧ ndV s p i.op = szV i ∧ tkC s p i.op = rawC P i := by
  obtain ⟨h0, h1, h2⟩ := valid_parts hv
  have hop := kind_op h0
  obtain ⟨hbr, ua, ub, ut, uk, us⟩ := unused h1
  have hpl := plN_bd hp i.t
  unfold opB opK at h
  rcases kind_bd i.op with k | k | k | k | k | k | k | k | k
  · omega
  · rw [k] at h ua ub ut uk us
    simp at h
    have hz := putB_len (n := i.op) ok1 (fit1 (by omega))
    have e := sits_op (b := ⟨#[]⟩) (by rw [app_nil]; exact h) hop
    have hs := h.1
    have hts : i.ts = [] := List.eq_nil_of_length_eq_zero (by have := us (by decide); omega)
    have hks : i.ks = [] := List.eq_nil_of_length_eq_zero (by have := uk (by decide); omega)
    refine ⟨e.1, one_simple k (by decide) (by decide) (z := 1) (by unfold sizeV; rw [k]; rfl) (by omega) (by decide), ?_⟩
    unfold rawC
    rw [br_no h0 (by rw [k]; decide) (by rw [k]; decide) (by rw [k]; decide)]
    unfold tkC In.core
    rw [k, ua (by decide) (by decide) (by decide) (by decide) (by decide), ub (by decide), ut (by decide) (by decide), hts, hks]
    rfl
  · rw [k] at h ua ub ut uk us h2
    simp at h
    have e := sits_op h hop
    have ha : -128 ≤ i.a ∧ i.a ≤ 127 := by unfold ciK at h2; rw [if_pos rfl] at h2; split at h2 <;> omega
    have g := rd_s1 e.2 ha
    have hz := putB_len (n := i.a) ok1 (fit1 (by omega))
    have hs := e.2.1
    have hts : i.ts = [] := List.eq_nil_of_length_eq_zero (by have := us (by decide); omega)
    have hks : i.ks = [] := List.eq_nil_of_length_eq_zero (by have := uk (by decide); omega)
    refine ⟨e.1, one_simple k (by decide) (by decide) (z := 2) (by unfold sizeV; rw [k]; rfl) (by omega) (by decide), ?_⟩
    unfold rawC
    rw [br_no h0 (by rw [k]; decide) (by rw [k]; decide) (by rw [k]; decide)]
    unfold tkC In.core
    have g2 := g.2
    push_cast at g2
    rw [k, if_pos rfl, g2, ub (by decide), ut (by decide) (by decide), hts, hks]
    rfl
  · rw [k] at h ua ub ut uk us h2
    simp at h
    have e := sits_op h hop
    have ha : 0 ≤ i.a ∧ i.a ≤ 65535 := by unfold ciK at h2; simp at h2; omega
    have g := rd_u2 e.2 ha
    have hz := putB_len (n := i.a) ok2 (fit2b (by omega))
    have hs := e.2.1
    have hts : i.ts = [] := List.eq_nil_of_length_eq_zero (by have := us (by decide); omega)
    have hks : i.ks = [] := List.eq_nil_of_length_eq_zero (by have := uk (by decide); omega)
    refine ⟨e.1, one_simple k (by decide) (by decide) (z := 3) (by unfold sizeV; rw [k]; rfl) (by omega) (by decide), ?_⟩
    unfold rawC
    rw [br_no h0 (by rw [k]; decide) (by rw [k]; decide) (by rw [k]; decide)]
    unfold tkC In.core
    have g2 := g.2
    push_cast at g2
    rw [k, if_neg (by decide), if_pos rfl, g2, ub (by decide), ut (by decide) (by decide), hts, hks]
    rfl
  · rw [k] at h ua ub ut uk us
    simp at h
    have e := sits_op h hop
    have g := rd_u2 e.2 hpl
    have hz := pl_len hp i.t
    have hs := e.2.1
    have hts : i.ts = [] := List.eq_nil_of_length_eq_zero (by have := us (by decide); omega)
    have hks : i.ks = [] := List.eq_nil_of_length_eq_zero (by have := uk (by decide); omega)
    refine ⟨e.1, one_simple k (by decide) (by decide) (z := 3) (by unfold sizeV; rw [k]; rfl) (by omega) (by decide), ?_⟩
    unfold rawC
    rw [if_pos (br_kind (Or.inl k))]
    unfold tkC
    have g2 := g.2
    push_cast at g2
    rw [k, if_neg (by decide), if_neg (by decide), if_pos rfl, g2, ua (by decide) (by decide) (by decide) (by decide) (by decide), ub (by decide), hts, hks]
    rfl
  · rw [k] at h ua ub ut uk us h2
    simp at h
    have e := sits_op h hop
    have ha : 0 ≤ i.a ∧ i.a ≤ 255 := by unfold ciK at h2; simp at h2; omega
    have g := rd_u1 e.2 ha
    have hz := putB_len (n := i.a) ok1 (fit1 (by omega))
    have hs := e.2.1
    have hts : i.ts = [] := List.eq_nil_of_length_eq_zero (by have := us (by decide); omega)
    have hks : i.ks = [] := List.eq_nil_of_length_eq_zero (by have := uk (by decide); omega)
    refine ⟨e.1, one_simple k (by decide) (by decide) (z := 2) (by unfold sizeV; rw [k]; rfl) (by omega) (by decide), ?_⟩
    unfold rawC
    rw [br_no h0 (by rw [k]; decide) (by rw [k]; decide) (by rw [k]; decide)]
    unfold tkC In.core
    have g2 := g.2
    push_cast at g2
    rw [k, if_neg (by decide), if_neg (by decide), if_neg (by decide), if_pos rfl, g2, ub (by decide), ut (by decide) (by decide), hts, hks]
    rfl
  · rw [k] at h ua ub ut uk us h2
    simp at h
    rw [ByteArray.append_assoc] at h
    have e := sits_op h hop
    unfold ciK at h2
    simp at h2
    have ha : 0 ≤ i.a ∧ i.a ≤ 255 := by split at h2 <;> omega
    have hb' : -128 ≤ i.b ∧ i.b ≤ 127 := by split at h2 <;> omega
    have g := rd_u1 e.2.left ha
    have hz := putB_len (n := i.a) ok1 (fit1 (by omega))
    have er := e.2.right
    rw [show p + 1 + (putB i.a 1).size = p + 2 by omega] at er
    have g3 := rd_s1 er hb'
    have hz3 := putB_len (n := i.b) ok1 (fit1 (by omega))
    have hs := er.1
    have hts : i.ts = [] := List.eq_nil_of_length_eq_zero (by have := us (by decide); omega)
    have hks : i.ks = [] := List.eq_nil_of_length_eq_zero (by have := uk (by decide); omega)
    refine ⟨e.1, one_simple k (by decide) (by decide) (z := 3) (by unfold sizeV; rw [k]; rfl) (by omega) (by decide), ?_⟩
    unfold rawC
    rw [br_no h0 (by rw [k]; decide) (by rw [k]; decide) (by rw [k]; decide)]
    unfold tkC In.core
    have g2 := g.2
    have g4 := g3.2
    rw [show ((p + 1 : Nat) : Int) = (p : Int) + 1 by omega] at g2
    rw [show ((p + 2 : Nat) : Int) = (p : Int) + 2 by omega] at g4
    rw [k, if_neg (by decide), if_neg (by decide), if_neg (by decide), if_neg (by decide), if_pos rfl, g2, g4, ut (by decide) (by decide), hts, hks]
    rfl
  · rw [k] at h ua ub ut uk us
    simp at h
    have h53 := kind6.1 k
    have hz' : szV i = 9 + 2 * (i.tn : Int) := by unfold szV; rw [if_pos h53]
    have htn := valid_tn hv
    have ha := k32_iff.1 (valid_k6 hv k)
    have hl := tsF_len hp i.ts (st6 P i)
    have z0 := putB_len (n := i.op) ok1 (fit1 (by omega))
    have z1 := pl_len hp i.t
    have z2 := putB_len (n := i.a) ok4 (fit4 (by omega))
    have z3 := putB_len (n := (i.tn : Int)) ok2 (fit2b (by omega))
    have z6 : (st6 P i).size = 9 := by unfold st6; simp only [ByteArray.size_append]; omega
    have hS := h
    obtain ⟨X, hX⟩ := tsF_ext P i.ts (st6 P i)
    rw [hX] at h
    have h6 := h.left
    unfold st6 at h6
    have hop2 : Sits s p (putB i.op 1 ++ (putB (plN P i.t) 2 ++ (putB i.a 4 ++ putB (i.tn : Int) 2))) := by simpa only [ByteArray.append_assoc] using h6
    have e := sits_op hop2 hop
    have et := rd_u2 e.2.left hpl
    have e2 := e.2.right
    rw [show p + 1 + (putB (plN P i.t) 2).size = p + 3 by omega] at e2
    have ea := rd_s4 e2.left ha
    have e3 := e2.right
    rw [show p + 3 + (putB i.a 4).size = p + 7 by omega] at e3
    have en := rd_u2 e3 (by omega)
    have hs := hS.1
    have g1 := et.2
    have g2 := ea.2
    have g3 := en.2
    rw [show ((p + 1 : Nat) : Int) = (p : Int) + 1 by omega] at g1
    rw [show ((p + 3 : Nat) : Int) = (p : Int) + 3 by omega] at g2
    rw [show ((p + 7 : Nat) : Int) = (p : Int) + 7 by omega] at g3
    have hks : i.ks = [] := List.eq_nil_of_length_eq_zero (by have := uk (by decide); omega)
    refine ⟨e.1, ?_, ?_⟩
    · rw [nd_6 k, if_neg (by omega), g3, if_neg (by omega), hz']
    · unfold rawC
      rw [if_pos (br_kind (Or.inr (Or.inl k)))]
      unfold tkC
      rw [k, if_neg (by decide), if_neg (by decide), if_neg (by decide), if_neg (by decide), if_neg (by decide), if_pos rfl, g1, g2, g3, ub (by decide), hks, Int.toNat_natCast]
      rw [nuL_eq (l := i.ts.map (plN P)) (by rw [List.length_map, htl]) (fun j x hx => by
        rw [List.getElem?_map] at hx
        cases hy : i.ts[j]? with
        | none => rw [hy] at hx; cases hx
        | some y =>
          rw [hy] at hx
          obtain rfl := Option.some.inj hx
          have q := sits_ts hp hS hy
          rw [z6] at q
          have r := (rd_u2 q (plN_bd hp y)).2
          rw [show ((p + 9 + 2 * j : Nat) : Int) = (p : Int) + 9 + 2 * (j : Int) by omega] at r
          exact r)]
  · rw [k] at h ua ub ut uk us
    simp at h
    have h54 := kind7.1 k
    have hz' : szV i = 5 + 6 * (i.kn : Int) := by unfold szV; rw [if_neg (by omega), if_pos h54]
    have hkn := (szV_bd hv).2.2.2 h54
    have hall := valid_ks hv k
    have hk32 : ∀ y ∈ i.ks.zip i.ts, k32 y.1 = true := fun y hy => List.all_eq_true.1 hall y.1 (List.of_mem_zip hy).1
    have hzl : (i.ks.zip i.ts).length = i.kn := by rw [List.length_zip]; omega
    have hl := ksF_len hp (i.ks.zip i.ts) (st7 P i) hk32
    have z0 := putB_len (n := i.op) ok1 (fit1 (by omega))
    have z1 := pl_len hp i.t
    have z3 := putB_len (n := (i.kn : Int)) ok2 (fit2b (by omega))
    have z7 : (st7 P i).size = 5 := by unfold st7; simp only [ByteArray.size_append]; omega
    have hS := h
    obtain ⟨X, hX⟩ := ksF_ext P (i.ks.zip i.ts) (st7 P i)
    rw [hX] at h
    have h6 := h.left
    unfold st7 at h6
    have hop2 : Sits s p (putB i.op 1 ++ (putB (plN P i.t) 2 ++ putB (i.kn : Int) 2)) := by simpa only [ByteArray.append_assoc] using h6
    have e := sits_op hop2 hop
    have et := rd_u2 e.2.left hpl
    have e2 := e.2.right
    rw [show p + 1 + (putB (plN P i.t) 2).size = p + 3 by omega] at e2
    have en := rd_u2 e2 (by omega)
    have hs := hS.1
    have g1 := et.2
    have g3 := en.2
    rw [show ((p + 1 : Nat) : Int) = (p : Int) + 1 by omega] at g1
    rw [show ((p + 3 : Nat) : Int) = (p : Int) + 3 by omega] at g3
    have zip_at : ∀ (j : Nat) (x y : Int), i.ks[j]? = some x → i.ts[j]? = some y → (i.ks.zip i.ts)[j]? = some (x, y) := fun j x y hx hy => by rw [List.getElem?_zip_eq_some]; exact ⟨hx, hy⟩
    refine ⟨e.1, ?_, ?_⟩
    · rw [nd_7 k, if_neg (by omega), g3, if_neg (by omega), hz']
    · unfold rawC
      rw [if_pos (br_kind (Or.inr (Or.inr k)))]
      unfold tkC
      rw [k, if_neg (by decide), if_neg (by decide), if_neg (by decide), if_neg (by decide), if_neg (by decide), if_neg (by decide), if_pos rfl, g1, g3, ua (by decide) (by decide) (by decide) (by decide) (by decide), ub (by decide), Int.toNat_natCast]
      rw [nuL_eq (l := i.ks) hkl (fun j x hx => by
        obtain ⟨y, hy⟩ := get_some (l := i.ts) (k := j) (by have := get_lt hx; omega)
        have q := (sits_ks hp hk32 hS (zip_at j x y hx hy)).1
        rw [z7] at q
        have r := (rd_s4 q (k32_iff.1 (List.all_eq_true.1 hall x (List.mem_of_getElem? hx)))).2
        rw [show ((p + 5 + 6 * j : Nat) : Int) = (p : Int) + 5 + 6 * (j : Int) by omega] at r
        exact r)]
      rw [nuL_eq (l := i.ts.map (plN P)) (by rw [List.length_map, htl]; omega) (fun j x hx => by
        rw [List.getElem?_map] at hx
        cases hy : i.ts[j]? with
        | none => rw [hy] at hx; cases hx
        | some y =>
          rw [hy] at hx
          obtain rfl := Option.some.inj hx
          obtain ⟨x, hx⟩ := get_some (l := i.ks) (k := j) (by have := get_lt hy; omega)
          have q := (sits_ks hp hk32 hS (zip_at j x y hx hy)).2
          rw [z7, show p + 5 + 6 * j + 4 = p + 9 + 6 * j by omega] at q
          have r := (rd_u2 q (plN_bd hp y)).2
          rw [show ((p + 9 + 6 * j : Nat) : Int) = (p : Int) + 9 + 6 * (j : Int) by omega] at r
          exact r)]

end Go.Proofs.Ytpghkdmljanncaa

/- InPt -/
/- Layer 8: what Encode writes, Decode reads, pure. -/
namespace Go.Proofs.Ytpghkdmljanncaa
open Go.ChangeShapes Go.WideShapes Go.ChangeAt Go.RowKit Go.PlainAid
set_option linter.unusedSimpArgs false
set_option linter.unusedVariables false

theorem enP_ext (P : List Int) : ∀ (L : List In) (b : ByteArray), ∃ X, L.foldl (fun b i => b ++ opB P i) b = b ++ X
  | [], b => ⟨⟨#[]⟩, (app_nil b).symm⟩
  | i :: r, b => by
    obtain ⟨X, h⟩ := enP_ext P r (b ++ opB P i)
    exact ⟨opB P i ++ X, by rw [List.foldl_cons, h, ByteArray.append_assoc]⟩
theorem enP_sits {P : List Int} {L : List In} {k : Nat} {i : In} (h : L[k]? = some i) : Sits (enP P L) (enP P (L.take k)).size (opB P i) := by
  have e : enP P L = enP P (L.take (k + 1)) ++ (enP_ext P (L.drop (k + 1)) (enP P (L.take (k + 1)))).choose := by
    rw [← (enP_ext P (L.drop (k + 1)) (enP P (L.take (k + 1)))).choose_spec]
    show enP P L = List.foldl _ (List.foldl _ _ _) _
    rw [← List.foldl_append, List.take_append_drop]; rfl
  rw [e, enP_take h]
  exact sits_mid _ _ _
/-- the list of an encoding, as it is read -/
def rdL (P : List Int) (L : List In) : List (Int × Co) := (ofN L L.length).zip (L.map (rawC P))
theorem rdL_at {P : List Int} {L : List In} {k : Nat} {i : In} (h : L[k]? = some i) : (rdL P L).drop k = (atN L k, rawC P i) :: (rdL P L).drop (k + 1) := by
  have hk := get_lt h
  have hl : k < (rdL P L).length := by unfold rdL; rw [List.length_zip, ofN_len, List.length_map]; omega
  rw [List.drop_eq_getElem_cons hl]
  congr 1
  have : (rdL P L)[k]? = some (atN L k, rawC P i) := by
    unfold rdL
    rw [List.getElem?_zip_eq_some]
    refine ⟨?_, by rw [List.getElem?_map, h]; rfl⟩
    unfold ofN
    rw [List.getElem?_map, List.getElem?_range hk]; rfl
  rw [List.getElem?_eq_getElem hl] at this
  exact Option.some.inj this
theorem scan_enc {P : List Int} (hp : PlOk P) {L : List In} (hv : ∀ i ∈ L, ciE i = 0 ∧ i.ks.length = i.kn ∧ i.ts.length = i.tn) :
    ∀ f k, k + f = L.length → scA (enP P L) (atN L k) = ((rdL P L).drop k, 0)
  | 0, k, hk => by
    obtain rfl : k = L.length := by omega
    have hz := enP_len hp hv L.length (Nat.le_refl _)
    rw [List.take_of_length_le (Nat.le_refl _)] at hz
    rw [scA_end (by omega), List.drop_eq_nil_of_le (by unfold rdL; rw [List.length_zip, ofN_len, List.length_map]; omega)]
  | f + 1, k, hk => by
    obtain ⟨i, hi⟩ := get_some (l := L) (k := k) (by omega)
    have hm := hv i (List.mem_of_getElem? hi)
    have hz := enP_len hp hv k (by omega)
    have hs := enP_sits (P := P) hi
    have hr := read_one hp hm.1 hm.2.1 hm.2.2 hs
    have ho := opB_len hm.1 hp hm.2.1 hm.2.2
    have hb := szV_bd hm.1
    have h0 := (valid_parts hm.1).1
    have hs1 := hs.1
    rw [← hz]
    rw [scA_go (by omega) (by omega) (by rw [Int.toNat_natCast, hr.1]; omega) (by rw [Int.toNat_natCast, hr.1, hr.2.1]; omega)]
    rw [Int.toNat_natCast, hr.1, hr.2.1, hr.2.2, hz]
    have ih := scan_enc hp hv f (k + 1) (by omega)
    rw [atN_succ hi] at ih
    rw [ih, rdL_at hi]
/-- the places of an encoding's instructions tell them apart -/
theorem wh_ofN {L : List In} (h : ofE L = 0) {k : Nat} (hk : k < L.length) : atN L k ∈ ofN L L.length ∧ whI (ofN L L.length) (atN L k) = k := by
  have get : ∀ j, j < L.length → (ofN L L.length).getD j 0 = atN L j := fun j hj => by
    unfold ofN
    rw [List.getD_eq_getElem?_getD, List.getElem?_map, List.getElem?_range hj]; rfl
  have hw := wh_at (M := ofN L L.length) (x := atN L k) (k := k) (fun j hj => by
    rw [get j (by omega)]
    have := atN_lt (of_ok h).1 (k - j - 1) j (by omega)
    rw [show j + (k - j - 1) + 1 = k by omega] at this
    omega) (by rw [ofN_len]; exact hk) (get k hk)
  exact ⟨hw.1, by unfold whI; rw [if_pos hw.1, hw.2]⟩
theorem plN_of {L : List In} (h : ofE L = 0) {x : Int} (h0 : 0 ≤ x) (hx : x < L.length) : plN (ofP L) x = atN L x.toNat := by
  unfold plN
  rw [List.getD_eq_getElem?_getD, ofP_at h (by omega)]; rfl
theorem rt_one {L : List In} (h : ofE L = 0) (ht : tgA L = true) {i : In} (hi : i ∈ L) (hv : ciE i = 0) : ixC (ofN L L.length) (rawC (ofP L) i) = i.core ∧ inC (ofN L L.length) (rawC (ofP L) i) = true := by
  unfold rawC
  cases hb : brB i.op with
  | false =>
    rw [if_neg (by simp)]
    unfold ixC inC
    rw [show i.core.op = i.op from rfl, hb]
    exact ⟨rfl, rfl⟩
  | true =>
    rw [if_pos rfl]
    have htg : tgL i = i.t :: i.ts := by unfold tgL; rw [if_pos hb]
    have key : ∀ x ∈ i.t :: i.ts, plN (ofP L) x ∈ ofN L L.length ∧ whI (ofN L L.length) (plN (ofP L) x) = x := by
      intro x hx
      have h1 := tgA_at ht hi x (by rw [htg]; exact hx)
      have h2 := valid_tg hv x (by rw [htg]; exact hx)
      have := wh_ofN h (k := x.toNat) (by omega)
      rw [plN_of h h2.1 h1]
      exact ⟨this.1, by rw [this.2]; omega⟩
    unfold ixC inC
    simp only [hb, if_true, Bool.not_true, Bool.false_or, Bool.and_eq_true, decide_eq_true_eq]
    refine ⟨?_, (key i.t List.mem_cons_self).1, ?_⟩
    · unfold In.core
      rw [(key i.t List.mem_cons_self).2, List.map_map]
      congr 1
      have : i.ts.map (whI (ofN L L.length) ∘ plN (ofP L)) = i.ts.map id := List.map_congr_left fun x hx => (key x (List.mem_cons_of_mem _ hx)).2
      rw [this, List.map_id]
    · rw [List.all_eq_true]
      intro y hy
      obtain ⟨x, hx, rfl⟩ := List.mem_map.1 hy
      exact decide_eq_true (key x (List.mem_cons_of_mem _ hx)).1
theorem valid_bare {i : In} (hv : ciE i = 0) : i.bare := (unused (valid_parts hv).2.1).1
/-- Decode undoes Encode -/
theorem dec_enc {L : List In} (h : enE L = 0) (hl : ∀ i ∈ L, i.ks.length = i.kn ∧ i.ts.length = i.tn) : dcE (enS L) = 0 ∧ dcV (enS L) = L.map In.core := by
  have h0 : ofE L = 0 := by
    by_cases h1 : ofE L = 0
    · exact h1
    · have := (en_1 h1).1; omega
  have ht : tgA L = true := by
    cases h2 : tgA L with
    | true => rfl
    | false => have := (en_2 h0 h2).1; omega
  obtain ⟨hc, hn, hz, _⟩ := of_ok h0
  have hall : ∀ i ∈ L, ciE i = 0 := fun i hi => by
    obtain ⟨j, hj, he⟩ := List.getElem_of_mem hi
    exact chkE_all hc j i (by rw [List.getElem?_eq_getElem hj, he])
  have hp := ofP_ok h0
  have hs : enS L = enP (ofP L) L := (en_3 h0 ht).2
  have hsz := enS_len h hl
  have sc := scan_enc hp (L := L) (fun i hi => ⟨hall i hi, hl i hi⟩) L.length 0 (by omega)
  rw [show atN L 0 = 0 from rfl, ← hs, List.drop_zero] at sc
  have f1 : (rdL (ofP L) L).map Prod.fst = ofN L L.length := by unfold rdL; rw [List.map_fst_zip (by rw [ofN_len, List.length_map]; exact Nat.le_refl _)]
  have f2 : (rdL (ofP L) L).map Prod.snd = L.map (rawC (ofP L)) := by unfold rdL; rw [List.map_snd_zip (by rw [ofN_len, List.length_map]; exact Nat.le_refl _)]
  have f3 : (rdL (ofP L) L).length = L.length := by unfold rdL; rw [List.length_zip, ofN_len, List.length_map, Nat.min_self]
  have hd : dcL (enS L) = L.map In.core := by
    unfold dcL
    rw [sc, f1, f2, List.map_map]
    exact List.map_congr_left fun i hi => (rt_one h0 ht hi (hall i hi)).1
  have he : dcE (enS L) = 0 := by
    rw [dc_5 (by omega) (by rw [sc]) (by rw [sc, f3]; omega) (by
      rw [sc, f1, f2, List.all_map, List.all_eq_true]
      exact fun i hi => (rt_one h0 ht hi (hall i hi)).2), hd, List.map_map]
    rw [chkE_map (f := Co.inn ∘ In.core) (fun i hi => (ci_core (valid_bare (hall i hi)) (hl i hi).1 (hl i hi).2).symm)]
    exact hc
  exact ⟨he, by unfold dcV; rw [if_pos he]; exact hd⟩

end Go.Proofs.Ytpghkdmljanncaa

/- InPu -/
/- Layer 8: what Decode has read, Encode writes again, pure. -/
namespace Go.Proofs.Ytpghkdmljanncaa
open Go.ChangeShapes Go.WideShapes Go.ChangeAt Go.RowKit Go.PlainAid
set_option linter.unusedSimpArgs false
set_option linter.unusedVariables false

/-- one instruction stands at q -/
structure Std (s : ByteArray) (q : Int) (c : Co) : Prop where
  q0 : 0 ≤ q
  q1 : q < s.size
  k0 : 0 ≤ kindV (bt s q.toNat)
  nd : ¬ ndV s q (bt s q.toNat) < 0
  c : c = tkC s q (bt s q.toNat)
theorem scF_at (s : ByteArray) : ∀ (f : Nat) (p : Int), 0 ≤ p → (s.size : Int) - p < f → p ≤ s.size → (scF s f p).2 = 0 →
    (∀ (k : Nat) (q : Int) (c : Co), (scF s f p).1[k]? = some (q, c) → Std s q c ∧ (k = 0 → q = p) ∧
      (∀ (q' : Int) (c' : Co), (scF s f p).1[k + 1]? = some (q', c') → q' = q + ndV s q (bt s q.toNat)) ∧ (k + 1 = (scF s f p).1.length → q + ndV s q (bt s q.toNat) = s.size)) ∧ ((scF s f p).1 = [] → p = s.size)
  | 0, p, h0, hf, hp, _ => by omega
  | f + 1, p, h0, hf, hp, he => by
    unfold scF at he ⊢
    by_cases h1 : (s.size : Int) ≤ p
    · rw [if_pos h1]
      exact ⟨fun k q c h => by simp at h, fun _ => by omega⟩
    · rw [if_neg h1] at he ⊢
      by_cases h2 : kindV (bt s p.toNat) < 0
      · rw [if_pos h2] at he; cases he
      · rw [if_neg h2] at he ⊢
        by_cases h3 : ndV s p (bt s p.toNat) < 0
        · rw [if_pos h3] at he; cases he
        · rw [if_neg h3] at he ⊢
          have hpos := ndV_pos (by omega) h3
          have ih := scF_at s f (p + ndV s p (bt s p.toNat)) (by omega) (by omega) hpos.2 he
          refine ⟨fun k q c h => ?_, fun h => by cases h⟩
          cases k with
          | zero =>
            have h' : (p, tkC s p (bt s p.toNat)) = (q, c) := Option.some.inj h
            injection h' with e1 e2
            subst e1 e2
            refine ⟨⟨h0, by omega, by omega, h3, rfl⟩, fun _ => rfl, fun q' c' hq => ?_, fun hl => ?_⟩
            · exact (ih.1 0 q' c' (by simpa using hq)).2.1 rfl
            · exact ih.2 (List.eq_nil_of_length_eq_zero (by simpa using hl))
          | succ k =>
            have := ih.1 k q c (by simpa using h)
            refine ⟨this.1, fun e => absurd e (Nat.succ_ne_zero k), fun q' c' hq => this.2.2.1 q' c' (by simpa using hq), fun hl => this.2.2.2 (by simpa using hl)⟩
theorem tkC_op (s : ByteArray) (p o : Int) : (tkC s p o).op = o := by
  unfold tkC
  repeat' split
  all_goals rfl
/-- its bytes -/
theorem one_back {s : ByteArray} {q : Int} {c : Co} {P Q : List Int} {i : In} (h : Std s q c) (hi : i.core = ixC Q c) (hin : inC Q c = true) (hkl : i.ks.length = i.kn) (htl : i.ts.length = i.tn)
    (hP : ∀ x ∈ Q, plN P (whI Q x) = x) : szV i = ndV s q (bt s q.toNat) ∧ opB P i = s.extract q.toNat (q + ndV s q (bt s q.toNat)).toNat := by
  obtain ⟨q0, q1, k0, nd, rfl⟩ := h
  obtain ⟨o, ho⟩ : ∃ o, bt s q.toNat = o := ⟨_, rfl⟩
  rw [ho] at k0 nd hi hin ⊢
  have hpos := ndV_pos k0 nd
  have hop := kind_op k0
  have u1 := uns1 (s := s) q0 q1
  rw [ho] at u1
  have b1 := put_un ok1 u1.2 o (Or.inl u1.1.symm)
  have hio : i.op = o := by
    have : i.core.op = (ixC Q (tkC s q o)).op := by rw [hi]
    rw [show i.core.op = i.op from rfl] at this
    rw [this]
    unfold ixC
    split <;> exact tkC_op s q o
  have cat : ∀ a b c : Int, 0 ≤ a → a ≤ b → b ≤ c → c ≤ s.size → s.extract a.toNat b.toNat ++ s.extract b.toNat c.toNat = s.extract a.toNat c.toNat := fun a b c h0 h1 h2 h3 => ex_ap (by omega) (by omega) (by omega)
  have put : ∀ (z p x : Int), okSize z → 0 ≤ p → p + z ≤ s.size → (x = unsV s p z ∨ x = sigV s p z) → putB x z = s.extract p.toNat (p + z).toNat := fun z p x hz h0 h1 hx => put_un hz (un_in hz h0 h1) x hx
  have plain : brB o = false → i.core = tkC s q o := fun hb => by
    rw [hi]; unfold ixC; rw [tkC_op, hb]; rfl
  have branch : brB o = true → i.core = ⟨o, (tkC s q o).a, (tkC s q o).b, whI Q (tkC s q o).t, (tkC s q o).ks, (tkC s q o).ts.map (whI Q)⟩ ∧ (tkC s q o).t ∈ Q ∧ ∀ x ∈ (tkC s q o).ts, x ∈ Q := fun hb => by
    unfold inC at hin
    rw [tkC_op, hb] at hin
    simp only [Bool.not_true, Bool.false_or, Bool.and_eq_true, decide_eq_true_eq, List.all_eq_true] at hin
    refine ⟨?_, hin.1, fun x hx => hin.2 x hx⟩
    rw [hi]; unfold ixC; rw [tkC_op, hb, if_pos rfl]
  unfold opB opK szV
  rw [hio]
  rcases kind_bd o with k | k | k | k | k | k | k | k | k
  · omega
  · have n53 : ¬ o = 53 := fun e => by rw [kind6.2 e] at k; cases k
    have n54 : ¬ o = 54 := fun e => by rw [kind7.2 e] at k; cases k
    have hz : sizeV o = 1 := by unfold sizeV; rw [k]; rfl
    have hn : ndV s q o = 1 := by rw [nd_plain (by rw [k]; decide) (by rw [k]; decide) hz, if_neg (by omega)]
    rw [if_neg n53, if_neg n54, hz, hn, k]
    exact ⟨rfl, b1⟩
  · have n53 : ¬ o = 53 := fun e => by rw [kind6.2 e] at k; cases k
    have n54 : ¬ o = 54 := fun e => by rw [kind7.2 e] at k; cases k
    have hz : sizeV o = 2 := by unfold sizeV; rw [k]; rfl
    have hn := nd_plain (s := s) (p := q) (by rw [k]; decide) (by rw [k]; decide) hz
    have hle : q + 2 ≤ s.size := by
      by_cases hh : (s.size : Int) < q + 2
      · rw [hn, if_pos hh] at nd; omega
      · omega
    rw [if_neg (by omega)] at hn
    have hc := plain (br_no k0 (by rw [k]; decide) (by rw [k]; decide) (by rw [k]; decide))
    unfold tkC at hc
    rw [k, if_pos rfl] at hc
    have ha : i.a = sigV s (q + 1) 1 := by unfold In.core at hc; injection hc
    have b2 := put 1 (q + 1) i.a ok1 (by omega) (by omega) (Or.inr ha)
    rw [if_neg n53, if_neg n54, hz, hn, k]
    refine ⟨rfl, ?_⟩
    show putB o 1 ++ putB i.a 1 = _
    rw [b1, b2, show q + 1 + 1 = q + 2 by omega]
    exact cat q (q + 1) (q + 2) q0 (by omega) (by omega) hle
  · have n53 : ¬ o = 53 := fun e => by rw [kind6.2 e] at k; cases k
    have n54 : ¬ o = 54 := fun e => by rw [kind7.2 e] at k; cases k
    have hz : sizeV o = 3 := by unfold sizeV; rw [k]; rfl
    have hn := nd_plain (s := s) (p := q) (by rw [k]; decide) (by rw [k]; decide) hz
    have hle : q + 3 ≤ s.size := by
      by_cases hh : (s.size : Int) < q + 3
      · rw [hn, if_pos hh] at nd; omega
      · omega
    rw [if_neg (by omega)] at hn
    have hc := plain (br_no k0 (by rw [k]; decide) (by rw [k]; decide) (by rw [k]; decide))
    unfold tkC at hc
    rw [k, if_neg (by decide), if_pos rfl] at hc
    have ha : i.a = unsV s (q + 1) 2 := by unfold In.core at hc; injection hc
    have b2 := put 2 (q + 1) i.a ok2 (by omega) (by omega) (Or.inl ha)
    rw [if_neg n53, if_neg n54, hz, hn, k]
    refine ⟨rfl, ?_⟩
    show putB o 1 ++ putB i.a 2 = _
    rw [b1, b2, show q + 1 + 2 = q + 3 by omega]
    exact cat q (q + 1) (q + 3) q0 (by omega) (by omega) hle
  · have n53 : ¬ o = 53 := fun e => by rw [kind6.2 e] at k; cases k
    have n54 : ¬ o = 54 := fun e => by rw [kind7.2 e] at k; cases k
    have hz : sizeV o = 3 := by unfold sizeV; rw [k]; rfl
    have hn := nd_plain (s := s) (p := q) (by rw [k]; decide) (by rw [k]; decide) hz
    have hle : q + 3 ≤ s.size := by
      by_cases hh : (s.size : Int) < q + 3
      · rw [hn, if_pos hh] at nd; omega
      · omega
    rw [if_neg (by omega)] at hn
    have hc := branch (br_kind (Or.inl k))
    unfold tkC at hc
    rw [k, if_neg (by decide), if_neg (by decide), if_pos rfl] at hc
    have ht : i.t = whI Q (unsV s (q + 1) 2) := by have := hc.1; unfold In.core at this; injection this
    have b2 := put 2 (q + 1) (plN P i.t) ok2 (by omega) (by omega) (Or.inl (by rw [ht]; exact hP _ hc.2.1))
    rw [if_neg n53, if_neg n54, hz, hn, k]
    refine ⟨rfl, ?_⟩
    show putB o 1 ++ putB (plN P i.t) 2 = _
    rw [b1, b2, show q + 1 + 2 = q + 3 by omega]
    exact cat q (q + 1) (q + 3) q0 (by omega) (by omega) hle
  · have n53 : ¬ o = 53 := fun e => by rw [kind6.2 e] at k; cases k
    have n54 : ¬ o = 54 := fun e => by rw [kind7.2 e] at k; cases k
    have hz : sizeV o = 2 := by unfold sizeV; rw [k]; rfl
    have hn := nd_plain (s := s) (p := q) (by rw [k]; decide) (by rw [k]; decide) hz
    have hle : q + 2 ≤ s.size := by
      by_cases hh : (s.size : Int) < q + 2
      · rw [hn, if_pos hh] at nd; omega
      · omega
    rw [if_neg (by omega)] at hn
    have hc := plain (br_no k0 (by rw [k]; decide) (by rw [k]; decide) (by rw [k]; decide))
    unfold tkC at hc
    rw [k, if_neg (by decide), if_neg (by decide), if_neg (by decide), if_pos rfl] at hc
    have ha : i.a = unsV s (q + 1) 1 := by unfold In.core at hc; injection hc
    have b2 := put 1 (q + 1) i.a ok1 (by omega) (by omega) (Or.inl ha)
    rw [if_neg n53, if_neg n54, hz, hn, k]
    refine ⟨rfl, ?_⟩
    show putB o 1 ++ putB i.a 1 = _
    rw [b1, b2, show q + 1 + 1 = q + 2 by omega]
    exact cat q (q + 1) (q + 2) q0 (by omega) (by omega) hle
  · have n53 : ¬ o = 53 := fun e => by rw [kind6.2 e] at k; cases k
    have n54 : ¬ o = 54 := fun e => by rw [kind7.2 e] at k; cases k
    have hz : sizeV o = 3 := by unfold sizeV; rw [k]; rfl
    have hn := nd_plain (s := s) (p := q) (by rw [k]; decide) (by rw [k]; decide) hz
    have hle : q + 3 ≤ s.size := by
      by_cases hh : (s.size : Int) < q + 3
      · rw [hn, if_pos hh] at nd; omega
      · omega
    rw [if_neg (by omega)] at hn
    have hc := plain (br_no k0 (by rw [k]; decide) (by rw [k]; decide) (by rw [k]; decide))
    unfold tkC at hc
    rw [k, if_neg (by decide), if_neg (by decide), if_neg (by decide), if_neg (by decide), if_pos rfl] at hc
    have ha : i.a = unsV s (q + 1) 1 := by unfold In.core at hc; injection hc
    have hb : i.b = sigV s (q + 2) 1 := by unfold In.core at hc; injection hc
    have b2 := put 1 (q + 1) i.a ok1 (by omega) (by omega) (Or.inl ha)
    have b3 := put 1 (q + 2) i.b ok1 (by omega) (by omega) (Or.inr hb)
    rw [if_neg n53, if_neg n54, hz, hn, k]
    refine ⟨rfl, ?_⟩
    show putB o 1 ++ putB i.a 1 ++ putB i.b 1 = _
    rw [b1, b2, b3, show q + 1 + 1 = q + 2 by omega, show q + 2 + 1 = q + 3 by omega, cat q (q + 1) (q + 2) q0 (by omega) (by omega) (by omega)]
    exact cat q (q + 2) (q + 3) q0 (by omega) (by omega) hle
  · have h53 := kind6.1 k
    have hn := nd_6 (s := s) (p := q) k
    have hu := uns2_nn s (q + 7)
    have hle : q + 9 ≤ s.size := by
      by_cases hh : (s.size : Int) < q + 9
      · rw [hn, if_pos hh] at nd; omega
      · omega
    rw [if_neg (by omega)] at hn
    have hle2 : q + (9 + 2 * unsV s (q + 7) 2) ≤ s.size := by
      by_cases hh : (s.size : Int) < q + (9 + 2 * unsV s (q + 7) 2)
      · rw [hn, if_pos hh] at nd; omega
      · omega
    rw [if_neg (by omega)] at hn
    have hc := branch (br_kind (Or.inr (Or.inl k)))
    unfold tkC at hc
    rw [k, if_neg (by decide), if_neg (by decide), if_neg (by decide), if_neg (by decide), if_neg (by decide), if_pos rfl] at hc
    obtain ⟨n, hnn⟩ : ∃ n : Nat, unsV s (q + 7) 2 = (n : Int) := ⟨(unsV s (q + 7) 2).toNat, by omega⟩
    have hc1 := hc.1
    unfold In.core at hc1
    injection hc1 with _ ha hb ht hks hts
    rw [hnn] at hle2 hn
    have hcn : (unsV s (q + 7) 2).toNat = n := by rw [hnn, Int.toNat_natCast]
    rw [hcn] at hts
    have hcm := hc.2.2
    simp only [hcn] at hcm
    have htn : i.tn = n := by rw [← htl, hts, List.length_map, nuL_len]
    have b2 := put 2 (q + 1) (plN P i.t) ok2 (by omega) (by omega) (Or.inl (by rw [ht]; exact hP _ hc.2.1))
    have b3 := put 4 (q + 3) i.a ok4 (by omega) (by omega) (Or.inr ha)
    have b4 := put 2 (q + 7) (i.tn : Int) ok2 (by omega) (by omega) (Or.inl (by rw [hnn, htn]))
    have b5 : st6 P i = s.extract q.toNat (q + 9).toNat := by
      unfold st6
      rw [hio, b1, b2, b3, b4, show q + 1 + 2 = q + 3 by omega, show q + 3 + 4 = q + 7 by omega, show q + 7 + 2 = q + 9 by omega, cat q (q + 1) (q + 3) q0 (by omega) (by omega) (by omega), cat q (q + 3) (q + 7) q0 (by omega) (by omega) (by omega), cat q (q + 7) (q + 9) q0 (by omega) (by omega) (by omega)]
    have b6 : ∀ j, j ≤ n → tsF P (st6 P i) (i.ts.take j) = s.extract q.toNat (q + 9 + 2 * (j : Int)).toNat := by
      intro j
      induction j with
      | zero => intro _; rw [List.take_zero, show q + 9 + 2 * ((0 : Nat) : Int) = q + 9 by omega]; exact b5
      | succ j ih =>
        intro hj
        obtain ⟨y, hy⟩ := get_some (l := i.ts) (k := j) (by omega)
        have hyv : y = whI Q (unsV s (q + 9 + 2 * (j : Int)) 2) ∧ unsV s (q + 9 + 2 * (j : Int)) 2 ∈ Q := by
          have hy2 := hy
          rw [hts, List.getElem?_map] at hy2
          have hnj : (nuL (fun k => unsV s (q + 9 + 2 * k) 2) n)[j]? = some (unsV s (q + 9 + 2 * (j : Int)) 2) := by
            unfold nuL; rw [List.getElem?_map, List.getElem?_range (by omega)]; rfl
          rw [hnj] at hy2
          exact ⟨(Option.some.inj hy2).symm, hcm _ (List.mem_of_getElem? hnj)⟩
        have b7 := put 2 (q + 9 + 2 * (j : Int)) (plN P y) ok2 (by omega) (by omega) (Or.inl (by rw [hyv.1]; exact hP _ hyv.2))
        rw [take_snoc hy, tsF_snoc, ih (by omega), b7, show q + 9 + 2 * (j : Int) + 2 = q + 9 + 2 * ((j + 1 : Nat) : Int) by omega]
        exact cat q (q + 9 + 2 * (j : Int)) (q + 9 + 2 * ((j + 1 : Nat) : Int)) q0 (by omega) (by omega) (by omega)
    have b8 := b6 n (Nat.le_refl _)
    rw [List.take_of_length_le (by omega)] at b8
    rw [if_pos h53, hn, k, htn]
    refine ⟨rfl, ?_⟩
    show tsF P (st6 P i) i.ts = _
    rw [b8, show q + 9 + 2 * (n : Int) = q + (9 + 2 * (n : Int)) by omega]
  · have h54 := kind7.1 k
    have hn := nd_7 (s := s) (p := q) k
    have hu := uns2_nn s (q + 3)
    have hle : q + 5 ≤ s.size := by
      by_cases hh : (s.size : Int) < q + 5
      · rw [hn, if_pos hh] at nd; omega
      · omega
    rw [if_neg (by omega)] at hn
    have hle2 : q + (5 + 6 * unsV s (q + 3) 2) ≤ s.size := by
      by_cases hh : (s.size : Int) < q + (5 + 6 * unsV s (q + 3) 2)
      · rw [hn, if_pos hh] at nd; omega
      · omega
    rw [if_neg (by omega)] at hn
    have hc := branch (br_kind (Or.inr (Or.inr k)))
    unfold tkC at hc
    rw [k, if_neg (by decide), if_neg (by decide), if_neg (by decide), if_neg (by decide), if_neg (by decide), if_neg (by decide), if_pos rfl] at hc
    obtain ⟨n, hnn⟩ : ∃ n : Nat, unsV s (q + 3) 2 = (n : Int) := ⟨(unsV s (q + 3) 2).toNat, by omega⟩
    have hc1 := hc.1
    unfold In.core at hc1
    injection hc1 with _ ha hb ht hks hts
    rw [hnn] at hle2 hn
    have hcn : (unsV s (q + 3) 2).toNat = n := by rw [hnn, Int.toNat_natCast]
    rw [hcn] at hts hks
    have hcm := hc.2.2
    simp only [hcn] at hcm
    have htn : i.tn = n := by rw [← htl, hts, List.length_map, nuL_len]
    have hkn : i.kn = n := by rw [← hkl, hks, nuL_len]
    have b2 := put 2 (q + 1) (plN P i.t) ok2 (by omega) (by omega) (Or.inl (by rw [ht]; exact hP _ hc.2.1))
    have b4 := put 2 (q + 3) (i.kn : Int) ok2 (by omega) (by omega) (Or.inl (by rw [hnn, hkn]))
    have b5 : st7 P i = s.extract q.toNat (q + 5).toNat := by
      unfold st7
      rw [hio, b1, b2, b4, show q + 1 + 2 = q + 3 by omega, show q + 3 + 2 = q + 5 by omega, cat q (q + 1) (q + 3) q0 (by omega) (by omega) (by omega), cat q (q + 3) (q + 5) q0 (by omega) (by omega) (by omega)]
    have b6 : ∀ j, j ≤ n → ksF P (st7 P i) ((i.ks.zip i.ts).take j) = s.extract q.toNat (q + 5 + 6 * (j : Int)).toNat := by
      intro j
      induction j with
      | zero => intro _; rw [List.take_zero, show q + 5 + 6 * ((0 : Nat) : Int) = q + 5 by omega]; exact b5
      | succ j ih =>
        intro hj
        obtain ⟨x, hx⟩ := get_some (l := i.ks) (k := j) (by omega)
        obtain ⟨y, hy⟩ := get_some (l := i.ts) (k := j) (by omega)
        have hyv : y = whI Q (unsV s (q + 9 + 6 * (j : Int)) 2) ∧ unsV s (q + 9 + 6 * (j : Int)) 2 ∈ Q := by
          have hy2 := hy
          rw [hts, List.getElem?_map] at hy2
          have hnj : (nuL (fun k => unsV s (q + 9 + 6 * k) 2) n)[j]? = some (unsV s (q + 9 + 6 * (j : Int)) 2) := by
            unfold nuL; rw [List.getElem?_map, List.getElem?_range (by omega)]; rfl
          rw [hnj] at hy2
          exact ⟨(Option.some.inj hy2).symm, hcm _ (List.mem_of_getElem? hnj)⟩
        have hxv : x = sigV s (q + 5 + 6 * (j : Int)) 4 := by
          have hx2 := hx
          have hnj : (nuL (fun k => sigV s (q + 5 + 6 * k) 4) n)[j]? = some (sigV s (q + 5 + 6 * (j : Int)) 4) := by
            unfold nuL; rw [List.getElem?_map, List.getElem?_range (by omega)]; rfl
          rw [hks, hnj] at hx2
          exact (Option.some.inj hx2).symm
        have hz : (i.ks.zip i.ts)[j]? = some (x, y) := by rw [List.getElem?_zip_eq_some]; exact ⟨hx, hy⟩
        have b7 := put 4 (q + 5 + 6 * (j : Int)) x ok4 (by omega) (by omega) (Or.inr hxv)
        have b9 := put 2 (q + 9 + 6 * (j : Int)) (plN P y) ok2 (by omega) (by omega) (Or.inl (by rw [hyv.1]; exact hP _ hyv.2))
        rw [take_snoc hz, ksF_snoc, ih (by omega), b7, b9, show q + 5 + 6 * (j : Int) + 4 = q + 9 + 6 * (j : Int) by omega, show q + 9 + 6 * (j : Int) + 2 = q + 5 + 6 * ((j + 1 : Nat) : Int) by omega, cat q (q + 5 + 6 * (j : Int)) (q + 9 + 6 * (j : Int)) q0 (by omega) (by omega) (by omega)]
        exact cat q (q + 9 + 6 * (j : Int)) (q + 5 + 6 * ((j + 1 : Nat) : Int)) q0 (by omega) (by omega) (by omega)
    have b8 := b6 n (Nat.le_refl _)
    rw [List.take_of_length_le (by rw [List.length_zip]; omega)] at b8
    rw [if_neg (by omega), if_pos h54, hn, k, hkn]
    refine ⟨rfl, ?_⟩
    show ksF P (st7 P i) (i.ks.zip i.ts) = _
    rw [b8, show q + 5 + 6 * (n : Int) = q + (5 + 6 * (n : Int)) by omega]

end Go.Proofs.Ytpghkdmljanncaa

/- InPv -/
/- Layer 8: what Decode has read, Encode writes again, pure. -/
namespace Go.Proofs.Ytpghkdmljanncaa
open Go.ChangeShapes Go.WideShapes Go.ChangeAt Go.RowKit Go.PlainAid
set_option linter.unusedSimpArgs false
set_option linter.unusedVariables false

/-- what a successful decoding has met -/
theorem dc_zero {s : ByteArray} (h : dcE s = 0) : s.size ≤ 20000 ∧ (scA s 0).2 = 0 ∧ (scA s 0).1.length ≤ 1000 ∧ ((scA s 0).1.map Prod.snd).all (inC ((scA s 0).1.map Prod.fst)) = true ∧ chkE ((dcL s).map Co.inn) = 0 := by
  by_cases h1 : 20000 < s.size
  · have := dc_1 h1; omega
  · by_cases h2 : (scA s 0).2 = 0
    · by_cases h3 : 1000 < (scA s 0).1.length
      · have := dc_3 h1 h2 h3; omega
      · cases h4 : ((scA s 0).1.map Prod.snd).all (inC ((scA s 0).1.map Prod.fst)) with
        | false => have := dc_4 h1 h2 h3 h4; omega
        | true =>
          have := dc_5 h1 h2 h3 h4
          exact ⟨by omega, h2, by omega, rfl, by omega⟩
    · have := dc_2 h1 h2; omega
/-- Encode undoes Decode -/
theorem enc_dec {s : ByteArray} (h : dcE s = 0) {M : List In} (hM : M.map In.core = dcL s) (hb : ∀ i ∈ M, i.bare) (hl : ∀ i ∈ M, i.ks.length = i.kn ∧ i.ts.length = i.tn) : enE M = 0 ∧ enS M = s := by
  obtain ⟨hz, h2, hn, hin, hch⟩ := dc_zero h
  obtain ⟨ha, hemp⟩ := scF_at s (s.size + 1) 0 (by omega) (by omega) (by omega) h2
  change (∀ (k : Nat) (q : Int) (c : Co), (scA s 0).1[k]? = some (q, c) → Std s q c ∧ (k = 0 → q = 0) ∧ (∀ (q' : Int) (c' : Co), (scA s 0).1[k + 1]? = some (q', c') → q' = q + ndV s q (bt s q.toNat)) ∧ (k + 1 = (scA s 0).1.length → q + ndV s q (bt s q.toNat) = s.size)) at ha
  change (scA s 0).1 = [] → (0 : Int) = s.size at hemp
  have hord := scF_lt s (s.size + 1) 0
  change (((scA s 0).1.map Prod.fst).Pairwise (· < ·)) ∧ ∀ x ∈ (scA s 0).1.map Prod.fst, 0 ≤ x at hord
  have hlen : M.length = (scA s 0).1.length := by
    have := congrArg List.length hM
    unfold dcL at this
    simpa using this
  obtain ⟨Q, hQ⟩ : ∃ Q, (scA s 0).1.map Prod.fst = Q := ⟨_, rfl⟩
  rw [hQ] at hin hord
  unfold dcL at hM
  rw [hQ] at hM
  have hQl : Q.length = M.length := by rw [← hQ, List.length_map, hlen]
  -- the k-th
  have at' : ∀ (k : Nat) (i : In), M[k]? = some i → ∃ q c, (scA s 0).1[k]? = some (q, c) ∧ Q[k]? = some q ∧ i.core = ixC Q c ∧ inC Q c = true := by
    intro k i hi
    obtain ⟨⟨q, c⟩, hx⟩ := get_some (l := (scA s 0).1) (k := k) (by rw [← hlen]; exact get_lt hi)
    refine ⟨q, c, hx, by rw [← hQ, List.getElem?_map, hx]; rfl, ?_, ?_⟩
    · have : (M.map In.core)[k]? = (((scA s 0).1.map Prod.snd).map (ixC Q))[k]? := by rw [hM]
      rw [List.getElem?_map, hi, List.getElem?_map, List.getElem?_map, hx] at this
      exact Option.some.inj this
    · rw [List.all_eq_true] at hin
      exact hin c (List.mem_of_getElem? (i := k) (by rw [List.getElem?_map, hx]; rfl))
  have hchk : chkE M = 0 := by
    have : (dcL s).map Co.inn = M.map (Co.inn ∘ In.core) := by unfold dcL; rw [hQ, ← hM, List.map_map]
    rw [this, chkE_map (f := Co.inn ∘ In.core) (fun i hi => (ci_core (hb i hi) (hl i hi).1 (hl i hi).2).symm)] at hch
    exact hch
  -- a size that asks for no offsets
  have size_at : ∀ (k : Nat) (i : In) (q : Int) (c : Co), M[k]? = some i → (scA s 0).1[k]? = some (q, c) → i.core = ixC Q c → inC Q c = true → szV i = ndV s q (bt s q.toNat) := by
    intro k i q c hi hx hc hi2
    have hP : ∀ x ∈ Q, plN Q (whI Q x) = x := by
      intro x hx
      unfold plN whI
      rw [if_pos hx, Int.toNat_natCast, List.getD_eq_getElem?_getD]
      have hlt := List.idxOf_lt_length_of_mem hx
      rw [List.getElem?_eq_getElem hlt, List.getElem_idxOf]; rfl
    have hm := hl i (List.mem_of_getElem? hi)
    exact (one_back (P := Q) (ha k q c hx).1 hc hi2 hm.1 hm.2 hP).1
  have atQ : ∀ k, (∀ i, M[k]? = some i → ∃ q c, (scA s 0).1[k]? = some (q, c) ∧ atN M k = q) ∧ (k = M.length → atN M k = s.size) := by
    intro k
    induction k with
    | zero =>
      refine ⟨fun i hi => ?_, fun e => ?_⟩
      · obtain ⟨q, c, hx, _⟩ := at' 0 i hi
        exact ⟨q, c, hx, by rw [(ha 0 q c hx).2.1 rfl]; rfl⟩
      · show (0 : Int) = s.size
        exact hemp (List.eq_nil_of_length_eq_zero (by omega))
    | succ k ih =>
      have step : k < M.length → ∃ i q c, M[k]? = some i ∧ (scA s 0).1[k]? = some (q, c) ∧ atN M (k + 1) = q + ndV s q (bt s q.toNat) := by
        intro hk
        obtain ⟨i, hi⟩ := get_some (l := M) (k := k) hk
        obtain ⟨q, c, hx, hq⟩ := ih.1 i hi
        obtain ⟨q2, c2, hx2, _, hc, hi2⟩ := at' k i hi
        rw [hx] at hx2
        obtain ⟨rfl, rfl⟩ : q = q2 ∧ c = c2 := by have := Option.some.inj hx2; injection this; exact ⟨by assumption, by assumption⟩
        exact ⟨i, q, c, hi, hx, by rw [atN_succ hi, hq, size_at k i q c hi hx hc hi2]⟩
      refine ⟨fun i hi => ?_, fun e => ?_⟩
      · obtain ⟨i0, q, c, hi0, hx, hq⟩ := step (by have := get_lt hi; omega)
        obtain ⟨q', c', hx', _⟩ := at' (k + 1) i hi
        exact ⟨q', c', hx', by rw [hq, (ha k q c hx).2.2.1 q' c' hx']⟩
      · obtain ⟨i0, q, c, hi0, hx, hq⟩ := step (by omega)
        rw [hq, (ha k q c hx).2.2.2 (by omega)]
  have htot := (atQ M.length).2 rfl
  have hof := of_4 hchk (by omega) (by omega : ¬ 20000 < atN M M.length)
  have h0 := hof.1
  have hQat : ∀ (k : Nat), k < M.length → Q[k]? = some (atN M k) := by
    intro k hk
    obtain ⟨i, hi⟩ := get_some (l := M) (k := k) hk
    obtain ⟨q, c, hx, hq⟩ := (atQ k).1 i hi
    rw [← hQ, List.getElem?_map, hx, hq]; rfl
  have hP : ∀ x ∈ Q, plN (ofP M) (whI Q x) = x := by
    intro x hx
    have hlt := List.idxOf_lt_length_of_mem hx
    unfold plN whI
    rw [if_pos hx, Int.toNat_natCast, List.getD_eq_getElem?_getD, ofP_at h0 (by omega)]
    have := hQat (Q.idxOf x) (by omega)
    rw [List.getElem?_eq_getElem hlt, List.getElem_idxOf] at this
    exact (Option.some.inj this).symm
  have htg : tgA M = true := by
    refine tgA_yes fun j i hi x hx => ?_
    obtain ⟨q, c, _, _, hc, hi2⟩ := at' j i hi
    unfold tgL at hx
    by_cases hbr : brB i.op = true
    · rw [if_pos hbr] at hx
      have hcop : c.op = i.op := by
        have : i.core.op = (ixC Q c).op := by rw [hc]
        unfold ixC at this
        split at this <;> exact this.symm
      unfold inC at hi2
      rw [hcop, hbr] at hi2
      simp only [Bool.not_true, Bool.false_or, Bool.and_eq_true, decide_eq_true_eq, List.all_eq_true] at hi2
      unfold ixC at hc
      rw [hcop, if_pos hbr] at hc
      unfold In.core at hc
      injection hc with _ _ _ ht _ hts
      have key : ∀ y ∈ Q, whI Q y < M.length := fun y hy => by
        have := List.idxOf_lt_length_of_mem hy
        unfold whI
        rw [if_pos hy]; omega
      rcases List.mem_cons.1 hx with rfl | hx
      · rw [ht]; exact key _ hi2.1
      · rw [hts] at hx
        obtain ⟨y, hy, rfl⟩ := List.mem_map.1 hx
        exact key y (hi2.2 y hy)
    · rw [if_neg hbr] at hx; cases hx
  have hen := en_3 h0 htg
  refine ⟨hen.1, ?_⟩
  rw [hen.2]
  have build : ∀ k, k ≤ M.length → enP (ofP M) (M.take k) = s.extract 0 (atN M k).toNat := by
    intro k
    induction k with
    | zero => intro _; rw [List.take_zero]; show (⟨#[]⟩ : ByteArray) = s.extract 0 0; apply ByteArray.ext; apply Array.ext'; simp
    | succ k ih =>
      intro hk
      obtain ⟨i, hi⟩ := get_some (l := M) (k := k) (by omega)
      obtain ⟨q, c, hx, hq⟩ := (atQ k).1 i hi
      obtain ⟨q2, c2, hx2, _, hc, hi2⟩ := at' k i hi
      rw [hx] at hx2
      obtain ⟨rfl, rfl⟩ : q = q2 ∧ c = c2 := by have := Option.some.inj hx2; injection this; exact ⟨by assumption, by assumption⟩
      have hm := hl i (List.mem_of_getElem? hi)
      have ob := one_back (P := ofP M) (ha k q c hx).1 hc hi2 hm.1 hm.2 hP
      have hst := (ha k q c hx).1
      have hpos := ndV_pos hst.k0 hst.nd
      rw [enP_take hi, ih (by omega), hq, ob.2, atN_succ hi, hq, ob.1]
      have hq0 := hst.q0
      exact ex_ap (by omega) (by omega) (by omega)
  have := build M.length (Nat.le_refl _)
  rw [List.take_of_length_le (Nat.le_refl _), htot, Int.toNat_natCast] at this
  rw [this]
  apply ByteArray.ext
  apply Array.ext'
  rw [data_extract]
  simp only [List.drop_zero, Nat.sub_zero]
  exact List.take_of_length_le (by rw [len_dt]; exact Nat.le_refl _)

end Go.Proofs.Ytpghkdmljanncaa

/- InLd -/
/- Layer 8: the laws of Decode, of the round trip and of the canonical form. -/
namespace Go.Proofs.Ytpghkdmljanncaa
open Go.ChangeShapes Go.WideShapes Go.ChangeAt Go.RowKit Go.PlainAid
set_option linter.unusedSimpArgs false
set_option linter.unusedVariables false

theorem dcV_len (s : ByteArray) : (dcV s).length ≤ 1000 := by
  unfold dcV
  by_cases h : dcE s = 0
  · rw [if_pos h]
    have := (dc_zero h).2.2.1
    unfold dcL
    simpa using this
  · rw [if_neg h]; simp
theorem ins_lens {w : World} {B : Nat} {A : Option Addr} {L : List In} (h : Ins w B A L) : ∀ i ∈ L, i.ks.length = i.kn ∧ i.ts.length = i.tn := by
  intro i hi
  obtain ⟨j, hj, he⟩ := List.getElem_of_mem hi
  rcases h with h | ⟨g, o, hA, hg, hc⟩
  · rw [h] at hi; cases hi
  · have := (hc j i (by rw [List.getElem?_eq_getElem hj, he])).1
    exact ⟨this.1, this.2.2.2.2.1⟩
theorem dec_all (s : ByteArray) (w : World) : Calls Try.prog 27 #[.string s] w (DecRet w s) := by
  by_cases h : s.size ≤ 1000000
  · exact dec_any s h w
  · have hbig : 20000 < s.size := by omega
    have HX := Lib.hid (dc_1 hbig)
    clear h
    go_enter Try.func27, Try.ntmps27
    go_wp2
    go_ret2
    exact dec_no HX.out (by decide) (Below.refl _ _)
theorem rdec_all (s : ByteArray) (w : World) : Calls Try.prog 28 #[.string s] w (DecRet w s) := by
  by_cases h : s.size ≤ 1000000
  · exact rdec8_any s h w
  · have hbig : 20000 < s.size := by omega
    have HX := Lib.hid (dc_1 hbig)
    clear h
    go_enter Try.func28, Try.ntmps28
    go_wp2
    go_ret2
    exact dec_no HX.out (by decide) (Below.refl _ _)
set_option maxRecDepth 100000 in
set_option maxHeartbeats 2000000 in
theorem decode_yes (s : ByteArray) (hs : ¬ (2000 < s.size ∧ s.size ≤ 20000)) (w : World) : Calls Try.prog 6 #[.string s] w fun e w' => e = .returned (.bool true) ∧ Below w.heap.size w w' := by
  have HB := Lib.hid (Below.refl w.heap.size w)
  have HD := Lib.hid (fun w => dec_all s w)
  have HR := Lib.hid (fun w => rdec_all s w)
  rcases (by omega : s.size ≤ 2000 ∨ (2000 < s.size ∧ 20000 < s.size)) with h | ⟨h1, h2⟩
  all_goals
    clear hs
    go_enter Try.func6, Try.ntmps6
    go_upto_region 4 with (go_at_call 27; refine (HD.out _).mono ?_; rintro e w1 ⟨A, n, c, M, rfl, hI, hn, hc, hbz, hb1⟩; have HI := Lib.hid hI; have HN := Lib.hid hn; have HC := Lib.hid hc; have HZ := Lib.hid hbz; replace HB := Lib.hid (below_on HB.out hb1); clear hI hn hc hbz hb1)
    have hn1 : n ≤ 1000 := by
      have := congrArg List.length HC.out
      rw [List.length_map, HN.out] at this
      have := dcV_len s
      omega
    go_upto_region 5 with (go_at_call 28; refine (HR.out _).mono ?_; rintro e w2 ⟨A2, n2, c2, M2, rfl, hI2, hn2, hc2, hbz2, hb2⟩; obtain rfl : n2 = n := (by have e1 := congrArg List.length HC.out; have e2 := congrArg List.length hc2; rw [List.length_map, HN.out] at e1; rw [List.length_map, hn2] at e2; omega); have HI2 := Lib.hid hI2; have HN2 := Lib.hid hn2; have HC2 := Lib.hid hc2; have HZ2 := Lib.hid hbz2; replace HI := Lib.hid (HI.out.up hb2); replace HB := Lib.hid (below_on HB.out hb2); clear hI2 hn2 hc2 hbz2 hb2)
    go_wp2_with (first | (go_at_call 29; (with_reducible refine (same_yes HN.out HN2.out HI.out HI2.out (HC.out.trans HC2.out.symm) (fun i hi => (HZ.out i hi).1) (fun i hi => (HZ2.out i hi).1) (by omega)).mono ?_); rintro e w3 ⟨rfl, hb1⟩; replace HB := Lib.hid (below_on HB.out hb1); clear hb1) | (go_at_call 15; refine (works_any _).mono ?_; rintro e w6 ⟨rfl, hb1⟩; replace HB := Lib.hid (below_on HB.out hb1); clear hb1))
    all_goals go_ret
    all_goals exact ⟨rfl, HB.out⟩
set_option maxRecDepth 100000 in
theorem decode_law (s : ByteArray) (w : World) : Calls Try.prog 6 #[.string s] w fun e w' => e = .returned (.bool true) ∧ Below w.heap.size w w' := by
  by_cases hs : 2000 < s.size ∧ s.size ≤ 20000
  · obtain ⟨h1, h2⟩ := hs
    go_enter Try.func6, Try.ntmps6
    go_wp2_with (go_at_call 15; refine (works_any _).mono ?_; rintro e w3 ⟨rfl, hb3⟩)
    go_ret
    exact ⟨rfl, hb3⟩
  · exact decode_yes s hs w
set_option maxRecDepth 100000 in
set_option maxHeartbeats 2000000 in
theorem trip_law {A : Option Addr} {n c : Nat} {L : List In} (hn : L.length = n) (hz : ∀ i ∈ L, i.nz) (w : World) (hp : Ins w w.heap.size A L) : Calls Try.prog 7 #[.slice A n c] w fun e w' => e = .returned (.bool true) ∧ Below w.heap.size w w' := by
  have HB := Lib.hid (Below.refl w.heap.size w)
  have HP := Lib.hid hp
  have HN := Lib.hid hn
  have HZ := Lib.hid hz
  have HS := Lib.hid (small_any (c := c) hn hp w (Below.refl _ _))
  clear hp hn hz
  by_cases he : enE L = 0
  · have HEN := Lib.hid (And.intro he (dec_enc he (ins_lens HP.out)))
    have HVB := Lib.hid (fun i (hi : i ∈ L) => valid_bare (i := i) (by
      obtain ⟨j, hj, hje⟩ := List.getElem_of_mem hi
      have h0 : ofE L = 0 := by
        by_cases h1 : ofE L = 0
        · exact h1
        · have := (en_1 h1).1; omega
      exact chkE_all (of_ok h0).1 j i (by rw [List.getElem?_eq_getElem hj, hje])))
    clear he
    go_enter Try.func7, Try.ntmps7
    go_upto_region 2 with (go_at_call 14; refine HS.out.mono ?_; rintro e w2 ⟨b, rfl, hsm, rfl⟩; have HSM := Lib.hid hsm; clear hsm)
    · go_wp2_with (go_at_call 15; refine (works_any _).mono ?_; rintro e w3 ⟨rfl, hb3⟩)
      go_ret
      exact ⟨rfl, hb3⟩
    · have hbb : (!b) = false := by assumption
      obtain rfl : b = true := by simpa using hbb
      have hsm := (HSM.out rfl).1
      rw [HN.out] at hsm
      have hN : n ≤ 1000 := by omega
      clear HSM HS hsm
      go_upto_region 6 with (go_at_call 25; refine (enc_any HN.out hN HZ.out HP.out _ HB.out).mono ?_; rintro e w1 ⟨rfl, hb1⟩; rw [HEN.out.1]; replace HB := Lib.hid (below_on HB.out hb1); clear hb1)
      have HD := Lib.hid (fun w => dec_all (enS L) w)
      go_upto_region 7 with (go_at_call 27; refine (HD.out _).mono ?_; rintro e w2 ⟨A2, n2, c2, M2, rfl, hI2, hn2, hc2, hbz2, hb2⟩; rw [HEN.out.2.1]; rw [HEN.out.2.2] at hc2; obtain rfl : n2 = n := (by have e1 := congrArg List.length hc2; rw [List.length_map, List.length_map, hn2, HN.out] at e1; exact e1); have HI2 := Lib.hid hI2; have HN2 := Lib.hid hn2; have HC2 := Lib.hid hc2; have HZ2 := Lib.hid hbz2; replace HB := Lib.hid (below_on HB.out hb2); clear hI2 hn2 hc2 hbz2 hb2)
      have HI := Lib.hid (HP.out.up HB.out)
      go_wp2_with (first | (go_at_call 29; (with_reducible refine (same_yes HN.out HN2.out HI.out HI2.out HC2.out.symm HVB.out (fun i hi => (HZ2.out i hi).1) (by omega)).mono ?_); rintro e w3 ⟨rfl, hb1⟩; replace HB := Lib.hid (below_on HB.out hb1); clear hb1) | (go_at_call 15; refine (works_any _).mono ?_; rintro e w6 ⟨rfl, hb1⟩; replace HB := Lib.hid (below_on HB.out hb1); clear hb1))
      all_goals go_ret
      all_goals exact ⟨rfl, HB.out⟩
  · have hne := bneT' he
    have hes : enS L = ⟨#[]⟩ := by unfold enS; rw [if_neg he]
    clear he
    go_enter Try.func7, Try.ntmps7
    go_upto_region 2 with (go_at_call 14; refine HS.out.mono ?_; rintro e w2 ⟨b, rfl, hsm, rfl⟩; have HSM := Lib.hid hsm; clear hsm)
    · go_wp2_with (go_at_call 15; refine (works_any _).mono ?_; rintro e w3 ⟨rfl, hb3⟩)
      go_ret
      exact ⟨rfl, hb3⟩
    · have hbb : (!b) = false := by assumption
      obtain rfl : b = true := by simpa using hbb
      have hsm := (HSM.out rfl).1
      rw [HN.out] at hsm
      have hN : n ≤ 1000 := by omega
      clear HSM HS hsm
      go_wp2_with (first | (go_at_call 25; refine (enc_any HN.out hN HZ.out HP.out _ HB.out).mono ?_; rintro e w1 ⟨rfl, hb1⟩; rw [hes]; replace HB := Lib.hid (below_on HB.out hb1); clear hb1) | (go_at_call 15; refine (works_any _).mono ?_; rintro e w6 ⟨rfl, hb1⟩; replace HB := Lib.hid (below_on HB.out hb1); clear hb1))
      all_goals go_ret
      all_goals exact ⟨rfl, HB.out⟩
set_option maxRecDepth 100000 in
set_option maxHeartbeats 2000000 in
theorem canon_law (s : ByteArray) (w : World) : Calls Try.prog 8 #[.string s] w fun e w' => e = .returned (.bool true) ∧ Below w.heap.size w w' := by
  have HB := Lib.hid (Below.refl w.heap.size w)
  by_cases hs : 2000 < s.size
  · go_enter Try.func8, Try.ntmps8
    go_wp2_with (go_at_call 15; refine (works_any _).mono ?_; rintro e w3 ⟨rfl, hb3⟩)
    go_ret
    exact ⟨rfl, hb3⟩
  · have HD := Lib.hid (fun w => dec_all s w)
    by_cases he : dcE s = 0
    · have HE := Lib.hid he
      clear he
      go_enter Try.func8, Try.ntmps8
      go_upto_region 6 with (go_at_call 27; refine (HD.out _).mono ?_; rintro e w1 ⟨A, n, c, M, rfl, hI, hn, hc, hbz, hb1⟩; rw [HE.out]; have HI := Lib.hid hI; have HN := Lib.hid hn; have HC := Lib.hid hc; have HZ := Lib.hid hbz; replace HB := Lib.hid (below_on HB.out hb1); clear hI hn hc hbz hb1)
      have hn1 : n ≤ 1000 := by
        have := congrArg List.length HC.out
        rw [List.length_map, HN.out] at this
        have := dcV_len s
        omega
      have HEN := Lib.hid (enc_dec HE.out (M := M) (by have := HC.out; unfold dcV at this; rw [if_pos HE.out] at this; exact this) (fun i hi => (HZ.out i hi).1) (ins_lens HI.out))
      go_wp2_with (first | (go_at_call 25; refine (enc_any HN.out hn1 (fun i hi => (HZ.out i hi).2) HI.out _ (Below.refl _ _)).mono ?_; rintro e w2 ⟨rfl, hb1⟩; rw [HEN.out.1, HEN.out.2]; replace HB := Lib.hid (below_on HB.out hb1); clear hb1) | (go_at_call 15; refine (works_any _).mono ?_; rintro e w6 ⟨rfl, hb1⟩; replace HB := Lib.hid (below_on HB.out hb1); clear hb1))
      all_goals go_ret
      all_goals exact ⟨rfl, HB.out⟩
    · have hne := bneT' he
      have HV := Lib.hid (show dcV s = [] from if_neg he)
      clear he
      go_enter Try.func8, Try.ntmps8
      go_wp2_with (first | (go_at_call 27; refine (HD.out _).mono ?_; rintro e w1 ⟨A, n, c, M, rfl, hI, hn, hc, hbz, hb1⟩; obtain rfl : n = 0 := (by have e1 := congrArg List.length hc; rw [List.length_map, hn, HV.out] at e1; exact e1); replace HB := Lib.hid (below_on HB.out hb1); clear hI hn hc hbz hb1) | (go_at_call 15; refine (works_any _).mono ?_; rintro e w6 ⟨rfl, hb1⟩; replace HB := Lib.hid (below_on HB.out hb1); clear hb1))
      all_goals go_ret
      all_goals exact ⟨rfl, HB.out⟩

end Go.Proofs.Ytpghkdmljanncaa

/- InOpen -/
/- Layer 8: instructions in memory, opened. -/
namespace Go.Proofs.Ytpghkdmljanncaa
open Go.ChangeShapes Go.WideShapes Go.ChangeAt Go.RowKit Go.Deep
set_option linter.unusedSimpArgs false
set_option linter.unusedVariables false

theorem cellsN : Try.prog.cellsOf 26 = 10 := by kernel_rfl
theorem cellsRf : Try.prog.cellsOf 24 = 3 := by kernel_rfl
theorem cellsI : Try.prog.cellsOf 3 = 1 := by kernel_rfl
theorem cellsS : Try.prog.cellsOf 9 = 1 := by kernel_rfl
theorem cellsL : Try.prog.cellsOf 22 = 1 := by kernel_rfl
theorem cell_lt {w : World} {a : Addr} {v : Value} (h : w.cell? a = some v) : a.block < w.heap.size := by
  rcases Nat.lt_or_ge a.block w.heap.size with hl | hl
  · exact hl
  · rw [World.cell?, Array.getElem?_eq_none hl] at h; simp at h
theorem list10 {α : Type} : ∀ (l : List α), l.length = 10 → ∃ a b c d e f g h i j, l = [a, b, c, d, e, f, g, h, i, j]
  | [a, b, c, d, e, f, g, h, i, j], _ => ⟨a, b, c, d, e, f, g, h, i, j, rfl⟩
theorem list8 {α : Type} : ∀ (l : List α), l.length = 8 → ∃ a b c d e f g h, l = [a, b, c, d, e, f, g, h]
  | [a, b, c, d, e, f, g, h], _ => ⟨a, b, c, d, e, f, g, h, rfl⟩
section
variable {H : Type} {enc : TypeId × Value → H} {w : World} {base : Nat} {spare : Nat → Bool} {held : Bool}
set_option maxRecDepth 100000 in
theorem open_row {fuel : Nat} {cs : List Value} {x : DataW H × List MemPlace} (h : DataW.trod enc Try.prog w base spare held fuel 22 cs = some x) :
    ∃ (A : Option Addr) (n c : Nat) (L : List Int), cs = [.slice A n c] ∧ L.length = n ∧ n ≤ c ∧ c ≤ 9223372036854775807 ∧ Row w w.heap.size A L ∧ (A = none → c = 0) := by
  rcases open_slice1 Try.underlying22 cellsI h with ⟨rfl, _⟩ | ⟨a, len, cap, m, n, V, D, Pl, rfl, hb, hl, hm, hmm, hx, hi⟩
  · exact ⟨none, 0, 0, [], rfl, rfl, Nat.le_refl _, by omega, Or.inl rfl, fun _ => rfl⟩
  · have hlm : len ≤ m := by rw [hmm]; split <;> omega
    have key : ∀ i, i < len → ∃ z : Int, w.cell? (a.add i) = some (.int .i64 z) := by
      intro i hil
      obtain ⟨hc, ht⟩ := hi i (by omega)
      obtain ⟨z, hz, _⟩ := DataW.trod_int Try.underlying3 ht
      simp at hz
      exact ⟨z, by rw [hc, hz]⟩
    obtain ⟨f, hf⟩ : ∃ f : Nat → Int, ∀ i, i < len → w.cell? (a.add i) = some (.int .i64 (f i)) :=
      ⟨fun i => if hi : i < len then (key i hi).choose else 0, fun i hi => by
        simp only [dif_pos hi]
        exact (key i hi).choose_spec⟩
    refine ⟨some a, len, cap, (List.range len).map f, rfl, by simp, hl, by unfold maxLen at hm; exact hm, ?_, fun h => by cases h⟩
    rcases Nat.eq_zero_or_pos len with h0 | h0
    · exact Or.inl (by rw [h0]; rfl)
    · have c0 := hf 0 h0
      obtain ⟨g, o, sp⟩ := a
      have hsp : sp = none := by
        have := World.cell?_spot c0
        simpa [Addr.add] using this
      subst hsp
      refine Or.inr ⟨g, o, rfl, ?_, fun i p hp => ?_⟩
      · have := cell_lt c0
        rw [Addr.add_lit] at this
        exact this
      · rw [List.getElem?_map] at hp
        cases hr : (List.range len)[i]? with
        | none => rw [hr] at hp; cases hp
        | some j =>
          rw [hr] at hp
          have hil : i < len := by
            rcases Nat.lt_or_ge i len with h | h
            · exact h
            · rw [List.getElem?_eq_none (by simpa using h)] at hr; cases hr
          have hj : j = i := by rw [List.getElem?_range hil] at hr; injection hr with hr; exact hr.symm
          subst hj
          injection hp with hp
          subst hp
          have e0 := hf j hil
          rw [Addr.add_lit] at e0
          exact e0
set_option maxRecDepth 100000 in
theorem open_in {fuel : Nat} {cs : List Value} {x : DataW H × List MemPlace} (h : DataW.trod enc Try.prog w base spare held fuel 26 cs = some x) :
    ∃ i : In, cs = icells i ∧ i.ok w w.heap.size ∧ i.nz := by
  obtain ⟨xs, n, _, _, hl, hxl, hg⟩ := DataW.trod_struct Try.underlying26 h
  have h0 := hg 0 _ rfl
  have h1 := hg 1 _ rfl
  have h2 := hg 2 _ rfl
  have h3 := hg 3 _ rfl
  have h4 := hg 4 _ rfl
  have h5 := hg 5 _ rfl
  have h6 := hg 6 _ rfl
  have h7 := hg 7 _ rfl
  rw [cellsN] at hl
  obtain ⟨v0, v1, v2, v3, v4, v5, v6, v7, v8, v9, rfl⟩ := list10 cs hl
  obtain ⟨y0, y1, y2, y3, y4, y5, y6, y7, rfl⟩ := list8 xs hxl
  change DataW.trod enc Try.prog w base spare held n 3 (List.take (Try.prog.cellsOf 3) [v0, v1, v2, v3, v4, v5, v6, v7, v8, v9]) = some y0 at h0
  change DataW.trod enc Try.prog w base spare held n 3 (List.take (Try.prog.cellsOf 3) [v1, v2, v3, v4, v5, v6, v7, v8, v9]) = some y1 at h1
  change DataW.trod enc Try.prog w base spare held n 3 (List.take (Try.prog.cellsOf 3) [v2, v3, v4, v5, v6, v7, v8, v9]) = some y2 at h2
  change DataW.trod enc Try.prog w base spare held n 3 (List.take (Try.prog.cellsOf 3) [v3, v4, v5, v6, v7, v8, v9]) = some y3 at h3
  change DataW.trod enc Try.prog w base spare held n 22 (List.take (Try.prog.cellsOf 22) [v4, v5, v6, v7, v8, v9]) = some y4 at h4
  change DataW.trod enc Try.prog w base spare held n 22 (List.take (Try.prog.cellsOf 22) [v5, v6, v7, v8, v9]) = some y5 at h5
  change DataW.trod enc Try.prog w base spare held n 24 (List.take (Try.prog.cellsOf 24) [v6, v7, v8, v9]) = some y6 at h6
  change DataW.trod enc Try.prog w base spare held n 9 (List.take (Try.prog.cellsOf 9) [v9]) = some y7 at h7
  rw [cellsI] at h0 h1 h2 h3
  rw [cellsL] at h4 h5
  rw [cellsRf] at h6
  rw [cellsS] at h7
  obtain ⟨a0, e0, _, _⟩ := DataW.trod_int Try.underlying3 h0
  obtain ⟨a1, e1, _, _⟩ := DataW.trod_int Try.underlying3 h1
  obtain ⟨a2, e2, _, _⟩ := DataW.trod_int Try.underlying3 h2
  obtain ⟨a3, e3, _, _⟩ := DataW.trod_int Try.underlying3 h3
  obtain ⟨A4, n4, c4, L4, e4, l4, k4, m4, r4, z4⟩ := open_row h4
  obtain ⟨A5, n5, c5, L5, e5, l5, k5, m5, r5, z5⟩ := open_row h5
  obtain ⟨u0, u1, u2, n6, _, _, g0, g1, g2⟩ := trod_struct3 Try.underlying24 h6
  simp only [cellsS] at g0 g1 g2
  obtain ⟨s0, f0, _, _⟩ := DataW.trod_string Try.underlying9 g0
  obtain ⟨s1, f1, _, _⟩ := DataW.trod_string Try.underlying9 g1
  obtain ⟨s2, f2, _, _⟩ := DataW.trod_string Try.underlying9 g2
  obtain ⟨s3, f3, _, _⟩ := DataW.trod_string Try.underlying9 h7
  simp at e0 e1 e2 e3 e4 e5 f0 f1 f2 f3
  subst e0 e1 e2 e3 e4 e5 f0 f1 f2 f3
  exact ⟨⟨a0, a1, a2, a3, A4, n4, c4, L4, A5, n5, c5, L5, s0, s1, s2, s3⟩, rfl, ⟨l4, k4, m4, r4, l5, k5, m5, r5⟩, z4, z5⟩
set_option maxRecDepth 100000 in
theorem open_ins {fuel : Nat} {cs : List Value} {x : DataW H × List MemPlace} (h : DataW.trod enc Try.prog w base spare held fuel 28 cs = some x) :
    ∃ (A : Option Addr) (n c : Nat) (L : List In), cs = [.slice A n c] ∧ L.length = n ∧ n ≤ c ∧ Ins w w.heap.size A L ∧ ∀ i ∈ L, i.nz := by
  rcases open_slice Try.underlying28 h with ⟨rfl, _⟩ | ⟨a, len, cap, m, n, D, Pl, rfl, hb, hl, hm, hmm, hx, hi⟩
  · exact ⟨none, 0, 0, [], rfl, rfl, Nat.le_refl _, Or.inl rfl, fun p hp => by cases hp⟩
  · have hlm : len ≤ m := by rw [hmm]; split <;> omega
    have key : ∀ i, i < len → ∃ p : In, (∀ j v, (icells p)[j]? = some v → w.cell? (a.add (i * 10 + j)) = some v) ∧ p.ok w w.heap.size ∧ p.nz := by
      intro i hil
      obtain ⟨cs', hc, ht⟩ := hi i (by omega)
      rw [cellsN] at hc
      obtain ⟨p, rfl, hp, hz⟩ := open_in ht
      obtain ⟨_, _, hat⟩ := World.cells?_some hc
      refine ⟨p, fun j v hv => ?_, hp, hz⟩
      have hj : j < 10 := by
        rcases Nat.lt_or_ge j 10 with h | h
        · exact h
        · rw [List.getElem?_eq_none (by simpa [icells] using h)] at hv; cases hv
      have := hat j (by simpa using hj)
      rw [add_add] at this
      rw [this, hv]
    obtain ⟨f, hf⟩ : ∃ f : Nat → In, ∀ i, i < len → (∀ j v, (icells (f i))[j]? = some v → w.cell? (a.add (i * 10 + j)) = some v) ∧ (f i).ok w w.heap.size ∧ (f i).nz :=
      ⟨fun i => if hi : i < len then (key i hi).choose else ⟨0, 0, 0, 0, none, 0, 0, [], none, 0, 0, [], ⟨#[]⟩, ⟨#[]⟩, ⟨#[]⟩, ⟨#[]⟩⟩, fun i hi => by
        simp only [dif_pos hi]
        exact (key i hi).choose_spec⟩
    refine ⟨some a, len, cap, (List.range len).map f, rfl, by simp, hl, ?_, ?_⟩
    · rcases Nat.eq_zero_or_pos len with h0 | h0
      · exact Or.inl (by rw [h0]; rfl)
      · have c0 := (hf 0 h0).1 0 _ rfl
        obtain ⟨g, o, sp⟩ := a
        have hsp : sp = none := by
          have := World.cell?_spot c0
          simpa [Addr.add] using this
        subst hsp
        refine Or.inr ⟨g, o, rfl, ?_, fun i p hp => ?_⟩
        · have := cell_lt c0
          rw [Addr.add_lit] at this
          exact this
        · rw [List.getElem?_map] at hp
          cases hr : (List.range len)[i]? with
          | none => rw [hr] at hp; cases hp
          | some j =>
            rw [hr] at hp
            have hil : i < len := by
              rcases Nat.lt_or_ge i len with h | h
              · exact h
              · rw [List.getElem?_eq_none (by simpa using h)] at hr; cases hr
            have hj : j = i := by rw [List.getElem?_range hil] at hr; injection hr with hr; exact hr.symm
            subst hj
            injection hp with hp
            subst hp
            obtain ⟨e, ok, _⟩ := hf j hil
            have at' : ∀ q v, (icells (f j))[q]? = some v → w.cell? ⟨g, o + j * 10 + q, none⟩ = some v := by
              intro q v hv
              have := e q v hv
              rw [Addr.add_lit] at this
              rw [show o + j * 10 + q = o + (j * 10 + q) by omega]
              exact this
            exact ⟨ok, at' 0 _ rfl, at' 1 _ rfl, at' 2 _ rfl, at' 3 _ rfl, at' 4 _ rfl, at' 5 _ rfl, at' 6 _ rfl, at' 7 _ rfl, at' 8 _ rfl, at' 9 _ rfl⟩
    · intro p hp
      rw [List.mem_map] at hp
      obtain ⟨j, hj, rfl⟩ := hp
      exact (hf j (List.mem_range.1 hj)).2.2
set_option maxRecDepth 100000 in
theorem open_ins_of {r : Reach} {b0 : Nat} {v : Value} {d : DataW H} {q : List MemPlace} (hv : Value.okWide Try.prog w r b0 28 v) (h : DataW.Trod enc Try.prog w base spare held 28 v d q) :
    ∃ (A : Option Addr) (n c : Nat) (L : List In), v = .slice A n c ∧ L.length = n ∧ n ≤ c ∧ Ins w w.heap.size A L ∧ ∀ i ∈ L, i.nz := by
  obtain ⟨a, len, cap, rfl⟩ := okWide_slice Try.underlying28 hv
  obtain ⟨fuel, hf⟩ := h
  obtain ⟨A, n, c, L, e, hn, hc, ht, hs⟩ := open_ins hf
  have e' : (.slice a len cap : Value) = .slice A n c := by simpa [Value.cells] using e
  exact ⟨A, n, c, L, e', hn, hc, ht, hs⟩
set_option maxRecDepth 100000 in
theorem open_in_of {r : Reach} {b0 : Nat} {v : Value} {d : DataW H} {q : List MemPlace} (hv : Value.okWide Try.prog w r b0 26 v) (h : DataW.Trod enc Try.prog w base spare held 26 v d q) :
    ∃ i : In, v = (Value.agg #[Value.int IntKind.i64 (In.op i), Value.int IntKind.i64 (In.a i), Value.int IntKind.i64 (In.b i), Value.int IntKind.i64 (In.t i), Value.slice (In.kA i) (In.kn i) (In.kc i), Value.slice (In.tA i) (In.tn i) (In.tc i), Value.string (In.r1 i), Value.string (In.r2 i), Value.string (In.r3 i), Value.string (In.s i)]) ∧ i.ok w w.heap.size ∧ i.nz := by
  obtain ⟨cs, rfl, hsz⟩ := okWide_struct Try.underlying26 hv
  obtain ⟨fuel, hf⟩ := h
  obtain ⟨p, e, hp, hz⟩ := open_in hf
  refine ⟨p, ?_, hp, hz⟩
  have e' : cs.toList = icells p := by simpa [Value.cells] using e
  have : cs = (icells p).toArray := by rw [← e']
  rw [this]; rfl
end

end Go.Proofs.Ytpghkdmljanncaa
