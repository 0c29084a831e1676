import Derived.Test.YtfcefeepkpkcmaaDoorPcB
import Derived.Test.YtfcefeepkpkcmaaDoorPcA
import Derived.Test.YtfcefeepkpkcmaaDoorPcC
import Derived.Test.YtfcefeepkpkcmaaDoorPoolWts

/- PcPure -/
/- Layer 6: what is written is read again, and what is read is written again. -/
namespace Go.Proofs.YtfcefeepkpkcmaaDoor
open Go.ChangeShapes Go.WideShapes Go.ChangeAt Go.RowKit Go.PlainAid
set_option linter.unusedSimpArgs false
set_option linter.unusedVariables false

def Rng (p : Cn) : Prop := -9223372036854775808 ≤ p.n ∧ p.n ≤ 9223372036854775807

/- bytes -/
theorem bt_at {s : ByteArray} {k : Nat} (h : k < s.data.toList.length) : bt s k = ((s.data.toList[k]).toNat : Int) := by
  rw [bt_dataO, List.getD_eq_getElem?_getD, List.getElem?_eq_getElem h]; rfl
theorem len_dt (s : ByteArray) : s.data.toList.length = s.size := by simp
theorem bt_ext {a b : ByteArray} (hs : a.size = b.size) (h : ∀ i, i < a.size → bt a i = bt b i) : a = b := by
  apply ByteArray.ext
  apply Array.ext'
  apply List.ext_getElem
  · rw [len_dt, len_dt]; exact hs
  · intro i h1 h2
    have := h i (by rwa [len_dt] at h1)
    rw [bt_at h1, bt_at h2] at this
    exact UInt8.toNat_inj.1 (by omega)
theorem bt_ex {s : ByteArray} {p q i : Nat} (hq : q ≤ s.size) (h : p + i < q) : bt (s.extract p q) i = bt s (p + i) := by
  have hl : (s.extract p q).data.toList = (s.data.toList.drop p).take (q - p) := data_extract s p q
  rw [bt_dataO, bt_dataO, hl]
  rw [List.getD_eq_getElem?_getD, List.getD_eq_getElem?_getD, List.getElem?_take, if_pos (by omega), List.getElem?_drop]
theorem sz_ex {s : ByteArray} {p q : Nat} (hp : p ≤ q) (hq : q ≤ s.size) : (s.extract p q).size = q - p := by
  rw [ByteArray.size_extract]; omega
theorem ex_ap {s : ByteArray} {a b c : Nat} (h1 : a ≤ b) (h2 : b ≤ c) (h3 : c ≤ s.size) : s.extract a b ++ s.extract b c = s.extract a c := by
  refine bt_ext (by rw [ByteArray.size_append, sz_ex h1 (by omega), sz_ex h2 h3, sz_ex (by omega) h3]; omega) fun i hi => ?_
  rw [ByteArray.size_append, sz_ex h1 (by omega), sz_ex h2 h3] at hi
  rw [bt_ex h3 (by omega)]
  rcases Nat.lt_or_ge i (b - a) with h | h
  · rw [bt_left _ _ _ (by rw [sz_ex h1 (by omega)]; exact h), bt_ex (by omega) (by omega)]
  · have e : i = (s.extract a b).size + (i - (b - a)) := by rw [sz_ex h1 (by omega)]; omega
    rw [e, bt_right, bt_ex h3 (by omega), sz_ex h1 (by omega)]
    congr 1; omega

/- reading -/
theorem un_v {s : ByteArray} {p z : Int} (h : unsE s p z = 0) : unsV s p z = rdU (fromB s p.toNat) z.toNat := by unfold unsV; rw [if_pos h]
theorem un_in {s : ByteArray} {p z : Int} (hz : okSize z) (h0 : 0 ≤ p) (h1 : p + z ≤ s.size) : unsE s p z = 0 := by
  have : 0 < z := by unfold okSize at hz; omega
  unfold unsE
  rw [if_neg (by simpa using hz), if_neg (by omega), if_neg (by omega)]
theorem un_3 {s : ByteArray} {p z : Int} (hz : okSize z) (h0 : 0 ≤ p ∧ p ≤ s.size) (h1 : s.size < p + z) : unsE s p z = 3 := by
  unfold unsE
  rw [if_neg (by simpa using hz), if_neg (by omega), if_pos (by omega)]
theorem rd_eq {f g : Nat → Int} : ∀ z : Nat, (∀ i, i < z → f i = g i) → rdU f z = rdU g z
  | 0, _ => rfl
  | z + 1, h => by
    unfold rdU
    rw [rd_eq z (fun i hi => h i (by omega)), h z (by omega)]

/- b stands in s at p -/
def Sits (s : ByteArray) (p : Nat) (b : ByteArray) : Prop := p + b.size ≤ s.size ∧ ∀ i, i < b.size → bt s (p + i) = bt b i
theorem sits_mid (x b y : ByteArray) : Sits (x ++ b ++ y) x.size b := by
  refine ⟨by rw [ByteArray.size_append, ByteArray.size_append]; omega, fun i hi => mid_bytes x b y i hi⟩
theorem Sits.left {s a b : ByteArray} {p : Nat} (h : Sits s p (a ++ b)) : Sits s p a := by
  refine ⟨by have := h.1; rw [ByteArray.size_append] at this; omega, fun i hi => ?_⟩
  rw [h.2 i (by rw [ByteArray.size_append]; omega), bt_left _ _ _ hi]
theorem Sits.right {s a b : ByteArray} {p : Nat} (h : Sits s p (a ++ b)) : Sits s (p + a.size) b := by
  refine ⟨by have := h.1; rw [ByteArray.size_append] at this; omega, fun i hi => ?_⟩
  rw [Nat.add_assoc, h.2 _ (by rw [ByteArray.size_append]; omega), bt_right]
theorem Sits.cut {s b : ByteArray} {p : Nat} (h : Sits s p b) : s.extract p (p + b.size) = b := by
  have h1 := h.1
  refine bt_ext (by rw [sz_ex (by omega) h1]; omega) fun i hi => ?_
  rw [sz_ex (by omega) h1] at hi
  rw [bt_ex h1 (by omega), h.2 i (by omega)]
theorem putB_ok {n z : Int} (hz : okSize z) (hf : fitsP n z) : putB n z = strOfNums (putL n z) := by unfold putB; rw [if_pos ⟨hz, hf⟩]
theorem putB_sz {n z : Int} (hz : okSize z) (hf : fitsP n z) : ((putB n z).size : Int) = z := by
  rw [putB_ok hz hf, strOfNums_size, putL_len n z hz]
  have : 0 < z := by unfold okSize at hz; omega
  omega
theorem Sits.uns {s : ByteArray} {p : Nat} {n z : Int} (hz : okSize z) (hf : fitsP n z) (hn : -9223372036854775808 ≤ n ∧ n ≤ 9223372036854775807) (h : Sits s p (putB n z)) : unsE s p z = 0 ∧ unsV s p z = unsOf n z := by
  have hsz := putB_sz hz hf
  have h1 := h.1
  have e := un_in (s := s) (p := p) hz (by omega) (by omega)
  refine ⟨e, ?_⟩
  rw [un_v e]
  obtain ⟨y, rfl⟩ : ∃ y : Nat, z = y := ⟨z.toNat, by unfold okSize at hz; omega⟩
  rw [Int.toNat_natCast, Int.toNat_natCast]
  refine rd_put _ n y hz hn fun i hi => ?_
  unfold fromB
  rw [h.2 i (by omega), putB_ok hz hf, bt_nums _ _ (by rw [putL_len n y hz]; exact hi) (putL_bd n y i)]
theorem Sits.str {s t : ByteArray} {p : Nat} (ht : t.size ≤ 65535) (h : Sits s p (psB t)) : gsE s p = 0 ∧ gsB s p = t ∧ gsN s p = p + (psB t).size := by
  have hf : fitsP t.size 2 := by unfold fitsP; omega
  have e : psB t = putB t.size 2 ++ t := by unfold psB; rw [if_pos ht, putB_ok ok2 hf]
  rw [e] at h ⊢
  have hu := h.left.uns ok2 hf (by omega)
  have hsz := putB_sz ok2 hf
  have hr := h.right
  have h1 := h.1
  rw [ByteArray.size_append] at h1
  have hv : unsV s p 2 = t.size := by rw [hu.2]; unfold unsOf; rw [if_neg (by decide), if_pos rfl]; omega
  have hE : gsE s p = 0 := by unfold gsE; rw [if_neg (by simpa using hu.1), if_neg (by omega)]
  refine ⟨hE, ?_, ?_⟩
  · unfold gsB
    rw [if_pos hE, hv]
    have := hr.cut
    rw [show ((p : Int) + 2).toNat = p + (putB t.size 2).size by omega, show ((p : Int) + 2 + t.size).toNat = p + (putB t.size 2).size + t.size by omega]
    exact this
  · unfold gsN
    rw [if_pos hE, hv, ByteArray.size_append]
    omega

/-- a constant that its own bytes say -/
def Good (c : Cn) : Prop :=
  (c.t = 1 ∧ c.n = 0 ∧ c.a = 0 ∧ c.b = 0 ∧ c.s.size ≤ 1024) ∨ (c.t = 3 ∧ c.s = ⟨#[]⟩ ∧ c.a = 0 ∧ c.b = 0 ∧ -2147483648 ≤ c.n ∧ c.n ≤ 2147483647)
    ∨ (c.t = 5 ∧ c.s = ⟨#[]⟩ ∧ c.a = 0 ∧ c.b = 0 ∧ Rng c)
    ∨ ((c.t = 7 ∨ c.t = 8) ∧ c.s = ⟨#[]⟩ ∧ c.n = 0 ∧ c.b = 0 ∧ 0 ≤ c.a ∧ c.a ≤ 65535)
    ∨ ((9 ≤ c.t ∧ c.t ≤ 12) ∧ c.s = ⟨#[]⟩ ∧ c.n = 0 ∧ 0 ≤ c.a ∧ c.a ≤ 65535 ∧ 0 ≤ c.b ∧ c.b ≤ 65535)
theorem fit1 {t : Int} (h : 0 ≤ t ∧ t ≤ 255) : fitsP t 1 := by unfold fitsP; omega
theorem fit2 {t : Int} (h : 0 ≤ t ∧ t ≤ 65535) : fitsP t 2 := by unfold fitsP; omega
theorem of2 {t : Int} (h : 0 ≤ t ∧ t ≤ 65535) : unsOf t 2 = t := by unfold unsOf; rw [if_neg (by decide), if_pos rfl]; omega
theorem of1 {t : Int} (h : 0 ≤ t ∧ t ≤ 255) : unsOf t 1 = t := by unfold unsOf; rw [if_pos rfl]; omega
theorem good_put {s : ByteArray} {p : Nat} {c : Cn} (hc : Good c) (h : Sits s p (enc1 c)) : dcE s p = 0 ∧ dcC s p = c ∧ dcN s p = p + (enc1 c).size := by
  obtain ⟨t, x, m, a, b⟩ := c
  have ht : 0 ≤ t ∧ t ≤ 255 := by unfold Good at hc; simp only at hc; omega
  have z1 := putB_sz ok1 (fit1 ht)
  have key : ∀ y, enc1 ⟨t, x, m, a, b⟩ = putB t 1 ++ y → unsE s p 1 = 0 ∧ unsV s p 1 = t ∧ Sits s (p + 1) y ∧ ((enc1 ⟨t, x, m, a, b⟩).size : Int) = 1 + y.size := by
    intro y hy
    rw [hy] at h ⊢
    have hu := h.left.uns ok1 (fit1 ht) (by omega)
    rw [of1 ht] at hu
    refine ⟨hu.1, hu.2, ?_, by rw [ByteArray.size_append]; omega⟩
    have := h.right
    rwa [show p + (putB t 1).size = p + 1 by omega] at this
  rcases hc with ⟨h1, h2, h3, h4, h5⟩ | ⟨h1, h2, h3, h4, h5⟩ | ⟨h1, h2, h3, h4, h5⟩ | ⟨h1, h2, h3, h4, h5⟩ | ⟨h1, h2, h3, h4, h5, h6⟩
  all_goals simp only at h1 h2 h3 h4
  · subst h1 h2 h3 h4
    simp only at h5
    obtain ⟨k1, k2, k3, k4⟩ := key _ (e1_1 (c := ⟨1, x, 0, 0, 0⟩) rfl)
    replace k3 : Sits s (p + 1) (psB x) := k3
    obtain ⟨g1, g2, g3⟩ := dw_1 k1 k2
    obtain ⟨q1, q2, q3⟩ := Sits.str (by omega) k3
    rw [g1, g2, g3, k2]
    have e : ((p + 1 : Nat) : Int) = (p : Int) + 1 := by omega
    rw [e] at q1 q2 q3
    exact ⟨q1, by rw [q2], by rw [q3, k4]; show (p : Int) + 1 + (psB x).size = p + (1 + (psB x).size); omega⟩
  · subst h1 h2 h3 h4
    simp only at h5
    obtain ⟨k1, k2, k3, k4⟩ := key _ (e1_3 (c := ⟨3, ⟨#[]⟩, m, 0, 0⟩) rfl rfl)
    obtain ⟨g1, g2, g3⟩ := dw_3 k1 k2
    have hf : fitsP m 4 := by unfold fitsP; omega
    have q := Sits.uns ok4 hf (by omega) k3
    have e : ((p + 1 : Nat) : Int) = (p : Int) + 1 := by omega
    rw [e] at q
    have z4 := putB_sz ok4 hf
    rw [g1, g2, g3, k2]
    refine ⟨q.1, ?_, by rw [k4]; simp only; omega⟩
    have : sigV s ((p : Int) + 1) 4 = m := by
      unfold sigV; rw [q.2]
      unfold sgn unsOf
      simp
      omega
    rw [this]
  · subst h1 h2 h3 h4
    simp only [Rng] at h5
    obtain ⟨k1, k2, k3, k4⟩ := key _ (e1_5 (c := ⟨5, ⟨#[]⟩, m, 0, 0⟩) rfl rfl rfl)
    obtain ⟨g1, g2, g3⟩ := dw_5 k1 k2
    have hf : fitsP m 8 := Or.inl rfl
    have q := Sits.uns ok8 hf h5 k3
    have e : ((p + 1 : Nat) : Int) = (p : Int) + 1 := by omega
    rw [e] at q
    have z4 := putB_sz ok8 hf
    rw [g1, g2, g3, k2]
    refine ⟨q.1, ?_, by rw [k4]; simp only; omega⟩
    have : sigV s ((p : Int) + 1) 8 = m := by
      unfold sigV; rw [q.2]
      unfold sgn unsOf
      simp
    rw [this]
  · subst h2 h3 h4
    simp only at h5
    obtain ⟨k1, k2, k3, k4⟩ := key (putB a 2) (by rcases h1 with rfl | rfl; exact e1_7 (c := ⟨7, ⟨#[]⟩, 0, a, 0⟩) rfl rfl rfl (Or.inl rfl); exact e1_7 (c := ⟨8, ⟨#[]⟩, 0, a, 0⟩) rfl rfl rfl (Or.inr rfl))
    obtain ⟨g1, g2, g3⟩ := dw_7 k1 (k2.symm ▸ h1)
    have q := Sits.uns ok2 (fit2 h5) (by omega) k3
    have e : ((p + 1 : Nat) : Int) = (p : Int) + 1 := by omega
    rw [e, of2 h5] at q
    have z4 := putB_sz ok2 (fit2 h5)
    rw [g1, g2, g3, k2]
    exact ⟨q.1, by rw [q.2], by rw [k4]; omega⟩
  · subst h2 h3
    simp only at h4 h5 h6
    have hm : enc1 ⟨t, ⟨#[]⟩, 0, a, b⟩ = putB t 1 ++ (putB a 2 ++ putB b 2) := by
      have e : ∀ k : Int, k < 9 → (t == k) = false := fun k hk => by simpa using (by omega : ¬ t = k)
      exact e1_m (c := ⟨t, ⟨#[]⟩, 0, a, b⟩) (e 1 (by decide)) (e 3 (by decide)) (e 5 (by decide)) (e 7 (by decide)) (e 8 (by decide))
    obtain ⟨k1, k2, k3, k4⟩ := key _ hm
    have ha : 0 ≤ a ∧ a ≤ 65535 := by omega
    have hb : 0 ≤ b ∧ b ≤ 65535 := by omega
    have za := putB_sz ok2 (fit2 ha)
    have zb := putB_sz ok2 (fit2 hb)
    have qa := Sits.uns ok2 (fit2 ha) (by omega) k3.left
    have qb := Sits.uns ok2 (fit2 hb) (by omega) k3.right
    have e : ((p + 1 : Nat) : Int) = (p : Int) + 1 := by omega
    have e3 : ((p + 1 + (putB a 2).size : Nat) : Int) = (p : Int) + 3 := by omega
    rw [e, of2 ha] at qa
    rw [e3, of2 hb] at qb
    obtain ⟨g1, g2, g3⟩ := dw_m k1 (k2.symm ▸ h1) qa.1
    rw [g1, g2, g3, k2, qa.2, qb.2]
    exact ⟨qb.1, rfl, by rw [k4, ByteArray.size_append]; omega⟩

theorem fm_parts {t m a b : Int} {s : ByteArray} (h : fmB t s m a b = true) : (t = 1 ∨ s = ⟨#[]⟩) ∧ (t = 3 ∨ t = 5 ∨ m = 0) ∧ (t = 7 ∨ t = 8 ∨ t = 12 ∨ mtB t = true ∨ a = 0) ∧ (t = 12 ∨ mtB t = true ∨ b = 0) := by
  unfold fmB at h
  simp only [Bool.and_eq_true, Bool.or_eq_true, beq_iff_eq] at h
  obtain ⟨h1, h2, h3, h4⟩ := h
  refine ⟨h1.imp id (fun e => s_nil.2 e), ?_, ?_, ?_⟩
  · rcases h2 with (h | h) | h <;> simp [h]
  · rcases h3 with (((h | h) | h) | h) | h <;> simp [h]
  · rcases h4 with (h | h) | h <;> simp [h]
theorem tg_ix {L : List Cn} {i t : Int} (hl : L.length ≤ 1000) (h : tgE L i t = 0) : 0 ≤ i ∧ i ≤ 65535 := by
  obtain ⟨k, p, h1, h2, _⟩ := tg_here h
  omega
theorem ix_zero {L : List Cn} {t a b : Int} (h : ixE L t a b = 0) : bxE L t a b = 0 := by
  by_cases h1 : bxE L t a b = 0
  · exact h1
  · rw [ix_bad h1] at h; exact absurd h h1
theorem ck_good {L : List Cn} (hl : L.length ≤ 1000) {c : Cn} (hr : Rng c) (h : ck L c = 0) : Good c := by
  obtain ⟨t, x, m, a, b⟩ := c
  replace h : ckE L t x m a b = 0 := h
  cases hk : knB t with
  | false => rw [ck_un hk] at h; cases h
  | true =>
    cases hf : fmB t x m a b with
    | false => rw [ck_mal hk hf] at h; cases h
    | true =>
      obtain ⟨f1, f2, f3, f4⟩ := fm_parts hf
      rcases kn_cases hk with rfl | rfl | rfl | rfl | rfl | rfl | rfl | rfl | rfl
      · left
        have e3 : a = 0 := by rcases f3 with h | h | h | h | h <;> first | exact h | (exact absurd h (by decide))
        have e4 : b = 0 := by rcases f4 with h | h | h <;> first | exact h | (exact absurd h (by decide))
        have e2 : m = 0 := by rcases f2 with h | h | h <;> first | exact h | (exact absurd h (by decide))
        refine ⟨rfl, e2, e3, e4, ?_⟩
        show x.size ≤ 1024
        rcases Nat.lt_or_ge 1024 x.size with h1 | h1
        · rw [ck1_8 hf h1] at h; cases h
        · exact h1
      · right; left
        have e1 : x = ⟨#[]⟩ := by rcases f1 with h | h <;> first | exact h | (exact absurd h (by decide))
        have e3 : a = 0 := by rcases f3 with h | h | h | h | h <;> first | exact h | (exact absurd h (by decide))
        have e4 : b = 0 := by rcases f4 with h | h | h <;> first | exact h | (exact absurd h (by decide))
        refine ⟨rfl, e1, e3, e4, ?_⟩
        by_cases h1 : -2147483648 ≤ m ∧ m ≤ 2147483647
        · exact h1
        · rw [ck3_8 hf h1] at h; cases h
      · right; right; left
        have e1 : x = ⟨#[]⟩ := by rcases f1 with h | h <;> first | exact h | (exact absurd h (by decide))
        have e3 : a = 0 := by rcases f3 with h | h | h | h | h <;> first | exact h | (exact absurd h (by decide))
        have e4 : b = 0 := by rcases f4 with h | h | h <;> first | exact h | (exact absurd h (by decide))
        exact ⟨rfl, e1, e3, e4, hr⟩
      · right; right; right; left
        have e1 : x = ⟨#[]⟩ := by rcases f1 with h | h <;> first | exact h | (exact absurd h (by decide))
        have e2 : m = 0 := by rcases f2 with h | h | h <;> first | exact h | (exact absurd h (by decide))
        have e4 : b = 0 := by rcases f4 with h | h | h <;> first | exact h | (exact absurd h (by decide))
        rw [ck_ix (by decide) hk hf] at h
        have h1 := ix_zero h
        rw [bx7] at h1
        exact ⟨Or.inl rfl, e1, e2, e4, tg_ix hl h1⟩
      · right; right; right; left
        have e1 : x = ⟨#[]⟩ := by rcases f1 with h | h <;> first | exact h | (exact absurd h (by decide))
        have e2 : m = 0 := by rcases f2 with h | h | h <;> first | exact h | (exact absurd h (by decide))
        have e4 : b = 0 := by rcases f4 with h | h | h <;> first | exact h | (exact absurd h (by decide))
        rw [ck_ix (by decide) hk hf] at h
        have h1 := ix_zero h
        rw [bx8] at h1
        exact ⟨Or.inr rfl, e1, e2, e4, tg_ix hl h1⟩
      · right; right; right; right
        have e1 : x = ⟨#[]⟩ := by rcases f1 with h | h <;> first | exact h | (exact absurd h (by decide))
        have e2 : m = 0 := by rcases f2 with h | h | h <;> first | exact h | (exact absurd h (by decide))
        rw [ck_ix (by decide) hk hf] at h
        have h1 := ix_zero h
        have ha : tgE L a 1 = 0 := by
          by_cases hx : tgE L a 1 = 0
          · exact hx
          · rw [bx12_1 hx] at h1; exact absurd h1 hx
        rw [bx12_2 ha] at h1
        have qa := tg_ix hl ha
        have qb := tg_ix hl h1
        exact ⟨⟨by dsimp only; decide, by dsimp only; decide⟩, e1, e2, qa.1, qa.2, qb.1, qb.2⟩
      all_goals
        right; right; right; right
        have e1 : x = ⟨#[]⟩ := by rcases f1 with h | h <;> first | exact h | (exact absurd h (by decide))
        have e2 : m = 0 := by rcases f2 with h | h | h <;> first | exact h | (exact absurd h (by decide))
        rw [ck_ix (by decide) hk hf] at h
        have h1 := ix_zero h
        have ha : tgE L a 7 = 0 := by
          by_cases hx : tgE L a 7 = 0
          · exact hx
          · rw [bxm_1 (by decide) hx] at h1; exact absurd h1 hx
        rw [bxm_2 (by decide) ha] at h1
        have qa := tg_ix hl ha
        have qb := tg_ix hl h1
        exact ⟨⟨by dsimp only; decide, by dsimp only; decide⟩, e1, e2, qa.1, qa.2, qb.1, qb.2⟩
theorem ch_good {L : List Cn} (h : chE L = 0) (hr : ∀ c ∈ L, Rng c) : L.length ≤ 1000 ∧ ∀ c ∈ L, Good c := by
  obtain ⟨h1, h2⟩ := ch_zero h
  exact ⟨h1, fun c hc => ck_good h1 (hr c hc) (h2 c hc)⟩

/- all the constants' bytes -/
def catE : List Cn → ByteArray
  | [] => ⟨#[]⟩
  | c :: r => enc1 c ++ catE r
theorem encP_cat (n : Nat) (L : List Cn) : encP n L = putB n 2 ++ catE L := by
  have key : ∀ (L : List Cn) (x : ByteArray), L.foldl (fun x c => x ++ enc1 c) x = x ++ catE L := by
    intro L
    induction L with
    | nil => intro x; exact (ap_nil x).symm
    | cons c r ih => intro x; rw [List.foldl_cons, ih, ap_assoc]; rfl
  exact key L _
theorem catE_ap (A B : List Cn) : catE (A ++ B) = catE A ++ catE B := by
  induction A with
  | nil =>
    show catE B = (⟨#[]⟩ : ByteArray) ++ catE B
    exact ByteArray.ext (by rw [ByteArray.data_append]; simp)
  | cons c r ih => show enc1 c ++ catE (r ++ B) = enc1 c ++ catE r ++ catE B; rw [ih, ap_assoc]
theorem dk_put {s : ByteArray} {p : Nat} {L : List Cn} (hg : ∀ c ∈ L, Good c) (h : Sits s p (catE L)) : ∀ k, k ≤ L.length → dkE s p k = 0 ∧ dkL s p k = L.take k ∧ dkN s p k = p + (catE (L.take k)).size
  | 0, _ => ⟨rfl, rfl, by show (p : Int) = p + (0 : Nat); omega⟩
  | k + 1, hk => by
    obtain ⟨i1, i2, i3⟩ := dk_put hg h k (by omega)
    have hc : L[k]? = some L[k] := List.getElem?_eq_getElem hk
    have ht : L.take (k + 1) = L.take k ++ [L[k]] := by rw [List.take_add_one, hc]; rfl
    have hd : L = L.take k ++ (L[k] :: L.drop (k + 1)) := by
      conv => lhs; rw [← List.take_append_drop k L, List.drop_eq_getElem_cons hk]
    have h1 : Sits s p (catE (L.take k) ++ (enc1 L[k] ++ catE (L.drop (k + 1)))) := by
      have := h
      rw [hd, catE_ap] at this
      exact this
    obtain ⟨g1, g2, g3⟩ := good_put (hg _ (List.getElem_mem hk)) h1.right.left
    have e : ((p + (catE (L.take k)).size : Nat) : Int) = dkN s p k := by rw [i3]; omega
    rw [e] at g1 g2 g3
    have hz : (catE (L.take (k + 1))).size = (catE (L.take k)).size + (enc1 L[k]).size := by
      rw [ht, catE_ap, ByteArray.size_append]
      show _ + (enc1 L[k] ++ (⟨#[]⟩ : ByteArray)).size = _
      rw [ap_nil]
    refine ⟨by rw [dkE_ok i1]; exact g1, by rw [dkL_snoc, i2, g2, ht], by rw [dkN_snoc, g3, hz, ← e]; omega⟩
theorem dec_enc {L : List Cn} (hch : chE L = 0) (hr : ∀ c ∈ L, Rng c) (x y : ByteArray) :
    deL (x ++ encS L ++ y) x.size = L ∧ deN (x ++ encS L ++ y) x.size = x.size + (encS L).size ∧ deE (x ++ encS L ++ y) x.size = 0 ∧ unsE (x ++ encS L ++ y) x.size 2 = 0 ∧ unsV (x ++ encS L ++ y) x.size 2 = L.length ∧ dkE (x ++ encS L ++ y) (x.size + 2) L.length = 0 ∧ dkN (x ++ encS L ++ y) (x.size + 2) L.length = x.size + (encS L).size := by
  obtain ⟨hl, hg⟩ := ch_good hch hr
  have hS := sits_mid x (encS L) y
  generalize x ++ encS L ++ y = s at *
  rw [enc_ok hch, encP_cat] at hS ⊢
  have hf : fitsP (L.length : Int) 2 := fit2 (by omega)
  have z2 := putB_sz ok2 hf
  have hu := hS.left.uns ok2 hf (by omega)
  rw [of2 (by omega)] at hu
  have h1 := hS.right
  have e : ((x.size + (putB (L.length : Int) 2).size : Nat) : Int) = (x.size : Int) + 2 := by omega
  obtain ⟨g1, g2, g3⟩ := dk_put hg h1 L.length (Nat.le_refl _)
  rw [e] at g1 g2 g3
  rw [List.take_length] at g2 g3
  have hp : 0 ≤ (x.size : Int) ∧ (x.size : Int) ≤ s.size := by have := hS.1; omega
  have hv : (unsV s x.size 2).toNat = L.length := by rw [hu.2]; omega
  have h5 := de_5 hp hu.1 (by rw [hv]; exact g1) (by rw [hv, g2]; exact hch)
  rw [hv] at h5
  rw [g2] at h5
  have hz : ((putB (L.length : Int) 2 ++ catE L).size : Int) = 2 + (catE L).size := by rw [ByteArray.size_append]; omega
  exact ⟨h5.1, by rw [h5.2.1, g3, hz]; omega, h5.2.2, hu.1, hu.2, g1, by rw [g3, hz]; omega⟩

/- a text cut short -/
theorem pf_un {s : ByteArray} {m : Nat} (hm : m ≤ s.size) {p z : Int} (hz : okSize z) (hp : 0 ≤ p ∧ p ≤ m) (h : unsE s p z = 0) :
    (p + z ≤ m → unsE (s.extract 0 m) p z = 0 ∧ unsV (s.extract 0 m) p z = unsV s p z) ∧ (m < p + z → unsE (s.extract 0 m) p z = 3) := by
  have hs : (s.extract 0 m).size = m := by rw [sz_ex (Nat.zero_le _) hm]; omega
  refine ⟨fun hq => ?_, fun hq => un_3 hz (by omega) (by omega)⟩
  have e := un_in (s := s.extract 0 m) hz hp.1 (by omega)
  refine ⟨e, ?_⟩
  rw [un_v e, un_v h]
  refine rd_eq _ fun i hi => ?_
  unfold fromB
  rw [bt_ex hm (by have : 0 < z := by unfold okSize at hz; omega
                   omega), Nat.zero_add]
theorem pf_gs {s : ByteArray} {m : Nat} (hm : m ≤ s.size) {p : Int} (hp : 0 ≤ p ∧ p ≤ m) (h : gsE s p = 0) :
    (gsN s p ≤ m → gsE (s.extract 0 m) p = 0 ∧ gsN (s.extract 0 m) p = gsN s p) ∧ (m < gsN s p → gsE (s.extract 0 m) p = 3) := by
  have hs : (s.extract 0 m).size = m := by rw [sz_ex (Nat.zero_le _) hm]; omega
  have hu : unsE s p 2 = 0 := by
    by_cases h1 : unsE s p 2 = 0
    · exact h1
    · unfold gsE at h; rw [if_pos h1] at h; exact absurd h h1
  have hbd := uns2_bd s p
  have hN : gsN s p = p + 2 + unsV s p 2 := by unfold gsN; rw [if_pos h]
  have hpf := pf_un hm ok2 hp hu
  rw [hN]
  refine ⟨fun hq => ?_, fun hq => ?_⟩
  · obtain ⟨e1, e2⟩ := hpf.1 (by omega)
    have hE : gsE (s.extract 0 m) p = 0 := by unfold gsE; rw [if_neg (by simpa using e1), e2, if_neg (by omega)]
    exact ⟨hE, by unfold gsN; rw [if_pos hE, e2]⟩
  · by_cases h2 : p + 2 ≤ m
    · obtain ⟨e1, e2⟩ := hpf.1 h2
      unfold gsE; rw [if_neg (by simpa using e1), e2, if_pos (by omega)]
    · have e1 := hpf.2 (by omega)
      unfold gsE; rw [if_pos (by omega), e1]
theorem dc_tag {s : ByteArray} {p : Int} (h : dcE s p = 0) : unsE s p 1 = 0 ∧ knB (unsV s p 1) = true := by
  have h0 : unsE s p 1 = 0 := by
    by_cases h1 : unsE s p 1 = 0
    · exact h1
    · rw [dw_0 h1] at h; exact absurd h h1
  refine ⟨h0, ?_⟩
  cases hk : knB (unsV s p 1) with
  | true => rfl
  | false => rw [dw_u h0 hk] at h; cases h
theorem pf_dc {s : ByteArray} {m : Nat} (hm : m ≤ s.size) {p : Int} (hp : 0 ≤ p ∧ p ≤ m) (h : dcE s p = 0) :
    (dcN s p ≤ m → dcE (s.extract 0 m) p = 0 ∧ dcN (s.extract 0 m) p = dcN s p) ∧ (m < dcN s p → dcE (s.extract 0 m) p = 3) := by
  obtain ⟨h0, hk⟩ := dc_tag h
  have hge := (dc_pos (s := s) (q := p) (by omega) h).1
  have hpf := pf_un hm ok1 hp h0
  by_cases hm1 : p + 1 ≤ m
  · obtain ⟨e1, e2⟩ := hpf.1 hm1
    have hp1 : 0 ≤ p + 1 ∧ p + 1 ≤ m := by omega
    rcases kn_cases hk with hv | hv | hv | hv | hv | hv | hv | hv | hv
    · obtain ⟨a1, a2, a3⟩ := dw_1 h0 hv
      obtain ⟨b1, b2, b3⟩ := dw_1 e1 (e2.trans hv)
      rw [a1] at h
      rw [a3, b1, b3]
      exact pf_gs hm hp1 h
    · obtain ⟨a1, a2, a3⟩ := dw_3 h0 hv
      obtain ⟨b1, b2, b3⟩ := dw_3 e1 (e2.trans hv)
      rw [a1] at h
      rw [a3, b1, b3]
      have := pf_un hm ok4 hp1 h
      exact ⟨fun hq => ⟨(this.1 (by omega)).1, rfl⟩, fun hq => this.2 (by omega)⟩
    · obtain ⟨a1, a2, a3⟩ := dw_5 h0 hv
      obtain ⟨b1, b2, b3⟩ := dw_5 e1 (e2.trans hv)
      rw [a1] at h
      rw [a3, b1, b3]
      have := pf_un hm ok8 hp1 h
      exact ⟨fun hq => ⟨(this.1 (by omega)).1, rfl⟩, fun hq => this.2 (by omega)⟩
    · obtain ⟨a1, a2, a3⟩ := dw_7 h0 (Or.inl hv)
      obtain ⟨b1, b2, b3⟩ := dw_7 e1 (Or.inl (e2.trans hv))
      rw [a1] at h
      rw [a3, b1, b3]
      have := pf_un hm ok2 hp1 h
      exact ⟨fun hq => ⟨(this.1 (by omega)).1, rfl⟩, fun hq => this.2 (by omega)⟩
    · obtain ⟨a1, a2, a3⟩ := dw_7 h0 (Or.inr hv)
      obtain ⟨b1, b2, b3⟩ := dw_7 e1 (Or.inr (e2.trans hv))
      rw [a1] at h
      rw [a3, b1, b3]
      have := pf_un hm ok2 hp1 h
      exact ⟨fun hq => ⟨(this.1 (by omega)).1, rfl⟩, fun hq => this.2 (by omega)⟩
    all_goals
      have hr : 9 ≤ unsV s p 1 ∧ unsV s p 1 ≤ 12 := by rw [hv]; decide
      have hr' : 9 ≤ unsV (s.extract 0 m) p 1 ∧ unsV (s.extract 0 m) p 1 ≤ 12 := by rw [e2]; exact hr
      have h2 : unsE s (p + 1) 2 = 0 := by
        by_cases h1 : unsE s (p + 1) 2 = 0
        · exact h1
        · rw [dw_n h0 hr h1] at h; exact absurd h h1
      obtain ⟨a1, a2, a3⟩ := dw_m h0 hr h2
      rw [a1] at h
      have q1 := pf_un hm ok2 hp1 h2
      rw [a3]
      by_cases h3 : p + 3 ≤ m
      · have c1 := (q1.1 (by omega)).1
        obtain ⟨b1, b2, b3⟩ := dw_m e1 hr' c1
        have q2 := pf_un hm ok2 (p := p + 3) (by omega) h
        rw [b1, b3]
        exact ⟨fun hq => ⟨(q2.1 (by omega)).1, rfl⟩, fun hq => q2.2 (by omega)⟩
      · have c1 := q1.2 (by omega)
        refine ⟨fun hq => by omega, fun _ => ?_⟩
        rw [dw_n e1 hr' (by omega), c1]
  · have e1 := hpf.2 (by omega)
    have hlt : p < dcN s p := by
      rcases kn_cases hk with hv | hv | hv | hv | hv | hv | hv | hv | hv
      · obtain ⟨a1, a2, a3⟩ := dw_1 h0 hv
        rw [a1] at h
        rw [a3]
        have hbd := uns2_bd s (p + 1)
        unfold gsN; rw [if_pos h]; omega
      · rw [(dw_3 h0 hv).2.2]; omega
      · rw [(dw_5 h0 hv).2.2]; omega
      · rw [(dw_7 h0 (Or.inl hv)).2.2]; omega
      · rw [(dw_7 h0 (Or.inr hv)).2.2]; omega
      all_goals
        have hr : 9 ≤ unsV s p 1 ∧ unsV s p 1 ≤ 12 := by rw [hv]; decide
        by_cases h1 : unsE s (p + 1) 2 = 0
        · rw [(dw_m h0 hr h1).2.2]; omega
        · rw [dw_n h0 hr h1] at h; exact absurd h h1
    exact ⟨fun hq => by omega, fun _ => by rw [dw_0 (by omega), e1]⟩
theorem pf_dk {s : ByteArray} {m : Nat} (hm : m ≤ s.size) {p : Int} (hp : 0 ≤ p ∧ p ≤ m) {n : Nat} (h : ∀ k, k ≤ n → dkE s p k = 0) : ∀ k, k ≤ n → (dkE (s.extract 0 m) p k = 0 ∧ dkN (s.extract 0 m) p k = dkN s p k ∧ dkN s p k ≤ m) ∨ dkE (s.extract 0 m) p k = 3
  | 0, _ => Or.inl ⟨rfl, rfl, hp.2⟩
  | k + 1, hk => by
    rcases pf_dk hm hp h k (by omega) with ⟨i1, i2, i3⟩ | i1
    · have hb := dk_pos (s := s) (p := p) (by omega) k (h k (by omega))
      have h1 := h (k + 1) hk
      rw [dkE_ok (h k (by omega))] at h1
      have q := pf_dc hm ⟨hb.1, i3⟩ h1
      rw [dkE_ok i1, dkN_snoc, dkN_snoc, i2]
      rcases (by omega : dcN s (dkN s p k) ≤ m ∨ (m : Int) < dcN s (dkN s p k)) with hq | hq
      · exact Or.inl ⟨(q.1 hq).1, (q.1 hq).2, hq⟩
      · exact Or.inr (q.2 hq)
    · right
      rw [dkE_no (by omega), i1]
theorem dec_short {L : List Cn} (hch : chE L = 0) (hr : ∀ c ∈ L, Rng c) (m : Nat) (hm : m < (encS L).size) : deE ((encS L).extract 0 m) 0 = 3 := by
  have h := dec_enc hch hr ⟨#[]⟩ ⟨#[]⟩
  rw [ap_nil, show (⟨#[]⟩ : ByteArray) ++ encS L = encS L from ByteArray.ext (by rw [ByteArray.data_append]; simp)] at h
  generalize encS L = s at *
  obtain ⟨_, _, _, h1, h2, h3, h4⟩ := h
  replace h1 : unsE s 0 2 = 0 := h1
  replace h2 : unsV s 0 2 = L.length := h2
  replace h3 : dkE s 2 L.length = 0 := h3
  replace h4 : dkN s 2 L.length = s.size := by
    have : dkN s 2 L.length = ((0 : Nat) : Int) + s.size := h4
    omega
  have hs : (s.extract 0 m).size = m := by rw [sz_ex (Nat.zero_le _) (by omega)]; omega
  have hp0 : (0 : Int) ≤ 0 ∧ (0 : Int) ≤ (s.extract 0 m).size := by omega
  have q := pf_un (s := s) (m := m) (by omega) ok2 (p := 0) (by omega) h1
  by_cases h5 : 2 ≤ m
  · obtain ⟨e1, e2⟩ := q.1 (by omega)
    rw [h2] at e2
    have hall : ∀ k, k ≤ L.length → dkE s 2 k = 0 := fun k hk => by
      by_cases hx : dkE s 2 k = 0
      · exact hx
      · have := dkE_stay hx L.length hk
        rw [h3] at this
        exact absurd this.symm hx
    have hv : (unsV (s.extract 0 m) 0 2).toNat = L.length := by rw [e2]; omega
    rcases pf_dk (s := s) (m := m) (by omega) (p := 2) (by omega) hall L.length (Nat.le_refl _) with ⟨i1, i2, i3⟩ | i1
    · omega
    · have := de_3 (s := s.extract 0 m) (p := 0) hp0 e1 (by rw [hv]; show ¬ dkE (s.extract 0 m) 2 L.length = 0; omega)
      rw [this.2.2, hv]
      exact i1
  · have e1 := q.2 (by omega)
    rw [(de_2 (s := s.extract 0 m) (p := 0) hp0 (by omega)).2.2, e1]

/- what has been read, written again -/
theorem fromB_bt (s : ByteArray) (p i : Nat) : 0 ≤ fromB s p i ∧ fromB s p i ≤ 255 := fromB_bd s p i
theorem rd1 (f : Nat → Int) (h : ∀ i, 0 ≤ f i ∧ f i ≤ 255) : rdU f 1 = f 0 := by have := h 0; simp only [rdU]; unfold wrap64; omega
theorem rd2 (f : Nat → Int) (h : ∀ i, 0 ≤ f i ∧ f i ≤ 255) : rdU f 2 = f 0 * 256 + f 1 := by
  have := h 0; have := h 1
  rw [rdU, rd1 f h]; unfold wrap64; omega
theorem rd3 (f : Nat → Int) (h : ∀ i, 0 ≤ f i ∧ f i ≤ 255) : rdU f 3 = f 0 * 65536 + f 1 * 256 + f 2 := by
  have := h 0; have := h 1; have := h 2
  rw [rdU, rd2 f h]; unfold wrap64; omega
theorem rd4 (f : Nat → Int) (h : ∀ i, 0 ≤ f i ∧ f i ≤ 255) : rdU f 4 = f 0 * 16777216 + f 1 * 65536 + f 2 * 256 + f 3 := by
  have := h 0; have := h 1; have := h 2; have := h 3
  rw [rdU, rd3 f h]; unfold wrap64; omega
theorem rd5 (f : Nat → Int) (h : ∀ i, 0 ≤ f i ∧ f i ≤ 255) : rdU f 5 = f 0 * 4294967296 + f 1 * 16777216 + f 2 * 65536 + f 3 * 256 + f 4 := by
  have := h 0; have := h 1; have := h 2; have := h 3; have := h 4
  rw [rdU, rd4 f h]; unfold wrap64; omega
theorem rd6 (f : Nat → Int) (h : ∀ i, 0 ≤ f i ∧ f i ≤ 255) : rdU f 6 = f 0 * 1099511627776 + f 1 * 4294967296 + f 2 * 16777216 + f 3 * 65536 + f 4 * 256 + f 5 := by
  have := h 0; have := h 1; have := h 2; have := h 3; have := h 4; have := h 5
  rw [rdU, rd5 f h]; unfold wrap64; omega
theorem rd7 (f : Nat → Int) (h : ∀ i, 0 ≤ f i ∧ f i ≤ 255) : rdU f 7 = f 0 * 281474976710656 + f 1 * 1099511627776 + f 2 * 4294967296 + f 3 * 16777216 + f 4 * 65536 + f 5 * 256 + f 6 := by
  have := h 0; have := h 1; have := h 2; have := h 3; have := h 4; have := h 5; have := h 6
  rw [rdU, rd6 f h]; unfold wrap64; omega
def topB (f : Nat → Int) : Int := f 0 * 72057594037927936 + f 1 * 281474976710656 + f 2 * 1099511627776 + f 3 * 4294967296 + f 4 * 16777216 + f 5 * 65536 + f 6 * 256 + f 7
theorem rd8 (f : Nat → Int) (h : ∀ i, 0 ≤ f i ∧ f i ≤ 255) : rdU f 8 = if f 0 ≤ 127 then topB f else topB f - 18446744073709551616 := by
  have := h 0; have := h 1; have := h 2; have := h 3; have := h 4; have := h 5; have := h 6; have := h 7
  rw [rdU, rd7 f h]; unfold wrap64 topB; split <;> omega
theorem put_rd (f : Nat → Int) (h : ∀ i, 0 ≤ f i ∧ f i ≤ 255) (z : Int) (hz : okSize z) (n : Int) (hn : n = rdU f z.toNat ∨ n = sgn z (rdU f z.toNat)) : fitsP n z ∧ ∀ i, i < z.toNat → (putL n z).getD i 0 = f i := by
  have h0 := h 0; have h1 := h 1; have h2 := h 2; have h3 := h 3; have h4 := h 4; have h5 := h 5; have h6 := h 6; have h7 := h 7
  rcases hz with rfl | rfl | rfl | rfl
  · have e : n = f 0 ∨ n = (f 0 + 128) % 256 - 128 := by
      rcases hn with hn | hn
      · left; rw [hn]; exact rd1 f h
      · right; rw [hn]; show sgn 1 (rdU f 1) = _; rw [rd1 f h]; rfl
    refine ⟨by unfold fitsP; omega, fun i hi => ?_⟩
    obtain rfl : i = 0 := by simp at hi; omega
    simp [putL]; omega
  · have e : n = f 0 * 256 + f 1 ∨ n = (f 0 * 256 + f 1 + 32768) % 65536 - 32768 := by
      rcases hn with hn | hn
      · left; rw [hn]; exact rd2 f h
      · right; rw [hn]; show sgn 2 (rdU f 2) = _; rw [rd2 f h]; rfl
    refine ⟨by unfold fitsP; omega, fun i hi => ?_⟩
    rcases (by simp at hi; omega : i = 0 ∨ i = 1) with rfl | rfl <;> (simp [putL]; omega)
  · have e : n = f 0 * 16777216 + f 1 * 65536 + f 2 * 256 + f 3 ∨ n = (f 0 * 16777216 + f 1 * 65536 + f 2 * 256 + f 3 + 2147483648) % 4294967296 - 2147483648 := by
      rcases hn with hn | hn
      · left; rw [hn]; exact rd4 f h
      · right; rw [hn]; show sgn 4 (rdU f 4) = _; rw [rd4 f h]; rfl
    refine ⟨by unfold fitsP; omega, fun i hi => ?_⟩
    rcases (by simp at hi; omega : i = 0 ∨ i = 1 ∨ i = 2 ∨ i = 3) with rfl | rfl | rfl | rfl <;> (simp [putL]; omega)
  · have e : n = topB f ∨ n = topB f - 18446744073709551616 := by
      have e8 : n = rdU f 8 := by rcases hn with hn | hn <;> exact hn
      rw [rd8 f h] at e8
      split at e8
      · exact Or.inl e8
      · exact Or.inr e8
    unfold topB at e
    refine ⟨Or.inl rfl, fun i hi => ?_⟩
    rcases (by simp at hi; omega : i = 0 ∨ i = 1 ∨ i = 2 ∨ i = 3 ∨ i = 4 ∨ i = 5 ∨ i = 6 ∨ i = 7) with rfl | rfl | rfl | rfl | rfl | rfl | rfl | rfl <;> (simp [putL]; omega)
theorem put_un {s : ByteArray} {p z : Int} (hz : okSize z) (h : unsE s p z = 0) (n : Int) (hn : n = unsV s p z ∨ n = sigV s p z) : putB n z = s.extract p.toNat (p + z).toNat := by
  obtain ⟨hp0, hp1⟩ := un_0 hz h
  have hz1 : 1 ≤ z ∧ z ≤ 8 := by unfold okSize at hz; omega
  unfold sigV at hn
  rw [un_v h] at hn
  obtain ⟨hf, hb⟩ := put_rd (fromB s p.toNat) (fun i => fromB_bd s p.toNat i) z hz n hn
  rw [putB_ok hz hf]
  have hl := putL_len n z hz
  refine bt_ext (by rw [strOfNums_size, hl, sz_ex (by omega) (by omega)]; omega) fun i hi => ?_
  rw [strOfNums_size, hl] at hi
  rw [bt_nums _ _ (by rw [hl]; exact hi) (putL_bd n z i), hb i hi, bt_ex (by omega) (by omega)]
  rfl
theorem put_gs {s : ByteArray} {p : Int} (h : gsE s p = 0) : psB (gsB s p) = s.extract p.toNat (gsN s p).toNat ∧ p + 2 ≤ gsN s p ∧ gsN s p ≤ s.size := by
  have hu : unsE s p 2 = 0 := by
    by_cases h1 : unsE s p 2 = 0
    · exact h1
    · unfold gsE at h; rw [if_pos h1] at h; exact absurd h h1
  have hbd := uns2_bd s p
  obtain ⟨hp0, hp1⟩ := un_0 ok2 hu
  have hlen : unsV s p 2 ≤ s.size - (p + 2) := by
    unfold gsE at h
    rw [if_neg (by simpa using hu)] at h
    split at h
    · cases h
    · omega
  have hN : gsN s p = p + 2 + unsV s p 2 := by unfold gsN; rw [if_pos h]
  have hB : gsB s p = s.extract (p + 2).toNat (p + 2 + unsV s p 2).toNat := by unfold gsB; rw [if_pos h]
  refine ⟨?_, by omega, by omega⟩
  have hz : ((gsB s p).size : Int) = unsV s p 2 := by rw [hB, sz_ex (by omega) (by omega)]; omega
  unfold psB
  rw [if_pos (by omega), hz]
  have := put_un ok2 hu (unsV s p 2) (Or.inl rfl)
  rw [putB_ok ok2 (fit2 hbd)] at this
  rw [this, hB, ex_ap (by omega) (by omega) (by omega), hN]
theorem dc_enc {s : ByteArray} {p : Int} (hp : 0 ≤ p ∧ p ≤ s.size) (h : dcE s p = 0) : enc1 (dcC s p) = s.extract p.toNat (dcN s p).toNat := by
  obtain ⟨h0, hk⟩ := dc_tag h
  obtain ⟨_, hp1⟩ := un_0 ok1 h0
  have t1 := put_un ok1 h0 (unsV s p 1) (Or.inl rfl)
  have ne : ∀ {t k : Int}, t ≠ k → (t == k) = false := fun hk => by simpa using hk
  rcases kn_cases hk with hv | hv | hv | hv | hv | hv | hv | hv | hv
  · obtain ⟨a1, a2, a3⟩ := dw_1 h0 hv
    rw [a1] at h
    obtain ⟨g1, g2, g3⟩ := put_gs h
    rw [a2, a3, e1_1 (c := ⟨unsV s p 1, gsB s (p + 1), 0, 0, 0⟩) (by simpa using hv), t1, g1]
    exact ex_ap (by omega) (by omega) (by omega)
  · obtain ⟨a1, a2, a3⟩ := dw_3 h0 hv
    rw [a1] at h
    have q := un_0 ok4 h
    rw [a2, a3, e1_3 (c := ⟨unsV s p 1, ⟨#[]⟩, sigV s (p + 1) 4, 0, 0⟩) (ne (by dsimp only; omega)) (by simpa using hv), t1, put_un ok4 h _ (Or.inr rfl), ex_ap (by omega) (by omega) (by omega)]
    congr 1; omega
  · obtain ⟨a1, a2, a3⟩ := dw_5 h0 hv
    rw [a1] at h
    have q := un_0 ok8 h
    rw [a2, a3, e1_5 (c := ⟨unsV s p 1, ⟨#[]⟩, sigV s (p + 1) 8, 0, 0⟩) (ne (by dsimp only; omega)) (ne (by dsimp only; omega)) (by simpa using hv), t1, put_un ok8 h _ (Or.inr rfl), ex_ap (by omega) (by omega) (by omega)]
    congr 1; omega
  · obtain ⟨a1, a2, a3⟩ := dw_7 h0 (Or.inl hv)
    rw [a1] at h
    have q := un_0 ok2 h
    rw [a2, a3, e1_7 (c := ⟨unsV s p 1, ⟨#[]⟩, 0, unsV s (p + 1) 2, 0⟩) (ne (by dsimp only; omega)) (ne (by dsimp only; omega)) (ne (by dsimp only; omega)) (Or.inl (by simpa using hv)), t1, put_un ok2 h _ (Or.inl rfl), ex_ap (by omega) (by omega) (by omega)]
    congr 1; omega
  · obtain ⟨a1, a2, a3⟩ := dw_7 h0 (Or.inr hv)
    rw [a1] at h
    have q := un_0 ok2 h
    rw [a2, a3, e1_7 (c := ⟨unsV s p 1, ⟨#[]⟩, 0, unsV s (p + 1) 2, 0⟩) (ne (by dsimp only; omega)) (ne (by dsimp only; omega)) (ne (by dsimp only; omega)) (Or.inr (by simpa using hv)), t1, put_un ok2 h _ (Or.inl rfl), ex_ap (by omega) (by omega) (by omega)]
    congr 1; omega
  all_goals
    have hr : 9 ≤ unsV s p 1 ∧ unsV s p 1 ≤ 12 := by rw [hv]; decide
    have h2 : unsE s (p + 1) 2 = 0 := by
      by_cases h1 : unsE s (p + 1) 2 = 0
      · exact h1
      · rw [dw_n h0 hr h1] at h; exact absurd h h1
    obtain ⟨a1, a2, a3⟩ := dw_m h0 hr h2
    rw [a1] at h
    have q := un_0 ok2 h
    rw [a2, a3, e1_m (c := ⟨unsV s p 1, ⟨#[]⟩, 0, unsV s (p + 1) 2, unsV s (p + 3) 2⟩) (ne (by dsimp only; omega)) (ne (by dsimp only; omega)) (ne (by dsimp only; omega)) (ne (by dsimp only; omega)) (ne (by dsimp only; omega)), t1]
    rw [show putB (unsV s (p + 1) 2) 2 = _ from put_un ok2 h2 _ (Or.inl rfl), show putB (unsV s (p + 3) 2) 2 = _ from put_un ok2 h _ (Or.inl rfl)]
    rw [show (p + 1 + 2).toNat = (p + 3).toNat by omega, ex_ap (by omega) (by omega) (by omega), ex_ap (by omega) (by omega) (by omega)]
    congr 1; omega
theorem dk_enc {s : ByteArray} {p : Int} (hp : 0 ≤ p ∧ p ≤ s.size) : ∀ k, dkE s p k = 0 → catE (dkL s p k) = s.extract p.toNat (dkN s p k).toNat ∧ p ≤ dkN s p k ∧ dkN s p k ≤ s.size
  | 0, _ => by
    refine ⟨?_, Int.le_refl _, hp.2⟩
    show (⟨#[]⟩ : ByteArray) = s.extract p.toNat p.toNat
    refine bt_ext (by rw [sz_ex (Nat.le_refl _) (by omega), Nat.sub_self]; rfl) fun i hi => ?_
    exact absurd hi (Nat.not_lt_zero _)
  | k + 1, h => by
    have h1 : dkE s p k = 0 := by
      by_cases h1 : dkE s p k = 0
      · exact h1
      · rw [dkE_no h1] at h; exact h
    obtain ⟨i1, i2, i3⟩ := dk_enc hp k h1
    rw [dkE_ok h1] at h
    have hq : 0 ≤ dkN s p k ∧ dkN s p k ≤ s.size := by omega
    obtain ⟨j1, j2⟩ := dc_pos hq h
    rw [dkL_snoc, catE_ap, i1]
    have e : catE [dcC s (dkN s p k)] = enc1 (dcC s (dkN s p k)) := ap_nil _
    rw [e, dc_enc hq h, ex_ap (by omega) (by omega) (by omega), dkN_snoc]
    exact ⟨rfl, by omega, by omega⟩
theorem de_zero {s : ByteArray} {p : Int} (h : deE s p = 0) : (0 ≤ p ∧ p ≤ s.size) ∧ unsE s p 2 = 0 ∧ dkE s (p + 2) (unsV s p 2).toNat = 0 ∧ chE (dkL s (p + 2) (unsV s p 2).toNat) = 0 := by
  by_cases h1 : 0 ≤ p ∧ p ≤ s.size
  · by_cases h2 : unsE s p 2 = 0
    · by_cases h3 : dkE s (p + 2) (unsV s p 2).toNat = 0
      · by_cases h4 : chE (dkL s (p + 2) (unsV s p 2).toNat) = 0
        · exact ⟨h1, h2, h3, h4⟩
        · rw [(de_4 h1 h2 h3 h4).2.2] at h; exact absurd h h4
      · rw [(de_3 h1 h2 h3).2.2] at h; exact absurd h h3
    · rw [(de_2 h1 h2).2.2] at h; exact absurd h h2
  · rw [(de_1 h1).2.2] at h; cases h
theorem de_bad {s : ByteArray} {p : Int} (h : ¬ deE s p = 0) : deL s p = [] ∧ deN s p = 0 := by
  by_cases h1 : 0 ≤ p ∧ p ≤ s.size
  · by_cases h2 : unsE s p 2 = 0
    · by_cases h3 : dkE s (p + 2) (unsV s p 2).toNat = 0
      · by_cases h4 : chE (dkL s (p + 2) (unsV s p 2).toNat) = 0
        · exact absurd (de_5 h1 h2 h3 h4).2.2 h
        · exact ⟨(de_4 h1 h2 h3 h4).1, (de_4 h1 h2 h3 h4).2.1⟩
      · exact ⟨(de_3 h1 h2 h3).1, (de_3 h1 h2 h3).2.1⟩
    · exact ⟨(de_2 h1 h2).1, (de_2 h1 h2).2.1⟩
  · exact ⟨(de_1 h1).1, (de_1 h1).2.1⟩
theorem canon {s : ByteArray} {p : Int} (h : deE s p = 0) : 0 ≤ p ∧ p ≤ deN s p ∧ deN s p ≤ s.size ∧ chE (deL s p) = 0 ∧ encS (deL s p) = s.extract p.toNat (deN s p).toNat := by
  obtain ⟨hp, h2, h3, h4⟩ := de_zero h
  have hbd := uns2_bd s p
  have hu := un_0 ok2 h2
  obtain ⟨g1, g2, _⟩ := de_5 hp h2 h3 h4
  obtain ⟨i1, i2, i3⟩ := dk_enc (s := s) (p := p + 2) (by omega) _ h3
  rw [g1, g2]
  refine ⟨hp.1, by omega, i3, h4, ?_⟩
  rw [enc_ok h4, encP_cat, dkL_len, i1]
  have : ((unsV s p 2).toNat : Int) = unsV s p 2 := by omega
  rw [this, put_un ok2 h2 _ (Or.inl rfl), ex_ap (by omega) (by omega) (by omega)]

end Go.Proofs.YtfcefeepkpkcmaaDoor

/- PcLawRt -/
/- Layer 6: PoolcodeRoundTrip, PoolcodeCanonical. -/
namespace Go.Proofs.YtfcefeepkpkcmaaDoor
open Go.ChangeShapes Go.WideShapes Go.ChangeAt Go.RowKit Go.PlainAid
set_option linter.unusedSimpArgs false
set_option linter.unusedVariables false

theorem tS_size {L : List Cn} : ∀ k, k ≤ L.length → (catE (L.take k)).size ≤ tS L k + 16 * k
  | 0, _ => Nat.zero_le _
  | k + 1, hk => by
    have ih := tS_size (L := L) k (by omega)
    have hc : L[k]? = some L[k] := List.getElem?_eq_getElem hk
    have ht : L.take (k + 1) = L.take k ++ [L[k]] := by rw [List.take_add_one, hc]; rfl
    rw [ht, catE_ap, ByteArray.size_append, tS_succ hc]
    have e : catE [L[k]] = enc1 L[k] := ap_nil _
    rw [e]
    have h1 : (enc1 L[k]).size ≤ L[k].s.size + 16 := by
      generalize L[k] = c
      have s1 := putB_size c.t 1
      have s4 := putB_size c.n 4
      have s8 := putB_size c.n 8
      have sa := putB_size c.a 2
      have sb := putB_size c.b 2
      have ss := psB_size c.s
      have z1 : (putB c.t 1).size ≤ 1 := by
        unfold putB
        split
        · rw [strOfNums_size, putL_len _ _ (by decide)]; decide
        · rw [strOfNums_size]; decide
      have z2 : ∀ n, (putB n 2).size ≤ 2 := fun n => by
        unfold putB
        split
        · rw [strOfNums_size, putL_len _ _ (by decide)]; decide
        · rw [strOfNums_size]; decide
      have za := z2 c.a
      have zb := z2 c.b
      unfold enc1
      repeat' split
      all_goals (simp only [ByteArray.size_append]; omega)
    omega
theorem enc_small {L : List Cn} (h : All3 L) : (encS L).size ≤ 140000 := by
  by_cases hc : chE L = 0
  · rw [enc_ok hc, encP_cat, ByteArray.size_append]
    have h1 := tS_size (L := L) L.length (Nat.le_refl _)
    rw [List.take_length] at h1
    have := putB_size (L.length : Int) 2
    have := h.1
    have := h.2.1
    omega
  · rw [enc_bad hc]; exact Nat.zero_le _
theorem enc_two {L : List Cn} (hc : chE L = 0) : 2 ≤ (encS L).size := by
  obtain ⟨h1, _⟩ := ch_zero hc
  rw [enc_ok hc, encP_cat, ByteArray.size_append]
  have := putB_sz ok2 (fit2 (t := (L.length : Int)) (by omega))
  omega

set_option maxRecDepth 100000 in
set_option maxHeartbeats 1000000 in
theorem prt_law {A : Option Addr} {n c : Nat} {L : List Cn} (x y : ByteArray) (u : Int) (hu : 0 ≤ u ∧ u ≤ 65535) (hn : L.length = n) (hF : Fits L) (hr : ∀ c ∈ L, Rng c) (hx : x.size ≤ 140737488351232) (hy : y.size ≤ 140737488351232) (w : World) (hp : Pool w w.heap.size A L) :
    Calls Tryd.prog 10 #[.slice A n c, .string x, .string y, .int .u16 u] w fun e w' => e = .returned (.bool true) ∧ Below w.heap.size w w' := by
  have HP := Lib.hid hp
  have HN := Lib.hid hn
  have HF := Lib.hid hF
  have HR := Lib.hid hr
  clear hp hn hF hr
  have hB : Below w.heap.size w w := Below.refl _ _
  go_enter Tryd.func10, Tryd.ntmps10
  go_wp2_with fail
  refine (few_any HN.out HF.out.few HP.out _ (Below.refl _ _)).mono ?_
  rintro e w1 ⟨b, rfl, hb3, hb1⟩
  have H3 := Lib.hid hb3
  have HP1 := Lib.hid (HP.out.up hb1)
  replace hB := below_on (w := w) hB hb1
  clear hb3 hb1
  cases b with
  | false =>
    go_wp2_with (go_at_call 41; refine (awake6_any _).mono ?_; rintro e w1 ⟨rfl, hb1⟩; obtain ⟨hc1, hf1⟩ := bcell hb1; have hz1 := hb1.size; (try simp only [World.size_alloc, World.size_setCell] at hz1); (try have hza : w.heap.size < w1.heap.size := by omega); (try have hzb : w.heap.size + 1 < w1.heap.size := by omega); (try have hzc : w.heap.size + 1 + 1 < w1.heap.size := by omega); (try have hzd : wa.heap.size < w1.heap.size := by omega); (try replace hR := (hb1.block w.heap.size (by first | exact lt_heap hR | (have := lt_heap hR; simp; omega))).trans (by first | with_reducible exact hR | with_reducible exact laid_old hR)); replace hB := below_on (w := w) ((by repeat (first | with_reducible exact hB | with_reducible exact Below.refl _ _ | with_reducible refine below_al ?_ _ | with_reducible refine below_st ?_ (by first | exact Nat.le_refl _ | exact Nat.le_add_right _ _ | (simp; omega)) _))) hb1; clear hb1)
    go_ret
    exact ⟨rfl, hB⟩
  | true =>
    have H4 := Lib.hid (H3.out rfl)
    clear H3
    have hN2 : n ≤ 100000 := by have := H4.out.1; have := HN.out; omega
    by_cases hx2 : 1000 < x.size
    · go_wp2_with (go_at_call 41; refine (awake6_any _).mono ?_; rintro e w1 ⟨rfl, hb1⟩; obtain ⟨hc1, hf1⟩ := bcell hb1; have hz1 := hb1.size; (try simp only [World.size_alloc, World.size_setCell] at hz1); (try have hza : w.heap.size < w1.heap.size := by omega); (try have hzb : w.heap.size + 1 < w1.heap.size := by omega); (try have hzc : w.heap.size + 1 + 1 < w1.heap.size := by omega); (try have hzd : wa.heap.size < w1.heap.size := by omega); (try replace hR := (hb1.block w.heap.size (by first | exact lt_heap hR | (have := lt_heap hR; simp; omega))).trans (by first | with_reducible exact hR | with_reducible exact laid_old hR)); replace hB := below_on (w := w) ((by repeat (first | with_reducible exact hB | with_reducible exact Below.refl _ _ | with_reducible refine below_al ?_ _ | with_reducible refine below_st ?_ (by first | exact Nat.le_refl _ | exact Nat.le_add_right _ _ | (simp; omega)) _))) hb1; clear hb1)
      go_ret
      exact ⟨rfl, hB⟩
    · by_cases hy2 : 1000 < y.size
      · go_wp2_with (go_at_call 41; refine (awake6_any _).mono ?_; rintro e w1 ⟨rfl, hb1⟩; obtain ⟨hc1, hf1⟩ := bcell hb1; have hz1 := hb1.size; (try simp only [World.size_alloc, World.size_setCell] at hz1); (try have hza : w.heap.size < w1.heap.size := by omega); (try have hzb : w.heap.size + 1 < w1.heap.size := by omega); (try have hzc : w.heap.size + 1 + 1 < w1.heap.size := by omega); (try have hzd : wa.heap.size < w1.heap.size := by omega); (try replace hR := (hb1.block w.heap.size (by first | exact lt_heap hR | (have := lt_heap hR; simp; omega))).trans (by first | with_reducible exact hR | with_reducible exact laid_old hR)); replace hB := below_on (w := w) ((by repeat (first | with_reducible exact hB | with_reducible exact Below.refl _ _ | with_reducible refine below_al ?_ _ | with_reducible refine below_st ?_ (by first | exact Nat.le_refl _ | exact Nat.le_add_right _ _ | (simp; omega)) _))) hb1; clear hb1)
        go_ret
        exact ⟨rfl, hB⟩
      · go_wp2_with fail
        refine (enc_any H4.out.short HN.out hN2 HP1.out _ (Below.refl _ _)).mono ?_
        rintro e w2 ⟨rfl, hb2⟩
        replace HP1 := Lib.hid (HP1.out.up hb2)
        replace hB := below_on (w := w) hB hb2
        clear hb2
        cases hE : (chE L != 0) with
        | true =>
          rw [enc_bad (bneT hE)]
          go_wp2_with (go_at_call 41; refine (awake6_any _).mono ?_; rintro e w1 ⟨rfl, hb1⟩; obtain ⟨hc1, hf1⟩ := bcell hb1; have hz1 := hb1.size; (try simp only [World.size_alloc, World.size_setCell] at hz1); (try have hza : w.heap.size < w1.heap.size := by omega); (try have hzb : w.heap.size + 1 < w1.heap.size := by omega); (try have hzc : w.heap.size + 1 + 1 < w1.heap.size := by omega); (try have hzd : wa.heap.size < w1.heap.size := by omega); (try replace hR := (hb1.block w.heap.size (by first | exact lt_heap hR | (have := lt_heap hR; simp; omega))).trans (by first | with_reducible exact hR | with_reducible exact laid_old hR)); replace hB := below_on (w := w) ((by repeat (first | with_reducible exact hB | with_reducible exact Below.refl _ _ | with_reducible refine below_al ?_ _ | with_reducible refine below_st ?_ (by first | exact Nat.le_refl _ | exact Nat.le_add_right _ _ | (simp; omega)) _))) hb1; clear hb1)
          go_ret
          exact ⟨rfl, hB⟩
        | false =>
          have hE' := Lib.hid (bneF hE)
          have hs1 := enc_small H4.out
          have hs2 := enc_two hE'.out
          have D1 := Lib.hid (dec_enc hE'.out HR.out x y)
          have D2 := Lib.hid (dec_short hE'.out HR.out)
          generalize encS L = s at *
          go_wp2_with fail
          refine (dec_any (x ++ s ++ y) x.size (by rw [ByteArray.size_append, ByteArray.size_append]; omega) _).mono ?_
          rintro e w3 ⟨A1, n1, c1, rfl, hn1, hc1, hp1, hb3⟩
          rw [D1.out.1] at hn1 hp1
          rw [D1.out.2.1, D1.out.2.2.1]
          obtain rfl : n1 = n := hn1.symm.trans HN.out
          have HQ := Lib.hid hp1
          replace HP1 := Lib.hid (HP1.out.up hb3)
          replace hB := below_on (w := w) hB hb3
          clear hb3 hp1 hn1 D1
          have hmod : 0 ≤ u % (s.size : Int) ∧ u % (s.size : Int) < s.size := ⟨Int.emod_nonneg _ (by omega), Int.emod_lt_of_pos _ (by omega)⟩
          go_wp2_with (first
            | (go_at_call 46; refine (same6_any HN.out hN2 HP1.out HQ.out _ (Below.refl _ _)).mono ?_; rintro e w4 ⟨rfl, hb4⟩; replace hB := below_on (w := w) hB hb4; clear hb4))
          have hm2 : (u % (s.size : Int)).toNat < s.size := by omega
          refine (dec_any (s.extract 0 (u % (s.size : Int)).toNat) 0 (by rw [sz_ex (Nat.zero_le _) (by omega)]; omega) _).mono ?_
          rintro e w5 ⟨A2, n2, c2, rfl, hn2, hc2, hp2, hb5⟩
          rw [D2.out _ hm2]
          replace hB := below_on (w := w) hB hb5
          clear hb5 hp2 hn2 D2
          go_wp2_with (go_at_call 41; refine (awake6_any _).mono ?_; rintro e w1 ⟨rfl, hb1⟩; obtain ⟨hc1, hf1⟩ := bcell hb1; have hz1 := hb1.size; (try simp only [World.size_alloc, World.size_setCell] at hz1); (try have hza : w.heap.size < w1.heap.size := by omega); (try have hzb : w.heap.size + 1 < w1.heap.size := by omega); (try have hzc : w.heap.size + 1 + 1 < w1.heap.size := by omega); (try have hzd : wa.heap.size < w1.heap.size := by omega); (try replace hR := (hb1.block w.heap.size (by first | exact lt_heap hR | (have := lt_heap hR; simp; omega))).trans (by first | with_reducible exact hR | with_reducible exact laid_old hR)); replace hB := below_on (w := w) ((by repeat (first | with_reducible exact hB | with_reducible exact Below.refl _ _ | with_reducible refine below_al ?_ _ | with_reducible refine below_st ?_ (by first | exact Nat.le_refl _ | exact Nat.le_add_right _ _ | (simp; omega)) _))) hb1; clear hb1)
          go_ret
          exact ⟨rfl, hB⟩

theorem deL_short {s : ByteArray} (hs : s.size ≤ 2000000) (p : Int) : Short (deL s p) := by
  by_cases h : deE s p = 0
  · obtain ⟨hp, h2, h3, h4⟩ := de_zero h
    rw [(de_5 hp h2 h3 h4).1]
    exact dk_short hs _ _
  · rw [(de_bad h).1]
    exact fun c hc => by cases hc
set_option maxRecDepth 100000 in
set_option maxHeartbeats 1000000 in
theorem pcan_law (s : ByteArray) (p : Int) (hs : s.size ≤ 140737488351232) (w : World) :
    Calls Tryd.prog 11 #[.string s, .int .i64 p] w fun e w' => e = .returned (.bool true) ∧ Below w.heap.size w w' := by
  have hB : Below w.heap.size w w := Below.refl _ _
  go_enter Tryd.func11, Tryd.ntmps11
  by_cases h5 : 5000 < s.size
  · go_wp2_with (go_at_call 41; refine (awake6_any _).mono ?_; rintro e w1 ⟨rfl, hb1⟩; obtain ⟨hc1, hf1⟩ := bcell hb1; have hz1 := hb1.size; (try simp only [World.size_alloc, World.size_setCell] at hz1); (try have hza : w.heap.size < w1.heap.size := by omega); (try have hzb : w.heap.size + 1 < w1.heap.size := by omega); (try have hzc : w.heap.size + 1 + 1 < w1.heap.size := by omega); (try have hzd : wa.heap.size < w1.heap.size := by omega); (try replace hR := (hb1.block w.heap.size (by first | exact lt_heap hR | (have := lt_heap hR; simp; omega))).trans (by first | with_reducible exact hR | with_reducible exact laid_old hR)); replace hB := below_on (w := w) ((by repeat (first | with_reducible exact hB | with_reducible exact Below.refl _ _ | with_reducible refine below_al ?_ _ | with_reducible refine below_st ?_ (by first | exact Nat.le_refl _ | exact Nat.le_add_right _ _ | (simp; omega)) _))) hb1; clear hb1)
    go_ret
    exact ⟨rfl, hB⟩
  · have h2 : s.size ≤ 2000000 := by omega
    go_wp2_with fail
    refine (dec_any s p h2 _).mono ?_
    rintro e w1 ⟨A1, n1, c1, rfl, hn1, hc1, hp1, hb1⟩
    have HP1 := Lib.hid hp1
    have HN1 := Lib.hid hn1
    have hN1 : n1 ≤ 100000 := by have := deL_len s p; have := HN1.out; omega
    replace hB := below_on (w := w) hB hb1
    clear hb1 hp1 hn1
    cases hE : (deE s p != 0) with
    | true =>
      have hb := de_bad (bneT hE)
      have hN0 : n1 = 0 := by rw [← HN1.out, hb.1]; rfl
      subst hN0
      rw [hb.2]
      clear hb
      go_wp2_with (go_at_call 41; refine (awake6_any _).mono ?_; rintro e w1 ⟨rfl, hb1⟩; obtain ⟨hc1, hf1⟩ := bcell hb1; have hz1 := hb1.size; (try simp only [World.size_alloc, World.size_setCell] at hz1); (try have hza : w.heap.size < w1.heap.size := by omega); (try have hzb : w.heap.size + 1 < w1.heap.size := by omega); (try have hzc : w.heap.size + 1 + 1 < w1.heap.size := by omega); (try have hzd : wa.heap.size < w1.heap.size := by omega); (try replace hR := (hb1.block w.heap.size (by first | exact lt_heap hR | (have := lt_heap hR; simp; omega))).trans (by first | with_reducible exact hR | with_reducible exact laid_old hR)); replace hB := below_on (w := w) ((by repeat (first | with_reducible exact hB | with_reducible exact Below.refl _ _ | with_reducible refine below_al ?_ _ | with_reducible refine below_st ?_ (by first | exact Nat.le_refl _ | exact Nat.le_add_right _ _ | (simp; omega)) _))) hb1; clear hb1)
      go_ret
      exact ⟨rfl, hB⟩
    | false =>
      obtain ⟨c1', c2', c3', c4', c5'⟩ := canon (bneF hE)
      have HS := Lib.hid (deL_short h2 p)
      have C4 := Lib.hid c4'
      have C5 := Lib.hid c5'
      clear c4' c5'
      generalize deL s p = L at *
      generalize deN s p = q at *
      go_wp2_with fail
      refine (enc_any HS.out HN1.out hN1 HP1.out _ (Below.refl _ _)).mono ?_
      rintro e w2 ⟨rfl, hb2⟩
      rw [C4.out, C5.out]
      replace HP1 := Lib.hid (HP1.out.up hb2)
      replace hB := below_on (w := w) hB hb2
      clear hb2
      go_wp2_with fail
      refine (rcheck_any HS.out HN1.out hN1 HP1.out _ (Below.refl _ _)).mono ?_
      rintro e w3 ⟨rfl, hb3⟩
      rw [C4.out]
      replace hB := below_on (w := w) hB hb3
      clear hb3
      go_wp2_with (go_at_call 41; refine (awake6_any _).mono ?_; rintro e w1 ⟨rfl, hb1⟩; obtain ⟨hc1, hf1⟩ := bcell hb1; have hz1 := hb1.size; (try simp only [World.size_alloc, World.size_setCell] at hz1); (try have hza : w.heap.size < w1.heap.size := by omega); (try have hzb : w.heap.size + 1 < w1.heap.size := by omega); (try have hzc : w.heap.size + 1 + 1 < w1.heap.size := by omega); (try have hzd : wa.heap.size < w1.heap.size := by omega); (try replace hR := (hb1.block w.heap.size (by first | exact lt_heap hR | (have := lt_heap hR; simp; omega))).trans (by first | with_reducible exact hR | with_reducible exact laid_old hR)); replace hB := below_on (w := w) ((by repeat (first | with_reducible exact hB | with_reducible exact Below.refl _ _ | with_reducible refine below_al ?_ _ | with_reducible refine below_st ?_ (by first | exact Nat.le_refl _ | exact Nat.le_add_right _ _ | (simp; omega)) _))) hb1; clear hb1)
      go_ret
      exact ⟨rfl, hB⟩

end Go.Proofs.YtfcefeepkpkcmaaDoor

/- PcOpen -/
/- Layer 6: what the reach says of a pool's texts and numbers. -/
namespace Go.Proofs.YtfcefeepkpkcmaaDoor
open Go.ChangeShapes Go.WideShapes Go.ChangeAt Go.RowKit Go.Deep
set_option linter.unusedSimpArgs false
set_option linter.unusedVariables false

section
variable {H : Type} {enc : TypeId × Value → H} {w : World} {base : Nat} {spare : Nat → Bool} {held : Bool}
set_option maxRecDepth 100000 in
theorem rng_cn {fuel : Nat} {p : Cn} {x : DataW H × List MemPlace} (h : DataW.trod enc Tryd.prog w base spare held fuel 26 (cnCells p) = some x) : Rng p := by
  obtain ⟨xs, n, _, e, hl, hxl, hg⟩ := DataW.trod_struct Tryd.underlying26 h
  have h2 := hg 2 _ rfl
  obtain ⟨y0, y1, y2, y3, y4, rfl⟩ := list5 xs hxl
  change DataW.trod enc Tryd.prog w base spare held n 3 (List.take (Tryd.prog.cellsOf 3) [.int .i64 p.n, .int .i64 p.a, .int .i64 p.b]) = some y2 at h2
  rw [cellsI] at h2
  obtain ⟨a2, e2, _, hw⟩ := DataW.trod_int Tryd.underlying3 h2
  simp at e2
  subst e2
  simp only [Lit.wf, Bool.and_eq_true, decide_eq_true_iff] at hw
  exact ⟨hw.1, hw.2⟩
theorem u16_of {a : Int} (h : (Lit.int .u16 a).wf = true) : 0 ≤ a ∧ a ≤ 65535 := by
  simp only [Lit.wf, Bool.and_eq_true, decide_eq_true_iff] at h
  exact ⟨h.1, h.2⟩
set_option maxRecDepth 100000 in
theorem open_pool_wr {fuel : Nat} {cs : List Value} {x : DataW H × List MemPlace} (h : DataW.trod enc Tryd.prog w base spare held fuel 22 cs = some x) :
    ∃ (A : Option Addr) (n c : Nat) (L : List Cn), cs = [.slice A n c] ∧ L.length = n ∧ n ≤ c ∧ Pool w w.heap.size A L ∧ ∀ p ∈ L, (p.s.size ∈ x.1.weights Tryd.prog 22 ∧ Rng p) := by
  rcases open_slice Tryd.underlying22 h with ⟨rfl, _⟩ | ⟨a, len, cap, m, n, D, Pl, rfl, hb, hl, hm, hmm, hx, hi⟩
  · exact ⟨none, 0, 0, [], rfl, rfl, Nat.le_refl _, Or.inl rfl, fun p hp => by cases hp⟩
  · have hlm : len ≤ m := by rw [hmm]; split <;> omega
    have key : ∀ i, i < len → ∃ p : Cn, (w.cell? (a.add (i * 5)) = some (.int .i64 p.t) ∧ w.cell? (a.add (i * 5 + 1)) = some (.string p.s) ∧ w.cell? (a.add (i * 5 + 2)) = some (.int .i64 p.n) ∧ w.cell? (a.add (i * 5 + 3)) = some (.int .i64 p.a) ∧ w.cell? (a.add (i * 5 + 4)) = some (.int .i64 p.b)) ∧ (p.s.size ∈ x.1.weights Tryd.prog 22 ∧ Rng p) := by
      intro i hil
      obtain ⟨cs', hc, ht⟩ := hi i (by omega)
      rw [cellsCn] at hc
      obtain ⟨p, rfl, _⟩ := open_cn ht
      have hp : (p.s.size ∈ x.1.weights Tryd.prog 22 ∧ Rng p) := by
        refine ⟨?_, rng_cn ht⟩
        rw [hx]
        have h9 := wts_all (P := Tryd.prog) (e := 26) (List.mem_map.2 ⟨i, List.mem_range.2 hil, rfl⟩ : D i ∈ (List.range len).map D) (wts_cn ht)
        simp only [DataW.weights, Tryd.underlying22, List.mem_cons, List.mem_append]
        exact Or.inr (Or.inl h9)
      obtain ⟨_, _, hat⟩ := World.cells?_some hc
      refine ⟨p, ⟨?_, ?_, ?_, ?_, ?_⟩, hp⟩
      · have := hat 0 (by decide); rwa [add_add] at this
      · have := hat 1 (by decide); rwa [add_add] at this
      · have := hat 2 (by decide); rwa [add_add] at this
      · have := hat 3 (by decide); rwa [add_add] at this
      · have := hat 4 (by decide); rwa [add_add] at this
    obtain ⟨f, hf⟩ : ∃ f : Nat → Cn, ∀ i, i < len → (w.cell? (a.add (i * 5)) = some (.int .i64 (f i).t) ∧ w.cell? (a.add (i * 5 + 1)) = some (.string (f i).s) ∧ w.cell? (a.add (i * 5 + 2)) = some (.int .i64 (f i).n) ∧ w.cell? (a.add (i * 5 + 3)) = some (.int .i64 (f i).a) ∧ w.cell? (a.add (i * 5 + 4)) = some (.int .i64 (f i).b)) ∧ ((f i).s.size ∈ x.1.weights Tryd.prog 22 ∧ Rng (f i)) :=
      ⟨fun i => if hi : i < len then (key i hi).choose else cnZ, fun i hi => by
        simp only [dif_pos hi]
        exact (key i hi).choose_spec⟩
    refine ⟨some a, len, cap, (List.range len).map f, rfl, by simp, hl, ?_, ?_⟩
    · rcases Nat.eq_zero_or_pos len with h0 | h0
      · exact Or.inl (by rw [h0]; rfl)
      · have c0 := (hf 0 h0).1.1
        obtain ⟨g, o, sp⟩ := a
        have hsp : sp = none := by
          have := World.cell?_spot c0
          simpa [Addr.add] using this
        subst hsp
        refine Or.inr ⟨g, o, rfl, ?_, fun i p hp => ?_⟩
        · have := cell_lt c0
          rw [Addr.add_lit] at this
          exact this
        · rw [List.getElem?_map] at hp
          cases hr : (List.range len)[i]? with
          | none => rw [hr] at hp; cases hp
          | some j =>
            rw [hr] at hp
            have hil : i < len := by
              rcases Nat.lt_or_ge i len with h | h
              · exact h
              · rw [List.getElem?_eq_none (by simpa using h)] at hr; cases hr
            have hj : j = i := by rw [List.getElem?_range hil] at hr; injection hr with hr; exact hr.symm
            subst hj
            injection hp with hp
            subst hp
            obtain ⟨⟨e0, e1, e2, e3, e4⟩, _⟩ := hf j hil
            rw [Addr.add_lit] at e0 e1 e2 e3 e4
            exact ⟨e0, e1, e2, e3, e4⟩
    · intro p hp
      rw [List.mem_map] at hp
      obtain ⟨j, hj, rfl⟩ := hp
      exact (hf j (List.mem_range.1 hj)).2
set_option maxRecDepth 100000 in
theorem open_pool_rng {r : Reach} {b0 : Nat} {v : Value} {d : DataW H} {q : List MemPlace} (hv : Value.okWide Tryd.prog w r b0 22 v) (h : DataW.Trod enc Tryd.prog w base spare held 22 v d q) :
    ∃ (A : Option Addr) (n c : Nat) (L : List Cn), v = .slice A n c ∧ L.length = n ∧ n ≤ c ∧ Pool w w.heap.size A L ∧ ∀ p ∈ L, (p.s.size ∈ d.weights Tryd.prog 22 ∧ Rng p) := by
  obtain ⟨a, len, cap, rfl⟩ := okWide_slice Tryd.underlying22 hv
  obtain ⟨fuel, hf⟩ := h
  obtain ⟨A, n, c, L, e, hn, hc, ht, hs⟩ := open_pool_wr hf
  have e' : (.slice a len cap : Value) = .slice A n c := by simpa [Value.cells] using e
  exact ⟨A, n, c, L, e', hn, hc, ht, hs⟩
end

end Go.Proofs.YtfcefeepkpkcmaaDoor
