/- Layer 4: what a descriptor at the head of a list of bytes says. No walk. -/
import Derived.Test.YthfegbhbokhlkaaGreatDoorDescFmt
namespace Go.Proofs.YthfegbhbokhlkaaGreatDoor
open Go.ChangeShapes Go.WideShapes Go.ChangeAt Go.RowKit Go.PlainAid
set_option linter.unusedSimpArgs false
set_option linter.unusedVariables false

theorem fi_at (p : UInt8 → Bool) (l : List UInt8) (k : Nat) (hk : k ≤ l.length) (h1 : ∀ j, j < k → p (l.getD j 0) = false) (h2 : k < l.length → p (l.getD k 0) = true) : l.findIdx p = k := by
  rcases Nat.lt_or_ge k l.length with h | h
  · rw [List.findIdx_eq h]
    refine ⟨?_, fun j hj => ?_⟩
    · have := h2 h; rwa [List.getD_eq_getElem?_getD, List.getElem?_eq_getElem h] at this
    · have := h1 j hj; rwa [List.getD_eq_getElem?_getD, List.getElem?_eq_getElem (by omega)] at this
  · obtain rfl : k = l.length := by omega
    rw [List.findIdx_eq_length]
    intro x hx
    obtain ⟨j, hj, rfl⟩ := List.getElem_of_mem hx
    have := h1 j hj; rwa [List.getD_eq_getElem?_getD, List.getElem?_eq_getElem hj] at this
theorem fi_lt (p : UInt8 → Bool) (l : List UInt8) (j : Nat) (h : j < l.findIdx p) : p (l.getD j 0) = false := by
  have hl : j < l.length := Nat.lt_of_lt_of_le h List.findIdx_le_length
  have := List.not_of_lt_findIdx h
  rw [List.getD_eq_getElem?_getD, List.getElem?_eq_getElem hl]
  simpa using this
theorem fi_eq (p : UInt8 → Bool) (l : List UInt8) (h : l.findIdx p < l.length) : p (l.getD (l.findIdx p) 0) = true := by
  rw [List.getD_eq_getElem?_getD, List.getElem?_eq_getElem h]
  exact List.findIdx_getElem

def lead (l : List UInt8) : Nat := l.findIdx (· != 91)
def till (l : List UInt8) : Nat := l.findIdx (· == 59)
theorem lead_le (l : List UInt8) : lead l ≤ l.length := List.findIdx_le_length
theorem till_le (l : List UInt8) : till l ≤ l.length := List.findIdx_le_length

theorem u8_yes {b c : UInt8} (h : (b.toNat : Int) = (c.toNat : Int)) : b = c := UInt8.toNat_inj.1 (by omega)
theorem u8_no {b c : UInt8} (h : ¬ (b.toNat : Int) = (c.toNat : Int)) : ¬ b = c := fun e => h (by rw [e])
/-- what the descriptor at the head of l says: dimensions, base, name, and the number of bytes that it takes (0: there is none) -/
def preOf (k : Nat) (b : Int) (n : ByteArray) (c : Nat) : Int × Int × ByteArray × Int := if validB k b n = true then (k, b, n, c) else (0, 0, ⟨#[]⟩, 0)
def pre (l : List UInt8) : Int × Int × ByteArray × Int :=
  if lead l < l.length then
    if ((l.getD (lead l) 0).toNat : Int) = 76 then
      if till (l.drop (lead l + 1)) < (l.drop (lead l + 1)).length then
        preOf (lead l) 76 ⟨((l.drop (lead l + 1)).take (till (l.drop (lead l + 1)))).toArray⟩ (lead l + 1 + (till (l.drop (lead l + 1)) + 1))
      else (0, 0, ⟨#[]⟩, 0)
    else preOf (lead l) ((l.getD (lead l) 0).toNat) ⟨#[]⟩ (lead l + 1)
  else (0, 0, ⟨#[]⟩, 0)
def preD (l : List UInt8) : Int := (pre l).1
def preB (l : List UInt8) : Int := (pre l).2.1
def preS (l : List UInt8) : ByteArray := (pre l).2.2.1
def preN (l : List UInt8) : Int := (pre l).2.2.2
theorem pre_is {l : List UInt8} {d b c : Int} {n : ByteArray} (h : pre l = (d, b, n, c)) : preD l = d ∧ preB l = b ∧ preS l = n ∧ preN l = c := by
  unfold preD preB preS preN; rw [h]; exact ⟨rfl, rfl, rfl, rfl⟩
theorem pre_end {l : List UInt8} (h : ¬ lead l < l.length) : pre l = (0, 0, ⟨#[]⟩, 0) := by unfold pre; rw [if_neg h]
theorem pre_prim {l : List UInt8} (h : lead l < l.length) (hb : ¬ ((l.getD (lead l) 0).toNat : Int) = 76) : pre l = preOf (lead l) ((l.getD (lead l) 0).toNat) ⟨#[]⟩ (lead l + 1) := by unfold pre; rw [if_pos h, if_neg hb]
theorem pre_open {l : List UInt8} (h : lead l < l.length) (hb : ((l.getD (lead l) 0).toNat : Int) = 76) (ht : ¬ till (l.drop (lead l + 1)) < (l.drop (lead l + 1)).length) : pre l = (0, 0, ⟨#[]⟩, 0) := by unfold pre; rw [if_pos h, if_pos hb, if_neg ht]
theorem pre_cls {l : List UInt8} (h : lead l < l.length) (hb : ((l.getD (lead l) 0).toNat : Int) = 76) (ht : till (l.drop (lead l + 1)) < (l.drop (lead l + 1)).length) : pre l = preOf (lead l) 76 ⟨((l.drop (lead l + 1)).take (till (l.drop (lead l + 1)))).toArray⟩ (lead l + 1 + (till (l.drop (lead l + 1)) + 1)) := by unfold pre; rw [if_pos h, if_pos hb, if_pos ht]
theorem pre_ok {k : Nat} {b : Int} {n : ByteArray} {c : Nat} (h : validB k b n = true) : preOf k b n c = (↑k, b, n, ↑c) := by unfold preOf; rw [if_pos h]
theorem pre_bad {k : Nat} {b : Int} {n : ByteArray} {c : Nat} (h : validB k b n = false) : preOf k b n c = (0, 0, ⟨#[]⟩, 0) := by unfold preOf; rw [h]; rfl

/-! ### the same, of a string read from a place on -/
theorem bt_drop (s : ByteArray) (i j : Nat) : (((s.data.toList.drop i).getD j 0).toNat : Int) = bt s (i + j) := by
  rw [bt_data, List.getD_eq_getElem?_getD, List.getD_eq_getElem?_getD, List.getElem?_drop]
theorem drop_len (s : ByteArray) (i : Nat) : (s.data.toList.drop i).length = s.size - i := by rw [List.length_drop, len_data]
theorem lead_at (s : ByteArray) (i k : Nat) (hk : i + k ≤ s.size) (h1 : ∀ j, j < k → bt s (i + j) = 91) (h2 : i + k < s.size → ¬ bt s (i + k) = 91) : lead (s.data.toList.drop i) = k := by
  refine fi_at _ _ _ (by rw [drop_len]; omega) (fun j hj => ?_) (fun h => ?_)
  · have h := h1 j hj
    rw [← bt_drop] at h
    have h' := u8_yes (c := 91) h
    rw [h']; rfl
  · have h := h2 (by rw [drop_len] at h; omega)
    rw [← bt_drop] at h
    have h' := u8_no (c := 91) h
    simpa using h'
theorem till_at (s : ByteArray) (i k : Nat) (hk : i + k ≤ s.size) (h1 : ∀ j, j < k → ¬ bt s (i + j) = 59) (h2 : i + k < s.size → bt s (i + k) = 59) : till (s.data.toList.drop i) = k := by
  refine fi_at _ _ _ (by rw [drop_len]; omega) (fun j hj => ?_) (fun h => ?_)
  · have h := h1 j hj
    rw [← bt_drop] at h
    have h' := u8_no (c := 59) h
    simpa using h'
  · have h := h2 (by rw [drop_len] at h; omega)
    rw [← bt_drop] at h
    have h' := u8_yes (c := 59) h
    rw [h']; rfl
theorem lead_lt (s : ByteArray) (i j : Nat) (h : j < lead (s.data.toList.drop i)) : bt s (i + j) = 91 := by
  have h' := fi_lt _ _ _ h
  rw [← bt_drop]
  have : (s.data.toList.drop i).getD j 0 = 91 := by simpa using h'
  rw [this]; rfl
theorem lead_not (s : ByteArray) (i : Nat) (h : i + lead (s.data.toList.drop i) < s.size) : ¬ bt s (i + lead (s.data.toList.drop i)) = 91 := by
  have h' := fi_eq (· != 91) (s.data.toList.drop i) (by have := drop_len s i; unfold lead at h; omega)
  rw [← bt_drop]
  have h2 : ¬ (s.data.toList.drop i).getD (lead (s.data.toList.drop i)) 0 = 91 := by unfold lead; simpa using h'
  intro e
  exact h2 (u8_yes (c := 91) e)
theorem till_lt (s : ByteArray) (i j : Nat) (h : j < till (s.data.toList.drop i)) : ¬ bt s (i + j) = 59 := by
  have h' := fi_lt _ _ _ h
  rw [← bt_drop]
  have h2 : ¬ (s.data.toList.drop i).getD j 0 = 59 := by simpa using h'
  intro e
  exact h2 (u8_yes (c := 59) e)
theorem till_is (s : ByteArray) (i : Nat) (h : i + till (s.data.toList.drop i) < s.size) : bt s (i + till (s.data.toList.drop i)) = 59 := by
  have h' := fi_eq (· == 59) (s.data.toList.drop i) (by have := drop_len s i; unfold till at h; omega)
  rw [← bt_drop]
  have h2 : (s.data.toList.drop i).getD (till (s.data.toList.drop i)) 0 = 59 := by unfold till; simpa using h'
  rw [h2]; rfl
theorem lead_bd (s : ByteArray) (i : Nat) (hi : i ≤ s.size) : i + lead (s.data.toList.drop i) ≤ s.size := by have := lead_le (s.data.toList.drop i); rw [drop_len] at this; omega
theorem till_bd (s : ByteArray) (i : Nat) (hi : i ≤ s.size) : i + till (s.data.toList.drop i) ≤ s.size := by have := till_le (s.data.toList.drop i); rw [drop_len] at this; omega
theorem index_till (l : List UInt8) : Lib.indexByte l 59 = if till l < l.length then (till l : Int) else -1 := by
  induction l with
  | nil => rfl
  | cons c l ih =>
    by_cases h : c = 59
    · subst h
      have ht : till (59 :: l) = 0 := by unfold till; rw [List.findIdx_cons]; rfl
      rw [ht, if_pos (by simp)]
      unfold Lib.indexByte; simp
    · have hb : (c == 59) = false := by simpa using h
      have ht : till (c :: l) = till l + 1 := by unfold till; rw [List.findIdx_cons, hb]; rfl
      have hi : Lib.indexByte (c :: l) 59 = if Lib.indexByte l 59 == -1 then -1 else Lib.indexByte l 59 + 1 := by
        conv => lhs; unfold Lib.indexByte
        rw [hb]; rfl
      rw [hi, ih, ht, List.length_cons]
      by_cases hl : till l < l.length
      · have e1 : ((till l : Int) == -1) = false := by first | (simp; done) | (simp; omega)
        rw [if_pos hl, if_pos (show till l + 1 < l.length + 1 by omega), e1]
        simp
      · rw [if_neg hl, if_neg (show ¬ till l + 1 < l.length + 1 by omega)]; rfl

/-- whatever pre says: nothing, or a valid type that takes some bytes -/
theorem pre_cases (l : List UInt8) : (preN l = 0 ∧ preD l = 0 ∧ preB l = 0 ∧ preS l = ⟨#[]⟩) ∨ (0 < preN l ∧ preN l ≤ l.length ∧ validB (preD l) (preB l) (preS l) = true ∧ (preS l).size ≤ l.length) := by
  have key : ∀ (k : Nat) (b : Int) (n : ByteArray) (c : Nat), 0 < c → c ≤ l.length → n.size ≤ l.length → pre l = preOf k b n c → (preN l = 0 ∧ preD l = 0 ∧ preB l = 0 ∧ preS l = ⟨#[]⟩) ∨ (0 < preN l ∧ preN l ≤ l.length ∧ validB (preD l) (preB l) (preS l) = true ∧ (preS l).size ≤ l.length) := by
    intro k b n c hc hl hn hp
    cases hv : validB k b n with
    | false => rw [pre_bad hv] at hp; obtain ⟨h1, h2, h3, h4⟩ := pre_is hp; exact Or.inl ⟨h4, h1, h2, h3⟩
    | true => rw [pre_ok hv] at hp; obtain ⟨h1, h2, h3, h4⟩ := pre_is hp; rw [h1, h2, h3, h4]; exact Or.inr ⟨by omega, by omega, hv, hn⟩
  by_cases h : lead l < l.length
  · by_cases hb : ((l.getD (lead l) 0).toNat : Int) = 76
    · by_cases ht : till (l.drop (lead l + 1)) < (l.drop (lead l + 1)).length
      · refine key _ _ _ _ (by omega) ?_ ?_ (pre_cls h hb ht)
        · rw [List.length_drop] at ht; omega
        · show (((l.drop (lead l + 1)).take (till (l.drop (lead l + 1)))).toArray).size ≤ _
          rw [List.size_toArray, List.length_take, List.length_drop]; omega
      · obtain ⟨h1, h2, h3, h4⟩ := pre_is (pre_open h hb ht); exact Or.inl ⟨h4, h1, h2, h3⟩
    · exact key _ _ _ _ (by omega) (by omega) (Nat.zero_le _) (pre_prim h hb)
  · obtain ⟨h1, h2, h3, h4⟩ := pre_is (pre_end h); exact Or.inl ⟨h4, h1, h2, h3⟩

/-! ### worlds -/
theorem bcell {W w1 : World} (hb : Below W.heap.size W w1) : (∀ b o, b < W.heap.size → w1.cell? ⟨b, o, none⟩ = W.cell? ⟨b, o, none⟩) ∧ (∀ b o, b < W.heap.size → w1.frozen? ⟨b, o, none⟩ = W.frozen? ⟨b, o, none⟩) :=
  ⟨fun b o h => hb.cell (p := ⟨b, o, none⟩) h, fun b o h => hb.frozen (p := ⟨b, o, none⟩) h⟩
theorem below_on {w W w1 : World} (h : Below w.heap.size w W) (k : Below W.heap.size W w1) : Below w.heap.size w w1 := h.trans (k.mono h.size)
theorem below_st {w W : World} {p : Addr} (h : Below w.heap.size w W) (hp : w.heap.size ≤ p.block) (u : Value) : Below w.heap.size w (W.setCell p u) := h.setCell hp u

theorem set_same {W : World} {a : Addr} {v : Value} (h : (W.cell? a).isSome = true) : (W.setCell a v).cell? a = some v := by
  obtain ⟨u, hu⟩ := Option.isSome_iff_exists.1 h
  exact World.cell?_setCell_same W a _ hu
theorem set_isSome {W : World} {a b : Addr} {v : Value} (h : (W.cell? b).isSome = true) : ((W.setCell a v).cell? b).isSome = true := by
  by_cases e : a = b
  · subst e; rw [set_same h]; rfl
  · rw [World.cell?_setCell_other W a b v e]; exact h
theorem off_ne {B i j : Nat} (h : i ≠ j) : (⟨B, i, none⟩ : Addr) ≠ ⟨B, j, none⟩ := fun e => h (by injection e)
theorem read3 {W : World} {B : Nat} {a b c : Value} (h0 : (W.cell? ⟨B, 0, none⟩).isSome = true) (h1 : (W.cell? ⟨B, 1, none⟩).isSome = true) (h2 : (W.cell? ⟨B, 2, none⟩).isSome = true) :
    (((W.setCell ⟨B, 0, none⟩ a).setCell ⟨B, 1, none⟩ b).setCell ⟨B, 2, none⟩ c).cell? ⟨B, 0, none⟩ = some a ∧ (((W.setCell ⟨B, 0, none⟩ a).setCell ⟨B, 1, none⟩ b).setCell ⟨B, 2, none⟩ c).cell? ⟨B, 1, none⟩ = some b ∧ (((W.setCell ⟨B, 0, none⟩ a).setCell ⟨B, 1, none⟩ b).setCell ⟨B, 2, none⟩ c).cell? ⟨B, 2, none⟩ = some c := by
  refine ⟨?_, ?_, ?_⟩
  · rw [World.cell?_setCell_other _ _ _ _ (off_ne (by decide)), World.cell?_setCell_other _ _ _ _ (off_ne (by decide)), set_same h0]
  · rw [World.cell?_setCell_other _ _ _ _ (off_ne (by decide)), set_same (set_isSome h1)]
  · rw [set_same (set_isSome (set_isSome h2))]

end Go.Proofs.YthfegbhbokhlkaaGreatDoor
