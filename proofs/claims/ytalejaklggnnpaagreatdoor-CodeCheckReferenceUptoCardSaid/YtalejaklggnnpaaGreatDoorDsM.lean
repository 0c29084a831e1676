import Derived.Test.YtalejaklggnnpaaGreatDoorNmM
import Derived.Test.YtalejaklggnnpaaGreatDoorShelfS
import Derived.Deep.AppendLies
import Derived.Deep.Cut
/- Desc -/
/- Layer 4: types. Valid, Element, ArrayOf, Kind, in the package and in its reference. -/
namespace Go.Proofs.YtalejaklggnnpaaGreatDoor
open Go.ChangeShapes Go.WideShapes Go.ChangeAt Go.RowKit Go.PlainAid
set_option linter.unusedSimpArgs false
set_option linter.unusedVariables false
theorem below_al {w W : World} (h : Below w.heap.size w W) (o : Obj) : Below w.heap.size w (W.alloc o) := h.alloc h.size _
def validB (d b : Int) (n : ByteArray) : Bool :=
 decide (0 ≤ d ∧ d ≤ 8) && (if b = 73 ∨ b = 74 then n.toList.isEmpty else if b = 76 then clsB n else if b = 86 then decide (d = 0) && n.toList.isEmpty else false)
theorem valid_far {d b : Int} {n : ByteArray} (h : ¬ (0 ≤ d ∧ d ≤ 8)) : validB d b n = false := by unfold validB; rw [decide_eq_false h, Bool.false_and]
theorem valid_in {d b : Int} {n : ByteArray} (h : 0 ≤ d ∧ d ≤ 8) : validB d b n = (if b = 73 ∨ b = 74 then n.toList.isEmpty else if b = 76 then clsB n else if b = 86 then decide (d = 0) && n.toList.isEmpty else false) := by
 unfold validB; rw [decide_eq_true h, Bool.true_and]
theorem valid_any (d b : Int) (n : ByteArray) (w : World) :
  Calls Tryz.prog 170 #[.agg #[.int .i64 d, .int .u8 b, .string n]] w fun e w' => e = .returned (.bool (validB d b n)) ∧ Below w.heap.size w w' := by
 have hB : Below w.heap.size w w := Below.refl _ _
 by_cases hd : 0 ≤ d ∧ d ≤ 8
 ·
  rw [valid_in hd]
  by_cases h1 : b = 73
  ·
   subst h1
   rw [if_pos (by simp)]
   go_enter Tryz.func170, Tryz.ntmps170
   go_wp2
   go_ret
   exact ⟨rfl, below_al hB _⟩
  ·
   by_cases h2 : b = 74
   ·
    subst h2
    rw [if_pos (by simp)]
    go_enter Tryz.func170, Tryz.ntmps170
    go_wp2
    go_ret
    exact ⟨rfl, below_al hB _⟩
   ·
    rw [if_neg (by omega)]
    have e1 := beqF h1
    have e2 := beqF h2
    by_cases h3 : b = 76
    ·
     subst h3
     rw [if_pos rfl]
     go_enter Tryz.func170, Tryz.ntmps170
     go_wp2_with (go_at_call 187; refine (cls_any _ _).mono ?_; rintro e w1 ⟨rfl, hb1⟩; (first | replace hB := Below.trans hB (hb1.mono hB.size) | replace hB := Below.trans (below_al hB _) (hb1.mono (below_al hB _).size) | replace hB := Below.trans (below_al (below_al hB _) _) (hb1.mono (below_al (below_al hB _) _).size)); clear hb1)
     go_ret
     exact ⟨rfl, hB⟩
    ·
     rw [if_neg h3]
     have e3 := beqF h3
     by_cases h4 : b = 86
     ·
      subst h4
      rw [if_pos rfl]
      by_cases h0 : d = 0
      ·
       subst h0
       go_enter Tryz.func170, Tryz.ntmps170
       go_wp2
       go_ret
       exact ⟨rfl, below_al hB _⟩
      ·
       have e0 := beqF h0
       rw [decide_eq_false h0]
       go_enter Tryz.func170, Tryz.ntmps170
       go_wp2
       go_ret
       exact ⟨rfl, below_al hB _⟩
     ·
      rw [if_neg h4]
      have e4 := beqF h4
      go_enter Tryz.func170, Tryz.ntmps170
      go_wp2
      go_ret
      exact ⟨rfl, below_al hB _⟩
 ·
  rw [valid_far hd]
  by_cases h0 : d < 0
  ·
   go_enter Tryz.func170, Tryz.ntmps170
   go_wp2
   go_ret
   exact ⟨rfl, below_al hB _⟩
  ·
   have h8 : 8 < d := by omega
   go_enter Tryz.func170, Tryz.ntmps170
   go_wp2
   go_ret
   exact ⟨rfl, below_al hB _⟩
theorem rvalid_any (d b : Int) (n : ByteArray) (hn : n.size ≤ 9223372036854775807) (w : World) :
  Calls Tryz.prog 180 #[.agg #[.int .i64 d, .int .u8 b, .string n]] w fun e w' => e = .returned (.bool (validB d b n)) ∧ Below w.heap.size w w' := by
 have hB : Below w.heap.size w w := Below.refl _ _
 by_cases hd : 0 ≤ d ∧ d ≤ 8
 ·
  rw [valid_in hd]
  by_cases h1 : b = 73
  ·
   subst h1
   rw [if_pos (by simp)]
   go_enter Tryz.func180, Tryz.ntmps180
   go_wp2
   go_ret
   exact ⟨rfl, below_al hB _⟩
  ·
   by_cases h2 : b = 74
   ·
    subst h2
    rw [if_pos (by simp)]
    go_enter Tryz.func180, Tryz.ntmps180
    go_wp2
    go_ret
    exact ⟨rfl, below_al hB _⟩
   ·
    rw [if_neg (by omega)]
    have e1 := beqF h1
    have e2 := beqF h2
    by_cases h3 : b = 76
    ·
     subst h3
     rw [if_pos rfl]
     go_enter Tryz.func180, Tryz.ntmps180
     go_wp2_with (go_at_call 188; refine (rcls_any _ hn _).mono ?_; rintro e w' ⟨rfl, rfl⟩)
     go_ret
     exact ⟨rfl, below_al hB _⟩
    ·
     rw [if_neg h3]
     have e3 := beqF h3
     by_cases h4 : b = 86
     ·
      subst h4
      rw [if_pos rfl]
      cases hz : n.toList.isEmpty with
      | true =>
       go_enter Tryz.func180, Tryz.ntmps180
       go_wp2
       go_ret
       exact ⟨ret_bool (by by_cases h0 : d = 0 <;> simp [h0]), below_al hB _⟩
      | false =>
       go_enter Tryz.func180, Tryz.ntmps180
       go_wp2
       go_ret
       exact ⟨ret_bool (by by_cases h0 : d = 0 <;> simp [h0]), below_al hB _⟩
     ·
      rw [if_neg h4]
      have e4 := beqF h4
      go_enter Tryz.func180, Tryz.ntmps180
      go_wp2
      go_ret
      exact ⟨rfl, below_al hB _⟩
 ·
  rw [valid_far hd]
  by_cases h0 : d < 0
  ·
   go_enter Tryz.func180, Tryz.ntmps180
   go_wp2
   go_ret
   exact ⟨rfl, below_al hB _⟩
  ·
   have h8 : 8 < d := by omega
   go_enter Tryz.func180, Tryz.ntmps180
   go_wp2
   go_ret
   exact ⟨rfl, below_al hB _⟩
end Go.Proofs.YtalejaklggnnpaaGreatDoor
/- DescTwo -/
/- Layer 4: Element, ArrayOf, Kind, in the package and in its reference. -/
namespace Go.Proofs.YtalejaklggnnpaaGreatDoor
open Go.ChangeShapes Go.WideShapes Go.ChangeAt Go.RowKit Go.PlainAid
set_option linter.unusedSimpArgs false
set_option linter.unusedVariables false
theorem three_cells {W : World} {B : Nat} {x y z : Value} {t : TypeId} (h : W.heap[B]? = some (.cells #[x, y, z] t)) :
  W.cell? ⟨B, 0, none⟩ = some x ∧ W.cell? ⟨B, 1, none⟩ = some y ∧ W.cell? ⟨B, 2, none⟩ = some z ∧ W.frozen? ⟨B, 0, none⟩ = false ∧ W.frozen? ⟨B, 1, none⟩ = false ∧ W.frozen? ⟨B, 2, none⟩ = false := by
 refine ⟨?_, ?_, ?_, ?_, ?_, ?_⟩ <;> simp [World.cell?, World.frozen?, h]
end Go.Proofs.YtalejaklggnnpaaGreatDoor
/- DescThree -/
/- Layer 4: ArrayOf, in the package and in its reference. -/
namespace Go.Proofs.YtalejaklggnnpaaGreatDoor
open Go.ChangeShapes Go.WideShapes Go.ChangeAt Go.RowKit Go.PlainAid
set_option linter.unusedSimpArgs false
set_option linter.unusedVariables false
end Go.Proofs.YtalejaklggnnpaaGreatDoor
/- DescKind -/
/- Layer 4: Kind, in the package and in its reference. -/
namespace Go.Proofs.YtalejaklggnnpaaGreatDoor
open Go.ChangeShapes Go.WideShapes Go.ChangeAt Go.RowKit Go.PlainAid
set_option linter.unusedSimpArgs false
set_option linter.unusedVariables false
end Go.Proofs.YtalejaklggnnpaaGreatDoor
/- DescText -/
/- Layer 4: the text of a valid type. -/
namespace Go.Proofs.YtalejaklggnnpaaGreatDoor
open Go.ChangeShapes Go.WideShapes Go.ChangeAt Go.RowKit Go.PlainAid
set_option linter.unusedSimpArgs false
set_option linter.unusedVariables false
end Go.Proofs.YtalejaklggnnpaaGreatDoor
/- DescFmt -/
/- Layer 4: Format and FormatClassConstant, in the package and in its reference. -/
namespace Go.Proofs.YtalejaklggnnpaaGreatDoor
open Go.ChangeShapes Go.WideShapes Go.ChangeAt Go.RowKit Go.PlainAid
set_option linter.unusedSimpArgs false
set_option linter.unusedVariables false
theorem notF {b : Bool} (h : (!b) = false) : b = true := by cases b <;> simp_all
theorem bneT {a b : Int} (h : (a != b) = true) : ¬ a = b := by simpa using h
theorem bneF {a b : Int} (h : (a != b) = false) : a = b := by simpa using h
theorem notT {b : Bool} (h : (!b) = true) : b = false := by cases b <;> simp_all
end Go.Proofs.YtalejaklggnnpaaGreatDoor
/- DescPre -/
/- Layer 4: what a descriptor at the head of a list of bytes says. No walk. -/
namespace Go.Proofs.YtalejaklggnnpaaGreatDoor
open Go.ChangeShapes Go.WideShapes Go.ChangeAt Go.RowKit Go.PlainAid
set_option linter.unusedSimpArgs false
set_option linter.unusedVariables false
theorem fi_lt (p : UInt8 → Bool) (l : List UInt8) (j : Nat) (h : j < l.findIdx p) : p (l.getD j 0) = false := by
 have hl : j < l.length := Nat.lt_of_lt_of_le h List.findIdx_le_length
 have := List.not_of_lt_findIdx h
 rw [List.getD_eq_getElem?_getD, List.getElem?_eq_getElem hl]
 simpa using this
theorem fi_eq (p : UInt8 → Bool) (l : List UInt8) (h : l.findIdx p < l.length) : p (l.getD (l.findIdx p) 0) = true := by
 rw [List.getD_eq_getElem?_getD, List.getElem?_eq_getElem h]
 exact List.findIdx_getElem
def lead (l : List UInt8) : Nat := l.findIdx (· != 91)
def till (l : List UInt8) : Nat := l.findIdx (· == 59)
theorem lead_le (l : List UInt8) : lead l ≤ l.length := List.findIdx_le_length
theorem till_le (l : List UInt8) : till l ≤ l.length := List.findIdx_le_length
theorem u8_yes {b c : UInt8} (h : (b.toNat : Int) = (c.toNat : Int)) : b = c := UInt8.toNat_inj.1 (by omega)
/-- what the descriptor at the head of l says: dimensions, base, name, and the number of bytes that it takes (0: there is none) -/
def preOf (k : Nat) (b : Int) (n : ByteArray) (c : Nat) : Int × Int × ByteArray × Int := if validB k b n = true then (k, b, n, c) else (0, 0, ⟨#[]⟩, 0)
def pre (l : List UInt8) : Int × Int × ByteArray × Int :=
 if lead l < l.length then
  if ((l.getD (lead l) 0).toNat : Int) = 76 then
   if till (l.drop (lead l + 1)) < (l.drop (lead l + 1)).length then
    preOf (lead l) 76 ⟨((l.drop (lead l + 1)).take (till (l.drop (lead l + 1)))).toArray⟩ (lead l + 1 + (till (l.drop (lead l + 1)) + 1))
   else (0, 0, ⟨#[]⟩, 0)
  else preOf (lead l) ((l.getD (lead l) 0).toNat) ⟨#[]⟩ (lead l + 1)
 else (0, 0, ⟨#[]⟩, 0)
def preD (l : List UInt8) : Int := (pre l).1
def preB (l : List UInt8) : Int := (pre l).2.1
def preS (l : List UInt8) : ByteArray := (pre l).2.2.1
def preN (l : List UInt8) : Int := (pre l).2.2.2
theorem pre_is {l : List UInt8} {d b c : Int} {n : ByteArray} (h : pre l = (d, b, n, c)) : preD l = d ∧ preB l = b ∧ preS l = n ∧ preN l = c := by
 unfold preD preB preS preN; rw [h]; exact ⟨rfl, rfl, rfl, rfl⟩
theorem pre_end {l : List UInt8} (h : ¬ lead l < l.length) : pre l = (0, 0, ⟨#[]⟩, 0) := by unfold pre; rw [if_neg h]
theorem pre_prim {l : List UInt8} (h : lead l < l.length) (hb : ¬ ((l.getD (lead l) 0).toNat : Int) = 76) : pre l = preOf (lead l) ((l.getD (lead l) 0).toNat) ⟨#[]⟩ (lead l + 1) := by unfold pre; rw [if_pos h, if_neg hb]
theorem pre_open {l : List UInt8} (h : lead l < l.length) (hb : ((l.getD (lead l) 0).toNat : Int) = 76) (ht : ¬ till (l.drop (lead l + 1)) < (l.drop (lead l + 1)).length) : pre l = (0, 0, ⟨#[]⟩, 0) := by unfold pre; rw [if_pos h, if_pos hb, if_neg ht]
theorem pre_cls {l : List UInt8} (h : lead l < l.length) (hb : ((l.getD (lead l) 0).toNat : Int) = 76) (ht : till (l.drop (lead l + 1)) < (l.drop (lead l + 1)).length) : pre l = preOf (lead l) 76 ⟨((l.drop (lead l + 1)).take (till (l.drop (lead l + 1)))).toArray⟩ (lead l + 1 + (till (l.drop (lead l + 1)) + 1)) := by unfold pre; rw [if_pos h, if_pos hb, if_pos ht]
theorem pre_ok {k : Nat} {b : Int} {n : ByteArray} {c : Nat} (h : validB k b n = true) : preOf k b n c = (↑k, b, n, ↑c) := by unfold preOf; rw [if_pos h]
theorem pre_bad {k : Nat} {b : Int} {n : ByteArray} {c : Nat} (h : validB k b n = false) : preOf k b n c = (0, 0, ⟨#[]⟩, 0) := by unfold preOf; rw [h]; rfl
/-! ### the same, of a string read from a place on -/
theorem bt_drop (s : ByteArray) (i j : Nat) : (((s.data.toList.drop i).getD j 0).toNat : Int) = bt s (i + j) := by
 rw [bt_data, List.getD_eq_getElem?_getD, List.getD_eq_getElem?_getD, List.getElem?_drop]
theorem drop_len (s : ByteArray) (i : Nat) : (s.data.toList.drop i).length = s.size - i := by rw [List.length_drop, len_data]
theorem lead_lt (s : ByteArray) (i j : Nat) (h : j < lead (s.data.toList.drop i)) : bt s (i + j) = 91 := by
 have h' := fi_lt _ _ _ h
 rw [← bt_drop]
 have : (s.data.toList.drop i).getD j 0 = 91 := by simpa using h'
 rw [this]; rfl
theorem lead_not (s : ByteArray) (i : Nat) (h : i + lead (s.data.toList.drop i) < s.size) : ¬ bt s (i + lead (s.data.toList.drop i)) = 91 := by
 have h' := fi_eq (· != 91) (s.data.toList.drop i) (by have := drop_len s i; unfold lead at h; omega)
 rw [← bt_drop]
 have h2 : ¬ (s.data.toList.drop i).getD (lead (s.data.toList.drop i)) 0 = 91 := by unfold lead; simpa using h'
 intro e
 exact h2 (u8_yes (c := 91) e)
theorem till_lt (s : ByteArray) (i j : Nat) (h : j < till (s.data.toList.drop i)) : ¬ bt s (i + j) = 59 := by
 have h' := fi_lt _ _ _ h
 rw [← bt_drop]
 have h2 : ¬ (s.data.toList.drop i).getD j 0 = 59 := by simpa using h'
 intro e
 exact h2 (u8_yes (c := 59) e)
theorem till_is (s : ByteArray) (i : Nat) (h : i + till (s.data.toList.drop i) < s.size) : bt s (i + till (s.data.toList.drop i)) = 59 := by
 have h' := fi_eq (· == 59) (s.data.toList.drop i) (by have := drop_len s i; unfold till at h; omega)
 rw [← bt_drop]
 have h2 : (s.data.toList.drop i).getD (till (s.data.toList.drop i)) 0 = 59 := by unfold till; simpa using h'
 rw [h2]; rfl
theorem lead_bd (s : ByteArray) (i : Nat) (hi : i ≤ s.size) : i + lead (s.data.toList.drop i) ≤ s.size := by have := lead_le (s.data.toList.drop i); rw [drop_len] at this; omega
theorem index_till (l : List UInt8) : Lib.indexByte l 59 = if till l < l.length then (till l : Int) else -1 := by
 induction l with
 | nil => rfl
 | cons c l ih =>
  by_cases h : c = 59
  ·
   subst h
   have ht : till (59 :: l) = 0 := by unfold till; rw [List.findIdx_cons]; rfl
   rw [ht, if_pos (by simp)]
   unfold Lib.indexByte; simp
  ·
   have hb : (c == 59) = false := by simpa using h
   have ht : till (c :: l) = till l + 1 := by unfold till; rw [List.findIdx_cons, hb]; rfl
   have hi : Lib.indexByte (c :: l) 59 = if Lib.indexByte l 59 == -1 then -1 else Lib.indexByte l 59 + 1 := by
    conv => lhs; unfold Lib.indexByte
    rw [hb]; rfl
   rw [hi, ih, ht, List.length_cons]
   by_cases hl : till l < l.length
   ·
    have e1 : ((till l : Int) == -1) = false := by first | (simp; done) | (simp; omega)
    rw [if_pos hl, if_pos (show till l + 1 < l.length + 1 by omega), e1]
    simp
   ·
    rw [if_neg hl, if_neg (show ¬ till l + 1 < l.length + 1 by omega)]; rfl
/-- whatever pre says: nothing, or a valid type that takes some bytes -/
theorem pre_cases (l : List UInt8) : (preN l = 0 ∧ preD l = 0 ∧ preB l = 0 ∧ preS l = ⟨#[]⟩) ∨ (0 < preN l ∧ preN l ≤ l.length ∧ validB (preD l) (preB l) (preS l) = true ∧ (preS l).size ≤ l.length) := by
 have key : ∀ (k : Nat) (b : Int) (n : ByteArray) (c : Nat), 0 < c → c ≤ l.length → n.size ≤ l.length → pre l = preOf k b n c → (preN l = 0 ∧ preD l = 0 ∧ preB l = 0 ∧ preS l = ⟨#[]⟩) ∨ (0 < preN l ∧ preN l ≤ l.length ∧ validB (preD l) (preB l) (preS l) = true ∧ (preS l).size ≤ l.length) := by
  intro k b n c hc hl hn hp
  cases hv : validB k b n with
  | false => rw [pre_bad hv] at hp; obtain ⟨h1, h2, h3, h4⟩ := pre_is hp; exact Or.inl ⟨h4, h1, h2, h3⟩
  | true => rw [pre_ok hv] at hp; obtain ⟨h1, h2, h3, h4⟩ := pre_is hp; rw [h1, h2, h3, h4]; exact Or.inr ⟨by omega, by omega, hv, hn⟩
 by_cases h : lead l < l.length
 ·
  by_cases hb : ((l.getD (lead l) 0).toNat : Int) = 76
  ·
   by_cases ht : till (l.drop (lead l + 1)) < (l.drop (lead l + 1)).length
   ·
    refine key _ _ _ _ (by omega) ?_ ?_ (pre_cls h hb ht)
    ·
     rw [List.length_drop] at ht; omega
    ·
     show (((l.drop (lead l + 1)).take (till (l.drop (lead l + 1)))).toArray).size ≤ _
     rw [List.size_toArray, List.length_take, List.length_drop]; omega
   ·
    obtain ⟨h1, h2, h3, h4⟩ := pre_is (pre_open h hb ht); exact Or.inl ⟨h4, h1, h2, h3⟩
  ·
   exact key _ _ _ _ (by omega) (by omega) (Nat.zero_le _) (pre_prim h hb)
 ·
  obtain ⟨h1, h2, h3, h4⟩ := pre_is (pre_end h); exact Or.inl ⟨h4, h1, h2, h3⟩
/-! ### worlds -/
theorem bcell {W w1 : World} (hb : Below W.heap.size W w1) : (∀ b o, b < W.heap.size → w1.cell? ⟨b, o, none⟩ = W.cell? ⟨b, o, none⟩) ∧ (∀ b o, b < W.heap.size → w1.frozen? ⟨b, o, none⟩ = W.frozen? ⟨b, o, none⟩) :=
 ⟨fun b o h => hb.cell (p := ⟨b, o, none⟩) h, fun b o h => hb.frozen (p := ⟨b, o, none⟩) h⟩
theorem below_on {w W w1 : World} (h : Below w.heap.size w W) (k : Below W.heap.size W w1) : Below w.heap.size w w1 := h.trans (k.mono h.size)
theorem below_st {w W : World} {p : Addr} (h : Below w.heap.size w W) (hp : w.heap.size ≤ p.block) (u : Value) : Below w.heap.size w (W.setCell p u) := h.setCell hp u
theorem set_same {W : World} {a : Addr} {v : Value} (h : (W.cell? a).isSome = true) : (W.setCell a v).cell? a = some v := by
 obtain ⟨u, hu⟩ := Option.isSome_iff_exists.1 h
 exact World.cell?_setCell_same W a _ hu
theorem set_isSome {W : World} {a b : Addr} {v : Value} (h : (W.cell? b).isSome = true) : ((W.setCell a v).cell? b).isSome = true := by
 by_cases e : a = b
 ·
  subst e; rw [set_same h]; rfl
 ·
  rw [World.cell?_setCell_other W a b v e]; exact h
theorem off_ne {B i j : Nat} (h : i ≠ j) : (⟨B, i, none⟩ : Addr) ≠ ⟨B, j, none⟩ := fun e => h (by injection e)
theorem read3 {W : World} {B : Nat} {a b c : Value} (h0 : (W.cell? ⟨B, 0, none⟩).isSome = true) (h1 : (W.cell? ⟨B, 1, none⟩).isSome = true) (h2 : (W.cell? ⟨B, 2, none⟩).isSome = true) :
  (((W.setCell ⟨B, 0, none⟩ a).setCell ⟨B, 1, none⟩ b).setCell ⟨B, 2, none⟩ c).cell? ⟨B, 0, none⟩ = some a ∧ (((W.setCell ⟨B, 0, none⟩ a).setCell ⟨B, 1, none⟩ b).setCell ⟨B, 2, none⟩ c).cell? ⟨B, 1, none⟩ = some b ∧ (((W.setCell ⟨B, 0, none⟩ a).setCell ⟨B, 1, none⟩ b).setCell ⟨B, 2, none⟩ c).cell? ⟨B, 2, none⟩ = some c := by
 refine ⟨?_, ?_, ?_⟩
 ·
  rw [World.cell?_setCell_other _ _ _ _ (off_ne (by decide)), World.cell?_setCell_other _ _ _ _ (off_ne (by decide)), set_same h0]
 ·
  rw [World.cell?_setCell_other _ _ _ _ (off_ne (by decide)), set_same (set_isSome h1)]
 ·
  rw [set_same (set_isSome (set_isSome h2))]
end Go.Proofs.YtalejaklggnnpaaGreatDoor
/- DescPrefix -/
/- Layer 4: desc.prefix. -/
namespace Go.Proofs.YtalejaklggnnpaaGreatDoor
open Go.ChangeShapes Go.WideShapes Go.ChangeAt Go.RowKit Go.PlainAid
set_option linter.unusedSimpArgs false
set_option linter.unusedVariables false
set_option maxHeartbeats 1000000 in
theorem prefix_end (s : ByteArray) (k : Nat) (hs : s.size ≤ 140737488355328) (hl : lead s.data.toList = k) (hk : k = s.size) (w : World) :
  Calls Tryz.prog 149 #[.string s] w fun e w' => e = .returned (.tuple #[.agg #[.int .i64 0, .int .u8 0, .string ⟨#[]⟩], .int .i64 0]) ∧ Below w.heap.size w w' := by
 have hgb := get_bt s
 have hB : Below w.heap.size w w := Below.refl _ _
 have h91 : ∀ j, j < k → bt s j = 91 := fun j hj => by have := lead_lt s 0 j (by rw [List.drop_zero]; omega); rwa [Nat.zero_add] at this
 have H91 := Lib.hid h91; clear h91 hl
 have hk1 : k ≤ s.size := by omega
 have hk2 : s.size ≤ k := by omega
 clear hk
 go_enter Tryz.func149, Tryz.ntmps149
 go_wp2
 go_loop [4] (fun i => ∃ j : Nat, j ≤ k ∧ i = .int .i64 j) (fun i => s.size - (intOf i).toNat)
 case atStart => exact ⟨0, Nat.zero_le _, rfl⟩
 case round =>
  obtain ⟨j, hj, rfl⟩ := hrel
  by_cases hlt : j < k
  ·
   have hb := H91.out j hlt
   have hjs : j < s.size := by omega
   go_wp2
   go_round
   case rel => exact ⟨j + 1, by omega, by go_num⟩
   case measure => simp [intOf]; omega
  ·
   obtain rfl : j = k := by omega
   go_wp2
   refine bodyPost_ret (v := .tuple #[.agg #[.int .i64 0, .int .u8 0, .string ⟨#[]⟩], .int .i64 0]) ?_ rfl ⟨rfl, (by repeat (first | with_reducible exact hB | with_reducible exact Below.refl _ _ | with_reducible refine below_al ?_ _ | with_reducible refine below_st ?_ (by first | exact Nat.le_refl _ | exact Nat.le_add_right _ _ | (simp; omega)) _))⟩
   simp [results, Tryz.f149, go_sem]
set_option maxHeartbeats 1000000 in
theorem prefix_prim_ok (s : ByteArray) (k : Nat) (hs : s.size ≤ 140737488355328) (hl : lead s.data.toList = k) (hk : k < s.size) (hb : ¬ bt s k = 91) (h76 : ¬ bt s k = 76) (hv : validB k (bt s k) ⟨#[]⟩ = true) (w : World) :
  Calls Tryz.prog 149 #[.string s] w fun e w' => e = .returned (.tuple #[.agg #[.int .i64 k, .int .u8 (bt s k), .string ⟨#[]⟩], .int .i64 (k + 1)]) ∧ Below w.heap.size w w' := by
 have hgb := get_bt s
 have hB : Below w.heap.size w w := Below.refl _ _
 have h91 : ∀ j, j < k → bt s j = 91 := fun j hj => by have := lead_lt s 0 j (by rw [List.drop_zero]; omega); rwa [Nat.zero_add] at this
 have H91 := Lib.hid h91; clear h91 hl
 have hb' := beqF hb
 have h76' := beqF h76
 clear hb h76
 go_enter Tryz.func149, Tryz.ntmps149
 go_wp2
 go_loop [4] (fun i => ∃ j : Nat, j ≤ k ∧ i = .int .i64 j) (fun i => s.size - (intOf i).toNat)
 case atStart => exact ⟨0, Nat.zero_le _, rfl⟩
 case round =>
  obtain ⟨j, hj, rfl⟩ := hrel
  by_cases hlt : j < k
  ·
   have hb := H91.out j hlt
   have hjs : j < s.size := by omega
   go_wp2
   go_round
   case rel => exact ⟨j + 1, by omega, by go_num⟩
   case measure => simp [intOf]; omega
  ·
   obtain rfl : j = k := by omega
   have hne : ((j : Int) == (s.size : Int)) = false := beqF (by omega)
   go_wp2_with (go_at_call 170; refine (valid_any _ _ _ _).mono ?_; rintro e w1 ⟨rfl, hb1⟩; obtain ⟨hc1, hf1⟩ := bcell hb1; have hz1 := hb1.size; (try simp only [World.size_alloc, World.size_setCell] at hz1); (try have hza : w.heap.size < w1.heap.size := by omega); (try have hzb : w.heap.size + 1 < w1.heap.size := by omega); (try have hzc : w.heap.size + 1 + 1 < w1.heap.size := by omega); (try have hzd : wa.heap.size < w1.heap.size := by omega); (try replace hR := (hb1.block w.heap.size (by first | exact lt_heap hR | (have := lt_heap hR; simp; omega))).trans (by first | with_reducible exact hR | with_reducible exact laid_old hR)); replace hB := below_on (w := w) ((by repeat (first | with_reducible exact hB | with_reducible exact Below.refl _ _ | with_reducible refine below_al ?_ _ | with_reducible refine below_st ?_ (by first | exact Nat.le_refl _ | exact Nat.le_add_right _ _ | (simp; omega)) _))) hb1; clear hb1)
   obtain ⟨d0, d1, d2⟩ := read3 (W := w1) (B := w.heap.size) (a := .int .i64 j) (b := .int .u8 (bt s j)) (c := .string ⟨#[]⟩) (by rw [hc1 _ _ (by simp; try omega)]; simp) (by rw [hc1 _ _ (by simp; try omega)]; simp) (by rw [hc1 _ _ (by simp; try omega)]; simp)
   refine bodyPost_ret (v := .tuple #[.agg #[.int .i64 j, .int .u8 (bt s j), .string ⟨#[]⟩], .int .i64 (j + 1)]) ?_ rfl ⟨rfl, (by repeat (first | with_reducible exact hB | with_reducible exact Below.refl _ _ | with_reducible refine below_al ?_ _ | with_reducible refine below_st ?_ (by first | exact Nat.le_refl _ | exact Nat.le_add_right _ _ | (simp; omega)) _))⟩
   simp [results, Tryz.f149, go_sem, d0, d1, d2]
set_option maxHeartbeats 1000000 in
theorem prefix_prim_bad (s : ByteArray) (k : Nat) (hs : s.size ≤ 140737488355328) (hl : lead s.data.toList = k) (hk : k < s.size) (hb : ¬ bt s k = 91) (h76 : ¬ bt s k = 76) (hv : validB k (bt s k) ⟨#[]⟩ = false) (w : World) :
  Calls Tryz.prog 149 #[.string s] w fun e w' => e = .returned (.tuple #[.agg #[.int .i64 0, .int .u8 0, .string ⟨#[]⟩], .int .i64 0]) ∧ Below w.heap.size w w' := by
 have hgb := get_bt s
 have hB : Below w.heap.size w w := Below.refl _ _
 have h91 : ∀ j, j < k → bt s j = 91 := fun j hj => by have := lead_lt s 0 j (by rw [List.drop_zero]; omega); rwa [Nat.zero_add] at this
 have H91 := Lib.hid h91; clear h91 hl
 have hb' := beqF hb
 have h76' := beqF h76
 clear hb h76
 go_enter Tryz.func149, Tryz.ntmps149
 go_wp2
 go_loop [4] (fun i => ∃ j : Nat, j ≤ k ∧ i = .int .i64 j) (fun i => s.size - (intOf i).toNat)
 case atStart => exact ⟨0, Nat.zero_le _, rfl⟩
 case round =>
  obtain ⟨j, hj, rfl⟩ := hrel
  by_cases hlt : j < k
  ·
   have hb := H91.out j hlt
   have hjs : j < s.size := by omega
   go_wp2
   go_round
   case rel => exact ⟨j + 1, by omega, by go_num⟩
   case measure => simp [intOf]; omega
  ·
   obtain rfl : j = k := by omega
   have hne : ((j : Int) == (s.size : Int)) = false := beqF (by omega)
   go_wp2_with (go_at_call 170; refine (valid_any _ _ _ _).mono ?_; rintro e w1 ⟨rfl, hb1⟩; obtain ⟨hc1, hf1⟩ := bcell hb1; have hz1 := hb1.size; (try simp only [World.size_alloc, World.size_setCell] at hz1); (try have hza : w.heap.size < w1.heap.size := by omega); (try have hzb : w.heap.size + 1 < w1.heap.size := by omega); (try have hzc : w.heap.size + 1 + 1 < w1.heap.size := by omega); (try have hzd : wa.heap.size < w1.heap.size := by omega); (try replace hR := (hb1.block w.heap.size (by first | exact lt_heap hR | (have := lt_heap hR; simp; omega))).trans (by first | with_reducible exact hR | with_reducible exact laid_old hR)); replace hB := below_on (w := w) ((by repeat (first | with_reducible exact hB | with_reducible exact Below.refl _ _ | with_reducible refine below_al ?_ _ | with_reducible refine below_st ?_ (by first | exact Nat.le_refl _ | exact Nat.le_add_right _ _ | (simp; omega)) _))) hb1; clear hb1)
   obtain ⟨d0, d1, d2⟩ := read3 (W := w1) (B := w.heap.size) (a := .int .i64 0) (b := .int .u8 0) (c := .string ⟨#[]⟩) (by rw [hc1 _ _ (by simp; try omega)]; simp) (by rw [hc1 _ _ (by simp; try omega)]; simp) (by rw [hc1 _ _ (by simp; try omega)]; simp)
   refine bodyPost_ret (v := .tuple #[.agg #[.int .i64 0, .int .u8 0, .string ⟨#[]⟩], .int .i64 0]) ?_ rfl ⟨rfl, (by repeat (first | with_reducible exact hB | with_reducible exact Below.refl _ _ | with_reducible refine below_al ?_ _ | with_reducible refine below_st ?_ (by first | exact Nat.le_refl _ | exact Nat.le_add_right _ _ | (simp; omega)) _))⟩
   simp [results, Tryz.f149, go_sem, d0, d1, d2]
theorem index_byte (s : ByteArray) (c v : Int) (w : World) (h : Lib.indexByte s.data.toList c.toNat.toUInt8 = v) :
  Calls Tryz.prog 169 #[.string s, .int .u8 c] w fun e w' => e = .returned (.int .i64 v) ∧ w = w' :=
 (Tryz.strings_IndexByte s c w).mono fun e w' h' => ⟨by rw [h'.1, h], h'.2.symm⟩
set_option maxHeartbeats 1000000 in
theorem prefix_open (s : ByteArray) (k : Nat) (hs : s.size ≤ 140737488355328) (hl : lead s.data.toList = k) (hk : k < s.size) (h76 : bt s k = 76) (ht : ¬ till (s.data.toList.drop (k + 1)) < (s.data.toList.drop (k + 1)).length) (w : World) :
  Calls Tryz.prog 149 #[.string s] w fun e w' => e = .returned (.tuple #[.agg #[.int .i64 0, .int .u8 0, .string ⟨#[]⟩], .int .i64 0]) ∧ Below w.heap.size w w' := by
 have hgb := get_bt s
 have hB : Below w.heap.size w w := Below.refl _ _
 have h91 : ∀ j, j < k → bt s j = 91 := fun j hj => by have := lead_lt s 0 j (by rw [List.drop_zero]; omega); rwa [Nat.zero_add] at this
 have H91 := Lib.hid h91; clear h91 hl
 have hi : Lib.indexByte (s.extract (k + 1) s.size).data.toList 59 = -1 := by rw [data_extract, List.take_of_length_le (by rw [drop_len]; omega), index_till, if_neg ht]
 have HI := Lib.hid hi; clear hi ht
 go_enter Tryz.func149, Tryz.ntmps149
 go_wp2
 go_loop [4] (fun i => ∃ j : Nat, j ≤ k ∧ i = .int .i64 j) (fun i => s.size - (intOf i).toNat)
 case atStart => exact ⟨0, Nat.zero_le _, rfl⟩
 case round =>
  obtain ⟨j, hj, rfl⟩ := hrel
  by_cases hlt : j < k
  ·
   have hb := H91.out j hlt
   have hjs : j < s.size := by omega
   go_wp2
   go_round
   case rel => exact ⟨j + 1, by omega, by go_num⟩
   case measure => simp [intOf]; omega
  ·
   obtain rfl : j = k := by omega
   have hne : ((j : Int) == (s.size : Int)) = false := beqF (by omega)
   go_wp2_with (go_at_call 169; refine (index_byte _ _ _ _ HI.out).mono ?_; rintro e w' ⟨rfl, rfl⟩)
   refine bodyPost_ret (v := .tuple #[.agg #[.int .i64 0, .int .u8 0, .string ⟨#[]⟩], .int .i64 0]) ?_ rfl ⟨rfl, (by repeat (first | with_reducible exact hB | with_reducible exact Below.refl _ _ | with_reducible refine below_al ?_ _ | with_reducible refine below_st ?_ (by first | exact Nat.le_refl _ | exact Nat.le_add_right _ _ | (simp; omega)) _))⟩
   simp [results, Tryz.f149, go_sem]
set_option maxHeartbeats 1000000 in
theorem prefix_cls_ok (s : ByteArray) (k : Nat) (hs : s.size ≤ 140737488355328) (hl : lead s.data.toList = k) (m : Nat) (hk : k < s.size) (h76 : bt s k = 76) (ht : till (s.data.toList.drop (k + 1)) = m) (hm : k + 1 + m < s.size) (hv : validB k 76 (s.extract (k + 1) (k + 1 + m)) = true) (w : World) :
  Calls Tryz.prog 149 #[.string s] w fun e w' => e = .returned (.tuple #[.agg #[.int .i64 k, .int .u8 76, .string (s.extract (k + 1) (k + 1 + m))], .int .i64 (k + 1 + (m + 1))]) ∧ Below w.heap.size w w' := by
 have hgb := get_bt s
 have hB : Below w.heap.size w w := Below.refl _ _
 have h91 : ∀ j, j < k → bt s j = 91 := fun j hj => by have := lead_lt s 0 j (by rw [List.drop_zero]; omega); rwa [Nat.zero_add] at this
 have H91 := Lib.hid h91; clear h91 hl
 have hi : Lib.indexByte (s.extract (k + 1) s.size).data.toList 59 = m := by rw [data_extract, List.take_of_length_le (by rw [drop_len]; omega), index_till, ht, if_pos (by rw [drop_len]; omega)]
 have HI := Lib.hid hi; clear hi ht
 go_enter Tryz.func149, Tryz.ntmps149
 go_wp2
 go_loop [4] (fun i => ∃ j : Nat, j ≤ k ∧ i = .int .i64 j) (fun i => s.size - (intOf i).toNat)
 case atStart => exact ⟨0, Nat.zero_le _, rfl⟩
 case round =>
  obtain ⟨j, hj, rfl⟩ := hrel
  by_cases hlt : j < k
  ·
   have hb := H91.out j hlt
   have hjs : j < s.size := by omega
   go_wp2
   go_round
   case rel => exact ⟨j + 1, by omega, by go_num⟩
   case measure => simp [intOf]; omega
  ·
   obtain rfl : j = k := by omega
   have hne : ((j : Int) == (s.size : Int)) = false := beqF (by omega)
   go_wp2_with (first | (go_at_call 169; refine (index_byte _ _ _ _ HI.out).mono ?_; rintro e w' ⟨rfl, rfl⟩) | (go_at_call 170; refine (valid_any _ _ _ _).mono ?_; rintro e w1 ⟨rfl, hb1⟩; obtain ⟨hc1, hf1⟩ := bcell hb1; have hz1 := hb1.size; (try simp only [World.size_alloc, World.size_setCell] at hz1); (try have hza : w.heap.size < w1.heap.size := by omega); (try have hzb : w.heap.size + 1 < w1.heap.size := by omega); (try have hzc : w.heap.size + 1 + 1 < w1.heap.size := by omega); (try have hzd : wa.heap.size < w1.heap.size := by omega); (try replace hR := (hb1.block w.heap.size (by first | exact lt_heap hR | (have := lt_heap hR; simp; omega))).trans (by first | with_reducible exact hR | with_reducible exact laid_old hR)); replace hB := below_on (w := w) ((by repeat (first | with_reducible exact hB | with_reducible exact Below.refl _ _ | with_reducible refine below_al ?_ _ | with_reducible refine below_st ?_ (by first | exact Nat.le_refl _ | exact Nat.le_add_right _ _ | (simp; omega)) _))) hb1; clear hb1))
   obtain ⟨d0, d1, d2⟩ := read3 (W := w1) (B := w.heap.size) (a := .int .i64 j) (b := .int .u8 76) (c := .string (s.extract (j + 1) (j + 1 + m))) (by rw [hc1 _ _ (by simp; try omega)]; simp) (by rw [hc1 _ _ (by simp; try omega)]; simp) (by rw [hc1 _ _ (by simp; try omega)]; simp)
   refine bodyPost_ret (v := .tuple #[.agg #[.int .i64 j, .int .u8 76, .string (s.extract (j + 1) (j + 1 + m))], .int .i64 (j + 1 + (m + 1))]) ?_ rfl ⟨rfl, (by repeat (first | with_reducible exact hB | with_reducible exact Below.refl _ _ | with_reducible refine below_al ?_ _ | with_reducible refine below_st ?_ (by first | exact Nat.le_refl _ | exact Nat.le_add_right _ _ | (simp; omega)) _))⟩
   simp [results, Tryz.f149, go_sem, d0, d1, d2]
set_option maxHeartbeats 1000000 in
theorem prefix_cls_bad (s : ByteArray) (k : Nat) (hs : s.size ≤ 140737488355328) (hl : lead s.data.toList = k) (m : Nat) (hk : k < s.size) (h76 : bt s k = 76) (ht : till (s.data.toList.drop (k + 1)) = m) (hm : k + 1 + m < s.size) (hv : validB k 76 (s.extract (k + 1) (k + 1 + m)) = false) (w : World) :
  Calls Tryz.prog 149 #[.string s] w fun e w' => e = .returned (.tuple #[.agg #[.int .i64 0, .int .u8 0, .string ⟨#[]⟩], .int .i64 0]) ∧ Below w.heap.size w w' := by
 have hgb := get_bt s
 have hB : Below w.heap.size w w := Below.refl _ _
 have h91 : ∀ j, j < k → bt s j = 91 := fun j hj => by have := lead_lt s 0 j (by rw [List.drop_zero]; omega); rwa [Nat.zero_add] at this
 have H91 := Lib.hid h91; clear h91 hl
 have hi : Lib.indexByte (s.extract (k + 1) s.size).data.toList 59 = m := by rw [data_extract, List.take_of_length_le (by rw [drop_len]; omega), index_till, ht, if_pos (by rw [drop_len]; omega)]
 have HI := Lib.hid hi; clear hi ht
 go_enter Tryz.func149, Tryz.ntmps149
 go_wp2
 go_loop [4] (fun i => ∃ j : Nat, j ≤ k ∧ i = .int .i64 j) (fun i => s.size - (intOf i).toNat)
 case atStart => exact ⟨0, Nat.zero_le _, rfl⟩
 case round =>
  obtain ⟨j, hj, rfl⟩ := hrel
  by_cases hlt : j < k
  ·
   have hb := H91.out j hlt
   have hjs : j < s.size := by omega
   go_wp2
   go_round
   case rel => exact ⟨j + 1, by omega, by go_num⟩
   case measure => simp [intOf]; omega
  ·
   obtain rfl : j = k := by omega
   have hne : ((j : Int) == (s.size : Int)) = false := beqF (by omega)
   go_wp2_with (first | (go_at_call 169; refine (index_byte _ _ _ _ HI.out).mono ?_; rintro e w' ⟨rfl, rfl⟩) | (go_at_call 170; refine (valid_any _ _ _ _).mono ?_; rintro e w1 ⟨rfl, hb1⟩; obtain ⟨hc1, hf1⟩ := bcell hb1; have hz1 := hb1.size; (try simp only [World.size_alloc, World.size_setCell] at hz1); (try have hza : w.heap.size < w1.heap.size := by omega); (try have hzb : w.heap.size + 1 < w1.heap.size := by omega); (try have hzc : w.heap.size + 1 + 1 < w1.heap.size := by omega); (try have hzd : wa.heap.size < w1.heap.size := by omega); (try replace hR := (hb1.block w.heap.size (by first | exact lt_heap hR | (have := lt_heap hR; simp; omega))).trans (by first | with_reducible exact hR | with_reducible exact laid_old hR)); replace hB := below_on (w := w) ((by repeat (first | with_reducible exact hB | with_reducible exact Below.refl _ _ | with_reducible refine below_al ?_ _ | with_reducible refine below_st ?_ (by first | exact Nat.le_refl _ | exact Nat.le_add_right _ _ | (simp; omega)) _))) hb1; clear hb1))
   obtain ⟨d0, d1, d2⟩ := read3 (W := w1) (B := w.heap.size) (a := .int .i64 0) (b := .int .u8 0) (c := .string ⟨#[]⟩) (by rw [hc1 _ _ (by simp; try omega)]; simp) (by rw [hc1 _ _ (by simp; try omega)]; simp) (by rw [hc1 _ _ (by simp; try omega)]; simp)
   refine bodyPost_ret (v := .tuple #[.agg #[.int .i64 0, .int .u8 0, .string ⟨#[]⟩], .int .i64 0]) ?_ rfl ⟨rfl, (by repeat (first | with_reducible exact hB | with_reducible exact Below.refl _ _ | with_reducible refine below_al ?_ _ | with_reducible refine below_st ?_ (by first | exact Nat.le_refl _ | exact Nat.le_add_right _ _ | (simp; omega)) _))⟩
   simp [results, Tryz.f149, go_sem, d0, d1, d2]
end Go.Proofs.YtalejaklggnnpaaGreatDoor
/- DescTake -/
/- Layer 4: desc.prefix at every string; the reference's take. -/
namespace Go.Proofs.YtalejaklggnnpaaGreatDoor
open Go.ChangeShapes Go.WideShapes Go.ChangeAt Go.RowKit Go.PlainAid
set_option linter.unusedSimpArgs false
set_option linter.unusedVariables false
theorem name_cut (s : ByteArray) (i m : Nat) : (⟨((s.data.toList.drop i).take m).toArray⟩ : ByteArray) = s.extract i (i + m) := by
 apply ba_ext
 rw [data_extract, show i + m - i = m by omega]
theorem drop_drop' (s : ByteArray) (i k : Nat) : (s.data.toList.drop i).drop (k + 1) = s.data.toList.drop (i + k + 1) := by rw [List.drop_drop, Nat.add_assoc]
theorem prefix_any (s : ByteArray) (hs : s.size ≤ 140737488355328) (w : World) :
  Calls Tryz.prog 149 #[.string s] w fun e w' => e = .returned (.tuple #[.agg #[.int .i64 (preD s.data.toList), .int .u8 (preB s.data.toList), .string (preS s.data.toList)], .int .i64 (preN s.data.toList)]) ∧ Below w.heap.size w w' := by
 have hlen := len_data s
 have hle := lead_le s.data.toList
 have hd0 : s.data.toList.drop 0 = s.data.toList := List.drop_zero
 by_cases h : lead s.data.toList < s.data.toList.length
 ·
  have hk : lead s.data.toList < s.size := by omega
  have h91 : ¬ bt s (lead s.data.toList) = 91 := by have := lead_not s 0 (by rw [hd0]; omega); rwa [hd0, Nat.zero_add] at this
  have hbt : ((s.data.toList.getD (lead s.data.toList) 0).toNat : Int) = bt s (lead s.data.toList) := by rw [bt_data]
  by_cases h76 : bt s (lead s.data.toList) = 76
  ·
   by_cases ht : till (s.data.toList.drop (lead s.data.toList + 1)) < (s.data.toList.drop (lead s.data.toList + 1)).length
   ·
    have hp := pre_cls h (by rw [hbt]; exact h76) ht
    rw [name_cut] at hp
    have htt := ht
    rw [drop_len] at htt
    cases hv : validB (lead s.data.toList) 76 (s.extract (lead s.data.toList + 1) (lead s.data.toList + 1 + till (s.data.toList.drop (lead s.data.toList + 1)))) with
    | true =>
     rw [pre_ok hv] at hp
     obtain ⟨p1, p2, p3, p4⟩ := pre_is hp
     rw [p1, p2, p3, p4]
     exact prefix_cls_ok s _ hs rfl _ hk h76 rfl (by omega) hv w
    | false =>
     rw [pre_bad hv] at hp
     obtain ⟨p1, p2, p3, p4⟩ := pre_is hp
     rw [p1, p2, p3, p4]
     exact prefix_cls_bad s _ hs rfl _ hk h76 rfl (by omega) hv w
   ·
    obtain ⟨p1, p2, p3, p4⟩ := pre_is (pre_open h (by rw [hbt]; exact h76) ht)
    rw [p1, p2, p3, p4]
    exact prefix_open s _ hs rfl hk h76 ht w
  ·
   have hp := pre_prim h (by rw [hbt]; exact h76)
   rw [hbt] at hp
   cases hv : validB (lead s.data.toList) (bt s (lead s.data.toList)) ⟨#[]⟩ with
   | true =>
    rw [pre_ok hv] at hp
    obtain ⟨p1, p2, p3, p4⟩ := pre_is hp
    rw [p1, p2, p3, p4]
    exact prefix_prim_ok s _ hs rfl hk h91 h76 hv w
   | false =>
    rw [pre_bad hv] at hp
    obtain ⟨p1, p2, p3, p4⟩ := pre_is hp
    rw [p1, p2, p3, p4]
    exact prefix_prim_bad s _ hs rfl hk h91 h76 hv w
 ·
  obtain ⟨p1, p2, p3, p4⟩ := pre_is (pre_end h)
  rw [p1, p2, p3, p4]
  exact prefix_end s _ hs rfl (by omega) w
set_option maxHeartbeats 1000000 in
theorem take_end (s : ByteArray) (i k : Nat) (hs : s.size ≤ 140737488355328) (hi : i ≤ s.size) (hl : lead (s.data.toList.drop i) = k) (hk : i + k = s.size) (w : World) :
  Calls Tryz.prog 161 #[.string s, .int .i64 i] w fun e w' => e = .returned (.tuple #[.agg #[.int .i64 0, .int .u8 0, .string ⟨#[]⟩], .int .i64 (-1)]) ∧ Below w.heap.size w w' := by
 have hgb := get_bt s
 have hB : Below w.heap.size w w := Below.refl _ _
 have h91 : ∀ j, j < k → bt s (i + j) = 91 := fun j hj => lead_lt s i j (by omega)
 have H91 := Lib.hid h91; clear h91
 have hk0 : i + k ≤ s.size := by have := lead_bd s i hi; omega
 clear hl
 have hk2 : s.size ≤ i + k := by omega
 clear hk
 go_enter Tryz.func161, Tryz.ntmps161
 go_wp2
 go_loopw [1] (fun a wr => ∃ j : Nat, j ≤ k ∧ a = .int .i64 (i + j : Nat) ∧ wr = (w.alloc (.cells #[.int .i64 0, .int .u8 0, .string ⟨#[]⟩] 114)).alloc (.cells #[.int .i64 j, .int .u8 0, .string ⟨#[]⟩] 114)) (fun a _ => i + k - (intOf a).toNat)
 case atStart => exact ⟨0, Nat.zero_le _, rfl, rfl⟩
 case round =>
  obtain ⟨j, hj, rfl, rfl⟩ := hrel
  by_cases hlt : j < k
  ·
   have hb := H91.out j hlt
   have hjs : i + j < s.size := by omega
   go_wp2
   go_roundw
   case rel => exact ⟨j + 1, by omega, by go_num, rfl⟩
   case measure => simp [intOf]; omega
  ·
   obtain rfl : j = k := by omega
   go_wp2
   refine bodyPost_ret (v := .tuple #[.agg #[.int .i64 0, .int .u8 0, .string ⟨#[]⟩], .int .i64 (-1)]) ?_ rfl ⟨rfl, (by repeat (first | with_reducible exact hB | with_reducible exact Below.refl _ _ | with_reducible refine below_al ?_ _ | with_reducible refine below_st ?_ (by first | exact Nat.le_refl _ | exact Nat.le_add_right _ _ | (simp; omega)) _))⟩
   simp [results, Tryz.f161, go_sem]
set_option maxHeartbeats 1000000 in
theorem take_prim_ok (s : ByteArray) (i k : Nat) (hs : s.size ≤ 140737488355328) (hi : i ≤ s.size) (hl : lead (s.data.toList.drop i) = k) (hk : i + k < s.size) (hb : ¬ bt s (i + k) = 91) (h76 : ¬ bt s (i + k) = 76) (hv : validB k (bt s (i + k)) ⟨#[]⟩ = true) (w : World) :
  Calls Tryz.prog 161 #[.string s, .int .i64 i] w fun e w' => e = .returned (.tuple #[.agg #[.int .i64 k, .int .u8 (bt s (i + k)), .string ⟨#[]⟩], .int .i64 (i + k + 1 : Nat)]) ∧ Below w.heap.size w w' := by
 have hgb := get_bt s
 have hB : Below w.heap.size w w := Below.refl _ _
 have h91 : ∀ j, j < k → bt s (i + j) = 91 := fun j hj => lead_lt s i j (by omega)
 have H91 := Lib.hid h91; clear h91
 have hk0 : i + k ≤ s.size := by have := lead_bd s i hi; omega
 clear hl
 have hb' := beqF hb
 have h76' := beqF h76
 clear hb h76
 go_enter Tryz.func161, Tryz.ntmps161
 go_wp2
 go_loopw [1] (fun a wr => ∃ j : Nat, j ≤ k ∧ a = .int .i64 (i + j : Nat) ∧ wr = (w.alloc (.cells #[.int .i64 0, .int .u8 0, .string ⟨#[]⟩] 114)).alloc (.cells #[.int .i64 j, .int .u8 0, .string ⟨#[]⟩] 114)) (fun a _ => i + k - (intOf a).toNat)
 case atStart => exact ⟨0, Nat.zero_le _, rfl, rfl⟩
 case round =>
  obtain ⟨j, hj, rfl, rfl⟩ := hrel
  by_cases hlt : j < k
  ·
   have hb := H91.out j hlt
   have hjs : i + j < s.size := by omega
   go_wp2
   go_roundw
   case rel => exact ⟨j + 1, by omega, by go_num, rfl⟩
   case measure => simp [intOf]; omega
  ·
   obtain rfl : j = k := by omega
   go_wp2_with (go_at_call 180; refine (rvalid_any _ _ _ (by show 0 ≤ _; omega) _).mono ?_; rintro e w1 ⟨rfl, hb1⟩; obtain ⟨hc1, hf1⟩ := bcell hb1; have hz1 := hb1.size; (try simp only [World.size_alloc, World.size_setCell] at hz1); (try have hza : w.heap.size < w1.heap.size := by omega); (try have hzb : w.heap.size + 1 < w1.heap.size := by omega); (try have hzc : w.heap.size + 1 + 1 < w1.heap.size := by omega); (try have hzd : wa.heap.size < w1.heap.size := by omega); (try replace hR := (hb1.block w.heap.size (by first | exact lt_heap hR | (have := lt_heap hR; simp; omega))).trans (by first | with_reducible exact hR | with_reducible exact laid_old hR)); replace hB := below_on (w := w) ((by repeat (first | with_reducible exact hB | with_reducible exact Below.refl _ _ | with_reducible refine below_al ?_ _ | with_reducible refine below_st ?_ (by first | exact Nat.le_refl _ | exact Nat.le_add_right _ _ | (simp; omega)) _))) hb1; clear hb1)
   obtain ⟨d0, d1, d2⟩ := read3 (W := w1) (B := w.heap.size) (a := .int .i64 j) (b := .int .u8 (bt s (i + j))) (c := .string ⟨#[]⟩) (by rw [hc1 _ _ (by simp; try omega)]; simp) (by rw [hc1 _ _ (by simp; try omega)]; simp) (by rw [hc1 _ _ (by simp; try omega)]; simp)
   refine bodyPost_ret (v := .tuple #[.agg #[.int .i64 j, .int .u8 (bt s (i + j)), .string ⟨#[]⟩], .int .i64 (i + j + 1 : Nat)]) ?_ rfl ⟨rfl, (by repeat (first | with_reducible exact hB | with_reducible exact Below.refl _ _ | with_reducible refine below_al ?_ _ | with_reducible refine below_st ?_ (by first | exact Nat.le_refl _ | exact Nat.le_add_right _ _ | (simp; omega)) _))⟩
   simp [results, Tryz.f161, go_sem, d0, d1, d2]
set_option maxHeartbeats 1000000 in
theorem take_prim_bad (s : ByteArray) (i k : Nat) (hs : s.size ≤ 140737488355328) (hi : i ≤ s.size) (hl : lead (s.data.toList.drop i) = k) (hk : i + k < s.size) (hb : ¬ bt s (i + k) = 91) (h76 : ¬ bt s (i + k) = 76) (hv : validB k (bt s (i + k)) ⟨#[]⟩ = false) (w : World) :
  Calls Tryz.prog 161 #[.string s, .int .i64 i] w fun e w' => e = .returned (.tuple #[.agg #[.int .i64 0, .int .u8 0, .string ⟨#[]⟩], .int .i64 (-1)]) ∧ Below w.heap.size w w' := by
 have hgb := get_bt s
 have hB : Below w.heap.size w w := Below.refl _ _
 have h91 : ∀ j, j < k → bt s (i + j) = 91 := fun j hj => lead_lt s i j (by omega)
 have H91 := Lib.hid h91; clear h91
 have hk0 : i + k ≤ s.size := by have := lead_bd s i hi; omega
 clear hl
 have hb' := beqF hb
 have h76' := beqF h76
 clear hb h76
 go_enter Tryz.func161, Tryz.ntmps161
 go_wp2
 go_loopw [1] (fun a wr => ∃ j : Nat, j ≤ k ∧ a = .int .i64 (i + j : Nat) ∧ wr = (w.alloc (.cells #[.int .i64 0, .int .u8 0, .string ⟨#[]⟩] 114)).alloc (.cells #[.int .i64 j, .int .u8 0, .string ⟨#[]⟩] 114)) (fun a _ => i + k - (intOf a).toNat)
 case atStart => exact ⟨0, Nat.zero_le _, rfl, rfl⟩
 case round =>
  obtain ⟨j, hj, rfl, rfl⟩ := hrel
  by_cases hlt : j < k
  ·
   have hb := H91.out j hlt
   have hjs : i + j < s.size := by omega
   go_wp2
   go_roundw
   case rel => exact ⟨j + 1, by omega, by go_num, rfl⟩
   case measure => simp [intOf]; omega
  ·
   obtain rfl : j = k := by omega
   go_wp2_with (go_at_call 180; refine (rvalid_any _ _ _ (by show 0 ≤ _; omega) _).mono ?_; rintro e w1 ⟨rfl, hb1⟩; obtain ⟨hc1, hf1⟩ := bcell hb1; have hz1 := hb1.size; (try simp only [World.size_alloc, World.size_setCell] at hz1); (try have hza : w.heap.size < w1.heap.size := by omega); (try have hzb : w.heap.size + 1 < w1.heap.size := by omega); (try have hzc : w.heap.size + 1 + 1 < w1.heap.size := by omega); (try have hzd : wa.heap.size < w1.heap.size := by omega); (try replace hR := (hb1.block w.heap.size (by first | exact lt_heap hR | (have := lt_heap hR; simp; omega))).trans (by first | with_reducible exact hR | with_reducible exact laid_old hR)); replace hB := below_on (w := w) ((by repeat (first | with_reducible exact hB | with_reducible exact Below.refl _ _ | with_reducible refine below_al ?_ _ | with_reducible refine below_st ?_ (by first | exact Nat.le_refl _ | exact Nat.le_add_right _ _ | (simp; omega)) _))) hb1; clear hb1)
   obtain ⟨d0, d1, d2⟩ := read3 (W := w1) (B := w.heap.size) (a := .int .i64 0) (b := .int .u8 0) (c := .string ⟨#[]⟩) (by rw [hc1 _ _ (by simp; try omega)]; simp) (by rw [hc1 _ _ (by simp; try omega)]; simp) (by rw [hc1 _ _ (by simp; try omega)]; simp)
   refine bodyPost_ret (v := .tuple #[.agg #[.int .i64 0, .int .u8 0, .string ⟨#[]⟩], .int .i64 (-1)]) ?_ rfl ⟨rfl, (by repeat (first | with_reducible exact hB | with_reducible exact Below.refl _ _ | with_reducible refine below_al ?_ _ | with_reducible refine below_st ?_ (by first | exact Nat.le_refl _ | exact Nat.le_add_right _ _ | (simp; omega)) _))⟩
   simp [results, Tryz.f161, go_sem, d0, d1, d2]
set_option maxHeartbeats 1000000 in
theorem take_open (s : ByteArray) (i k : Nat) (hs : s.size ≤ 140737488355328) (hi : i ≤ s.size) (hl : lead (s.data.toList.drop i) = k) (m : Nat) (hk : i + k < s.size) (h76 : bt s (i + k) = 76) (hm : till (s.data.toList.drop (i + k + 1)) = m) (ht : i + k + 1 + m = s.size) (w : World) :
  Calls Tryz.prog 161 #[.string s, .int .i64 i] w fun e w' => e = .returned (.tuple #[.agg #[.int .i64 0, .int .u8 0, .string ⟨#[]⟩], .int .i64 (-1)]) ∧ Below w.heap.size w w' := by
 have hgb := get_bt s
 have hB : Below w.heap.size w w := Below.refl _ _
 have h91 : ∀ j, j < k → bt s (i + j) = 91 := fun j hj => lead_lt s i j (by omega)
 have H91 := Lib.hid h91; clear h91
 have hk0 : i + k ≤ s.size := by have := lead_bd s i hi; omega
 clear hl
 have h59 : ∀ q, q < m → ¬ bt s (i + k + 1 + q) = 59 := fun q hq => till_lt s (i + k + 1) q (by omega)
 have H59 := Lib.hid h59; clear h59
 have h76' : (bt s (i + k) == 76) = true := by rw [h76]; rfl
 have ht1 : i + k + 1 + m ≤ s.size := by omega
 have ht2 : s.size ≤ i + k + 1 + m := by omega
 clear ht hm
 go_enter Tryz.func161, Tryz.ntmps161
 go_wp2
 go_loopw [1] (fun a wr => ∃ j : Nat, j ≤ k ∧ a = .int .i64 (i + j : Nat) ∧ wr = (w.alloc (.cells #[.int .i64 0, .int .u8 0, .string ⟨#[]⟩] 114)).alloc (.cells #[.int .i64 j, .int .u8 0, .string ⟨#[]⟩] 114)) (fun a _ => i + k - (intOf a).toNat)
 case atStart => exact ⟨0, Nat.zero_le _, rfl, rfl⟩
 case round =>
  obtain ⟨j, hj, rfl, rfl⟩ := hrel
  by_cases hlt : j < k
  ·
   have hb := H91.out j hlt
   have hjs : i + j < s.size := by omega
   go_wp2
   go_roundw
   case rel => exact ⟨j + 1, by omega, by go_num, rfl⟩
   case measure => simp [intOf]; omega
  ·
   obtain rfl : j = k := by omega
   go_wp2
   go_loop [1] (fun a => ∃ q : Nat, q ≤ m ∧ a = .int .i64 (i + j + 1 + q : Nat)) (fun a => i + j + 1 + m - (intOf a).toNat)
   case atStart => exact ⟨0, Nat.zero_le _, by go_num⟩
   case round =>
    obtain ⟨q, hq, rfl⟩ := hrel
    by_cases hlt2 : q < m
    ·
     have hb2 := beqF (H59.out q hlt2)
     have hb3 : (bt s (i + j + 1 + q) != 59) = true := by simpa using hb2
     have hqs : i + j + 1 + q < s.size := by omega
     go_wp2
     go_round
     case rel => exact ⟨q + 1, by omega, by go_num⟩
     case measure => simp [intOf]; omega
    ·
     obtain rfl : q = m := by omega
     go_wp2
     refine bodyPost_ret (v := .tuple #[.agg #[.int .i64 0, .int .u8 0, .string ⟨#[]⟩], .int .i64 (-1)]) ?_ rfl ⟨rfl, (by repeat (first | with_reducible exact hB | with_reducible exact Below.refl _ _ | with_reducible refine below_al ?_ _ | with_reducible refine below_st ?_ (by first | exact Nat.le_refl _ | exact Nat.le_add_right _ _ | (simp; omega)) _))⟩
     simp [results, Tryz.f161, go_sem]
set_option maxHeartbeats 1000000 in
theorem take_cls_ok (s : ByteArray) (i k : Nat) (hs : s.size ≤ 140737488355328) (hi : i ≤ s.size) (hl : lead (s.data.toList.drop i) = k) (m : Nat) (hk : i + k < s.size) (h76 : bt s (i + k) = 76) (hm : till (s.data.toList.drop (i + k + 1)) = m) (ht : i + k + 1 + m < s.size) (hv : validB k 76 (s.extract (i + k + 1) (i + k + 1 + m)) = true) (w : World) :
  Calls Tryz.prog 161 #[.string s, .int .i64 i] w fun e w' => e = .returned (.tuple #[.agg #[.int .i64 k, .int .u8 76, .string (s.extract (i + k + 1) (i + k + 1 + m))], .int .i64 (i + k + 1 + m + 1 : Nat)]) ∧ Below w.heap.size w w' := by
 have hgb := get_bt s
 have hB : Below w.heap.size w w := Below.refl _ _
 have h91 : ∀ j, j < k → bt s (i + j) = 91 := fun j hj => lead_lt s i j (by omega)
 have H91 := Lib.hid h91; clear h91
 have hk0 : i + k ≤ s.size := by have := lead_bd s i hi; omega
 clear hl
 have h59 : ∀ q, q < m → ¬ bt s (i + k + 1 + q) = 59 := fun q hq => till_lt s (i + k + 1) q (by omega)
 have H59 := Lib.hid h59; clear h59
 have h76' : (bt s (i + k) == 76) = true := by rw [h76]; rfl
 have h59e : bt s (i + k + 1 + m) = 59 := by rw [← hm]; exact till_is s _ (by rw [hm]; exact ht)
 clear hm
 go_enter Tryz.func161, Tryz.ntmps161
 go_wp2
 go_loopw [1] (fun a wr => ∃ j : Nat, j ≤ k ∧ a = .int .i64 (i + j : Nat) ∧ wr = (w.alloc (.cells #[.int .i64 0, .int .u8 0, .string ⟨#[]⟩] 114)).alloc (.cells #[.int .i64 j, .int .u8 0, .string ⟨#[]⟩] 114)) (fun a _ => i + k - (intOf a).toNat)
 case atStart => exact ⟨0, Nat.zero_le _, rfl, rfl⟩
 case round =>
  obtain ⟨j, hj, rfl, rfl⟩ := hrel
  by_cases hlt : j < k
  ·
   have hb := H91.out j hlt
   have hjs : i + j < s.size := by omega
   go_wp2
   go_roundw
   case rel => exact ⟨j + 1, by omega, by go_num, rfl⟩
   case measure => simp [intOf]; omega
  ·
   obtain rfl : j = k := by omega
   go_wp2
   go_loop [1] (fun a => ∃ q : Nat, q ≤ m ∧ a = .int .i64 (i + j + 1 + q : Nat)) (fun a => i + j + 1 + m - (intOf a).toNat)
   case atStart => exact ⟨0, Nat.zero_le _, by go_num⟩
   case round =>
    obtain ⟨q, hq, rfl⟩ := hrel
    by_cases hlt2 : q < m
    ·
     have hb2 := beqF (H59.out q hlt2)
     have hb3 : (bt s (i + j + 1 + q) != 59) = true := by simpa using hb2
     have hqs : i + j + 1 + q < s.size := by omega
     go_wp2
     go_round
     case rel => exact ⟨q + 1, by omega, by go_num⟩
     case measure => simp [intOf]; omega
    ·
     obtain rfl : q = m := by omega
     go_wp2_with (go_at_call 180; refine (rvalid_any _ _ _ (by simp; omega) _).mono ?_; rintro e w1 ⟨rfl, hb1⟩; obtain ⟨hc1, hf1⟩ := bcell hb1; have hz1 := hb1.size; (try simp only [World.size_alloc, World.size_setCell] at hz1); (try have hza : w.heap.size < w1.heap.size := by omega); (try have hzb : w.heap.size + 1 < w1.heap.size := by omega); (try have hzc : w.heap.size + 1 + 1 < w1.heap.size := by omega); (try have hzd : wa.heap.size < w1.heap.size := by omega); (try replace hR := (hb1.block w.heap.size (by first | exact lt_heap hR | (have := lt_heap hR; simp; omega))).trans (by first | with_reducible exact hR | with_reducible exact laid_old hR)); replace hB := below_on (w := w) ((by repeat (first | with_reducible exact hB | with_reducible exact Below.refl _ _ | with_reducible refine below_al ?_ _ | with_reducible refine below_st ?_ (by first | exact Nat.le_refl _ | exact Nat.le_add_right _ _ | (simp; omega)) _))) hb1; clear hb1)
     obtain ⟨d0, d1, d2⟩ := read3 (W := w1) (B := w.heap.size) (a := .int .i64 j) (b := .int .u8 76) (c := .string (s.extract (i + j + 1) (i + j + 1 + q))) (by rw [hc1 _ _ (by simp; try omega)]; simp) (by rw [hc1 _ _ (by simp; try omega)]; simp) (by rw [hc1 _ _ (by simp; try omega)]; simp)
     refine bodyPost_ret (v := .tuple #[.agg #[.int .i64 j, .int .u8 76, .string (s.extract (i + j + 1) (i + j + 1 + q))], .int .i64 (i + j + 1 + q + 1 : Nat)]) ?_ rfl ⟨rfl, (by repeat (first | with_reducible exact hB | with_reducible exact Below.refl _ _ | with_reducible refine below_al ?_ _ | with_reducible refine below_st ?_ (by first | exact Nat.le_refl _ | exact Nat.le_add_right _ _ | (simp; omega)) _))⟩
     simp [results, Tryz.f161, go_sem, d0, d1, d2]
set_option maxHeartbeats 1000000 in
theorem take_cls_bad (s : ByteArray) (i k : Nat) (hs : s.size ≤ 140737488355328) (hi : i ≤ s.size) (hl : lead (s.data.toList.drop i) = k) (m : Nat) (hk : i + k < s.size) (h76 : bt s (i + k) = 76) (hm : till (s.data.toList.drop (i + k + 1)) = m) (ht : i + k + 1 + m < s.size) (hv : validB k 76 (s.extract (i + k + 1) (i + k + 1 + m)) = false) (w : World) :
  Calls Tryz.prog 161 #[.string s, .int .i64 i] w fun e w' => e = .returned (.tuple #[.agg #[.int .i64 0, .int .u8 0, .string ⟨#[]⟩], .int .i64 (-1)]) ∧ Below w.heap.size w w' := by
 have hgb := get_bt s
 have hB : Below w.heap.size w w := Below.refl _ _
 have h91 : ∀ j, j < k → bt s (i + j) = 91 := fun j hj => lead_lt s i j (by omega)
 have H91 := Lib.hid h91; clear h91
 have hk0 : i + k ≤ s.size := by have := lead_bd s i hi; omega
 clear hl
 have h59 : ∀ q, q < m → ¬ bt s (i + k + 1 + q) = 59 := fun q hq => till_lt s (i + k + 1) q (by omega)
 have H59 := Lib.hid h59; clear h59
 have h76' : (bt s (i + k) == 76) = true := by rw [h76]; rfl
 have h59e : bt s (i + k + 1 + m) = 59 := by rw [← hm]; exact till_is s _ (by rw [hm]; exact ht)
 clear hm
 go_enter Tryz.func161, Tryz.ntmps161
 go_wp2
 go_loopw [1] (fun a wr => ∃ j : Nat, j ≤ k ∧ a = .int .i64 (i + j : Nat) ∧ wr = (w.alloc (.cells #[.int .i64 0, .int .u8 0, .string ⟨#[]⟩] 114)).alloc (.cells #[.int .i64 j, .int .u8 0, .string ⟨#[]⟩] 114)) (fun a _ => i + k - (intOf a).toNat)
 case atStart => exact ⟨0, Nat.zero_le _, rfl, rfl⟩
 case round =>
  obtain ⟨j, hj, rfl, rfl⟩ := hrel
  by_cases hlt : j < k
  ·
   have hb := H91.out j hlt
   have hjs : i + j < s.size := by omega
   go_wp2
   go_roundw
   case rel => exact ⟨j + 1, by omega, by go_num, rfl⟩
   case measure => simp [intOf]; omega
  ·
   obtain rfl : j = k := by omega
   go_wp2
   go_loop [1] (fun a => ∃ q : Nat, q ≤ m ∧ a = .int .i64 (i + j + 1 + q : Nat)) (fun a => i + j + 1 + m - (intOf a).toNat)
   case atStart => exact ⟨0, Nat.zero_le _, by go_num⟩
   case round =>
    obtain ⟨q, hq, rfl⟩ := hrel
    by_cases hlt2 : q < m
    ·
     have hb2 := beqF (H59.out q hlt2)
     have hb3 : (bt s (i + j + 1 + q) != 59) = true := by simpa using hb2
     have hqs : i + j + 1 + q < s.size := by omega
     go_wp2
     go_round
     case rel => exact ⟨q + 1, by omega, by go_num⟩
     case measure => simp [intOf]; omega
    ·
     obtain rfl : q = m := by omega
     go_wp2_with (go_at_call 180; refine (rvalid_any _ _ _ (by simp; omega) _).mono ?_; rintro e w1 ⟨rfl, hb1⟩; obtain ⟨hc1, hf1⟩ := bcell hb1; have hz1 := hb1.size; (try simp only [World.size_alloc, World.size_setCell] at hz1); (try have hza : w.heap.size < w1.heap.size := by omega); (try have hzb : w.heap.size + 1 < w1.heap.size := by omega); (try have hzc : w.heap.size + 1 + 1 < w1.heap.size := by omega); (try have hzd : wa.heap.size < w1.heap.size := by omega); (try replace hR := (hb1.block w.heap.size (by first | exact lt_heap hR | (have := lt_heap hR; simp; omega))).trans (by first | with_reducible exact hR | with_reducible exact laid_old hR)); replace hB := below_on (w := w) ((by repeat (first | with_reducible exact hB | with_reducible exact Below.refl _ _ | with_reducible refine below_al ?_ _ | with_reducible refine below_st ?_ (by first | exact Nat.le_refl _ | exact Nat.le_add_right _ _ | (simp; omega)) _))) hb1; clear hb1)
     obtain ⟨d0, d1, d2⟩ := read3 (W := w1) (B := w.heap.size) (a := .int .i64 0) (b := .int .u8 0) (c := .string ⟨#[]⟩) (by rw [hc1 _ _ (by simp; try omega)]; simp) (by rw [hc1 _ _ (by simp; try omega)]; simp) (by rw [hc1 _ _ (by simp; try omega)]; simp)
     refine bodyPost_ret (v := .tuple #[.agg #[.int .i64 0, .int .u8 0, .string ⟨#[]⟩], .int .i64 (-1)]) ?_ rfl ⟨rfl, (by repeat (first | with_reducible exact hB | with_reducible exact Below.refl _ _ | with_reducible refine below_al ?_ _ | with_reducible refine below_st ?_ (by first | exact Nat.le_refl _ | exact Nat.le_add_right _ _ | (simp; omega)) _))⟩
     simp [results, Tryz.f161, go_sem, d0, d1, d2]
end Go.Proofs.YtalejaklggnnpaaGreatDoor
/- DescParse -/
/- Layer 4: Parse, ParseClassConstant, in the package and in its reference. -/
namespace Go.Proofs.YtalejaklggnnpaaGreatDoor
open Go.ChangeShapes Go.WideShapes Go.ChangeAt Go.RowKit Go.PlainAid
set_option linter.unusedSimpArgs false
set_option linter.unusedVariables false
def nextI (i : Nat) (n : Int) : Int := if n = 0 then -1 else i + n
theorem next_pos {i c : Nat} (h : 0 < c) : nextI i c = (i + c : Nat) := by unfold nextI; rw [if_neg (by omega)]; omega
theorem next_zero (i : Nat) : nextI i 0 = -1 := rfl
theorem take_any (s : ByteArray) (i : Nat) (hs : s.size ≤ 140737488355328) (hi : i ≤ s.size) (w : World) :
  Calls Tryz.prog 161 #[.string s, .int .i64 i] w fun e w' => e = .returned (.tuple #[.agg #[.int .i64 (preD (s.data.toList.drop i)), .int .u8 (preB (s.data.toList.drop i)), .string (preS (s.data.toList.drop i))], .int .i64 (nextI i (preN (s.data.toList.drop i)))]) ∧ Below w.heap.size w w' := by
 have hlen := drop_len s i
 have hle := lead_le (s.data.toList.drop i)
 by_cases h : lead (s.data.toList.drop i) < (s.data.toList.drop i).length
 ·
  have hk : i + lead (s.data.toList.drop i) < s.size := by omega
  have h91 := lead_not s i hk
  have hbt := bt_drop s i (lead (s.data.toList.drop i))
  by_cases h76 : bt s (i + lead (s.data.toList.drop i)) = 76
  ·
   by_cases ht : till ((s.data.toList.drop i).drop (lead (s.data.toList.drop i) + 1)) < ((s.data.toList.drop i).drop (lead (s.data.toList.drop i) + 1)).length
   ·
    have hp := pre_cls h (by rw [hbt]; exact h76) ht
    rw [drop_drop'] at hp ht
    rw [name_cut] at hp
    have htt := ht
    rw [drop_len] at htt
    cases hv : validB (lead (s.data.toList.drop i)) 76 (s.extract (i + lead (s.data.toList.drop i) + 1) (i + lead (s.data.toList.drop i) + 1 + till (s.data.toList.drop (i + lead (s.data.toList.drop i) + 1)))) with
    | true =>
     rw [pre_ok hv] at hp
     obtain ⟨p1, p2, p3, p4⟩ := pre_is hp
     rw [p1, p2, p3, p4, next_pos (by omega), show i + (lead (s.data.toList.drop i) + 1 + (till (s.data.toList.drop (i + lead (s.data.toList.drop i) + 1)) + 1)) = i + lead (s.data.toList.drop i) + 1 + till (s.data.toList.drop (i + lead (s.data.toList.drop i) + 1)) + 1 by omega]
     exact take_cls_ok s i _ hs hi rfl _ hk h76 rfl (by omega) hv w
    | false =>
     rw [pre_bad hv] at hp
     obtain ⟨p1, p2, p3, p4⟩ := pre_is hp
     rw [p1, p2, p3, p4, next_zero]
     exact take_cls_bad s i _ hs hi rfl _ hk h76 rfl (by omega) hv w
   ·
    obtain ⟨p1, p2, p3, p4⟩ := pre_is (pre_open h (by rw [hbt]; exact h76) ht)
    rw [p1, p2, p3, p4, next_zero]
    rw [drop_drop'] at ht
    have hb := till_le (s.data.toList.drop (i + lead (s.data.toList.drop i) + 1))
    rw [drop_len] at ht hb
    exact take_open s i _ hs hi rfl _ hk h76 rfl (by omega) w
  ·
   have hp := pre_prim h (by rw [hbt]; exact h76)
   rw [hbt] at hp
   cases hv : validB (lead (s.data.toList.drop i)) (bt s (i + lead (s.data.toList.drop i))) ⟨#[]⟩ with
   | true =>
    rw [pre_ok hv] at hp
    obtain ⟨p1, p2, p3, p4⟩ := pre_is hp
    rw [p1, p2, p3, p4, next_pos (by omega), show i + (lead (s.data.toList.drop i) + 1) = i + lead (s.data.toList.drop i) + 1 by omega]
    exact take_prim_ok s i _ hs hi rfl hk h91 h76 hv w
   | false =>
    rw [pre_bad hv] at hp
    obtain ⟨p1, p2, p3, p4⟩ := pre_is hp
    rw [p1, p2, p3, p4, next_zero]
    exact take_prim_bad s i _ hs hi rfl hk h91 h76 hv w
 ·
  obtain ⟨p1, p2, p3, p4⟩ := pre_is (pre_end h)
  rw [p1, p2, p3, p4, next_zero]
  exact take_end s i _ hs hi rfl (by omega) w
/-! ### Parse -/
def pa (s : ByteArray) : Int × Int × ByteArray × Int := if 0 < preN s.data.toList ∧ preN s.data.toList = s.size then (preD s.data.toList, preB s.data.toList, preS s.data.toList, 0) else (0, 0, ⟨#[]⟩, 13)
def paD (s : ByteArray) : Int := (pa s).1
def paB (s : ByteArray) : Int := (pa s).2.1
def paS (s : ByteArray) : ByteArray := (pa s).2.2.1
def paE (s : ByteArray) : Int := (pa s).2.2.2
theorem pa_ok {s : ByteArray} (h : 0 < preN s.data.toList ∧ preN s.data.toList = s.size) : paD s = preD s.data.toList ∧ paB s = preB s.data.toList ∧ paS s = preS s.data.toList ∧ paE s = 0 := by unfold paD paB paS paE pa; rw [if_pos h]; exact ⟨rfl, rfl, rfl, rfl⟩
theorem pa_bad {s : ByteArray} (h : ¬ (0 < preN s.data.toList ∧ preN s.data.toList = s.size)) : paD s = 0 ∧ paB s = 0 ∧ paS s = ⟨#[]⟩ ∧ paE s = 13 := by unfold paD paB paS paE pa; rw [if_neg h]; exact ⟨rfl, rfl, rfl, rfl⟩
theorem pre_nn (l : List UInt8) : 0 ≤ preN l := by rcases pre_cases l with h | h <;> omega
theorem pre_le (l : List UInt8) : preN l ≤ l.length := by rcases pre_cases l with h | h <;> omega
theorem parse_any (s : ByteArray) (hs : s.size ≤ 140737488355328) (w : World) :
  Calls Tryz.prog 110 #[.string s] w fun e w' => e = .returned (.tuple #[.agg #[.int .i64 (paD s), .int .u8 (paB s), .string (paS s)], .int .i64 (paE s)]) ∧ Below w.heap.size w w' := by
 have hB : Below w.heap.size w w := Below.refl _ _
 have h0 := pre_nn s.data.toList
 go_enter Tryz.func110, Tryz.ntmps110
 go_wp2_with (go_at_call 149; refine (prefix_any _ hs _).mono ?_; rintro e w1 ⟨rfl, hb1⟩; obtain ⟨hc1, hf1⟩ := bcell hb1; have hz1 := hb1.size; (try simp only [World.size_alloc, World.size_setCell] at hz1); (try have hza : w.heap.size < w1.heap.size := by omega); (try have hzb : w.heap.size + 1 < w1.heap.size := by omega); (try have hzc : w.heap.size + 1 + 1 < w1.heap.size := by omega); (try have hzd : wa.heap.size < w1.heap.size := by omega); (try replace hR := (hb1.block w.heap.size (by first | exact lt_heap hR | (have := lt_heap hR; simp; omega))).trans (by first | with_reducible exact hR | with_reducible exact laid_old hR)); replace hB := below_on (w := w) ((by repeat (first | with_reducible exact hB | with_reducible exact Below.refl _ _ | with_reducible refine below_al ?_ _ | with_reducible refine below_st ?_ (by first | exact Nat.le_refl _ | exact Nat.le_add_right _ _ | (simp; omega)) _))) hb1; clear hb1)
 ·
  have h : preN s.data.toList = 0 := by assumption
  have g := pa_bad (s := s) (by omega)
  refine bodyPost_ret (v := .tuple #[.agg #[.int .i64 0, .int .u8 0, .string ⟨#[]⟩], .int .i64 13]) ?_ rfl ⟨by rw [g.1, g.2.1, g.2.2.1, g.2.2.2], (by repeat (first | with_reducible exact hB | with_reducible exact Below.refl _ _ | with_reducible refine below_al ?_ _ | with_reducible refine below_st ?_ (by first | exact Nat.le_refl _ | exact Nat.le_add_right _ _ | (simp; omega)) _))⟩; simp [results, Tryz.f110, go_sem, set_same, *]
 ·
  have h : ¬ preN s.data.toList = 0 := by assumption
  have h' : (preN s.data.toList == 0) = true ∨ (preN s.data.toList != (s.size : Int)) = true := by assumption
  have g := pa_bad (s := s) (by simp at h'; omega)
  refine bodyPost_ret (v := .tuple #[.agg #[.int .i64 0, .int .u8 0, .string ⟨#[]⟩], .int .i64 13]) ?_ rfl ⟨by rw [g.1, g.2.1, g.2.2.1, g.2.2.2], (by repeat (first | with_reducible exact hB | with_reducible exact Below.refl _ _ | with_reducible refine below_al ?_ _ | with_reducible refine below_st ?_ (by first | exact Nat.le_refl _ | exact Nat.le_add_right _ _ | (simp; omega)) _))⟩; simp [results, Tryz.f110, go_sem, set_same, *]
 ·
  have h : ¬ preN s.data.toList = 0 := by assumption
  have h' : (preN s.data.toList == 0) = false ∧ (preN s.data.toList != (s.size : Int)) = false := by assumption
  have g := pa_ok (s := s) (by simp at h'; omega)
  refine bodyPost_ret (v := .tuple #[.agg #[.int .i64 (preD s.data.toList), .int .u8 (preB s.data.toList), .string (preS s.data.toList)], .int .i64 0]) ?_ rfl ⟨by rw [g.1, g.2.1, g.2.2.1, g.2.2.2], (by repeat (first | with_reducible exact hB | with_reducible exact Below.refl _ _ | with_reducible refine below_al ?_ _ | with_reducible refine below_st ?_ (by first | exact Nat.le_refl _ | exact Nat.le_add_right _ _ | (simp; omega)) _))⟩; simp [results, Tryz.f110, go_sem, set_same, *]
end Go.Proofs.YtalejaklggnnpaaGreatDoor
/- DescPcc -/
/- Layer 4: the reference's Parse; ParseClassConstant, in the package and in its reference. -/
namespace Go.Proofs.YtalejaklggnnpaaGreatDoor
open Go.ChangeShapes Go.WideShapes Go.ChangeAt Go.RowKit Go.PlainAid
set_option linter.unusedSimpArgs false
set_option linter.unusedVariables false
theorem take0_any (s : ByteArray) (hs : s.size ≤ 140737488355328) (w : World) :
  Calls Tryz.prog 161 #[.string s, .int .i64 0] w fun e w' => e = .returned (.tuple #[.agg #[.int .i64 (preD s.data.toList), .int .u8 (preB s.data.toList), .string (preS s.data.toList)], .int .i64 (nextI 0 (preN s.data.toList))]) ∧ Below w.heap.size w w' := by
 have h := take_any s 0 hs (Nat.zero_le _) w
 rw [List.drop_zero] at h
 exact h
theorem next_len {s : ByteArray} : nextI 0 (preN s.data.toList) = s.size ↔ (0 < preN s.data.toList ∧ preN s.data.toList = s.size) := by
 have h0 := pre_nn s.data.toList
 unfold nextI
 split <;> omega
theorem rparse_any (s : ByteArray) (hs : s.size ≤ 140737488355328) (w : World) :
  Calls Tryz.prog 125 #[.string s] w fun e w' => e = .returned (.tuple #[.agg #[.int .i64 (paD s), .int .u8 (paB s), .string (paS s)], .int .i64 (paE s)]) ∧ Below w.heap.size w w' := by
 have hB : Below w.heap.size w w := Below.refl _ _
 by_cases hn : 0 < preN s.data.toList ∧ preN s.data.toList = s.size
 ·
  have g := pa_ok hn
  rw [g.1, g.2.1, g.2.2.1, g.2.2.2]
  have h := next_len.2 hn
  have hb : (nextI 0 (preN s.data.toList) != (s.size : Int)) = false := by simpa using h
  clear h g hn
  go_enter Tryz.func125, Tryz.ntmps125
  go_wp2_with (go_at_call 161; refine (take0_any _ hs _).mono ?_; rintro e w1 ⟨rfl, hb1⟩; obtain ⟨hc1, hf1⟩ := bcell hb1; have hz1 := hb1.size; (try simp only [World.size_alloc, World.size_setCell] at hz1); (try have hza : w.heap.size < w1.heap.size := by omega); (try have hzb : w.heap.size + 1 < w1.heap.size := by omega); (try have hzc : w.heap.size + 1 + 1 < w1.heap.size := by omega); (try have hzd : wa.heap.size < w1.heap.size := by omega); (try replace hR := (hb1.block w.heap.size (by first | exact lt_heap hR | (have := lt_heap hR; simp; omega))).trans (by first | with_reducible exact hR | with_reducible exact laid_old hR)); replace hB := below_on (w := w) ((by repeat (first | with_reducible exact hB | with_reducible exact Below.refl _ _ | with_reducible refine below_al ?_ _ | with_reducible refine below_st ?_ (by first | exact Nat.le_refl _ | exact Nat.le_add_right _ _ | (simp; omega)) _))) hb1; clear hb1)
  refine bodyPost_ret (v := .tuple #[.agg #[.int .i64 (preD s.data.toList), .int .u8 (preB s.data.toList), .string (preS s.data.toList)], .int .i64 0]) ?_ rfl ⟨rfl, (by repeat (first | with_reducible exact hB | with_reducible exact Below.refl _ _ | with_reducible refine below_al ?_ _ | with_reducible refine below_st ?_ (by first | exact Nat.le_refl _ | exact Nat.le_add_right _ _ | (simp; omega)) _))⟩; simp [results, Tryz.f125, go_sem, set_same, *]
 ·
  have g := pa_bad hn
  rw [g.1, g.2.1, g.2.2.1, g.2.2.2]
  have h := fun h => hn (next_len.1 h)
  have hb : (nextI 0 (preN s.data.toList) != (s.size : Int)) = true := by simpa using h
  clear h g hn
  go_enter Tryz.func125, Tryz.ntmps125
  go_wp2_with (go_at_call 161; refine (take0_any _ hs _).mono ?_; rintro e w1 ⟨rfl, hb1⟩; obtain ⟨hc1, hf1⟩ := bcell hb1; have hz1 := hb1.size; (try simp only [World.size_alloc, World.size_setCell] at hz1); (try have hza : w.heap.size < w1.heap.size := by omega); (try have hzb : w.heap.size + 1 < w1.heap.size := by omega); (try have hzc : w.heap.size + 1 + 1 < w1.heap.size := by omega); (try have hzd : wa.heap.size < w1.heap.size := by omega); (try replace hR := (hb1.block w.heap.size (by first | exact lt_heap hR | (have := lt_heap hR; simp; omega))).trans (by first | with_reducible exact hR | with_reducible exact laid_old hR)); replace hB := below_on (w := w) ((by repeat (first | with_reducible exact hB | with_reducible exact Below.refl _ _ | with_reducible refine below_al ?_ _ | with_reducible refine below_st ?_ (by first | exact Nat.le_refl _ | exact Nat.le_add_right _ _ | (simp; omega)) _))) hb1; clear hb1)
  refine bodyPost_ret (v := .tuple #[.agg #[.int .i64 0, .int .u8 0, .string ⟨#[]⟩], .int .i64 13]) ?_ rfl ⟨rfl, (by repeat (first | with_reducible exact hB | with_reducible exact Below.refl _ _ | with_reducible refine below_al ?_ _ | with_reducible refine below_st ?_ (by first | exact Nat.le_refl _ | exact Nat.le_add_right _ _ | (simp; omega)) _))⟩; simp [results, Tryz.f125, go_sem, set_same, *]
/-! ### ParseClassConstant -/
def fst91 (s : ByteArray) : Bool := Lib.hasPrefix s.data.toList [91]
def pc (s : ByteArray) : Int × Int × ByteArray × Int := if clsB s = true then (0, 76, s, 0) else if fst91 s = true then (paD s, paB s, paS s, paE s) else (0, 0, ⟨#[]⟩, 13)
def pcD (s : ByteArray) : Int := (pc s).1
def pcB (s : ByteArray) : Int := (pc s).2.1
def pcS (s : ByteArray) : ByteArray := (pc s).2.2.1
def pcE (s : ByteArray) : Int := (pc s).2.2.2
theorem pc_cls {s : ByteArray} (h : clsB s = true) : pcD s = 0 ∧ pcB s = 76 ∧ pcS s = s ∧ pcE s = 0 := by unfold pcD pcB pcS pcE pc; rw [if_pos h]; exact ⟨rfl, rfl, rfl, rfl⟩
theorem pc_arr {s : ByteArray} (h : clsB s = false) (h1 : fst91 s = true) : pcD s = paD s ∧ pcB s = paB s ∧ pcS s = paS s ∧ pcE s = paE s := by unfold pcD pcB pcS pcE pc; rw [h, h1]; exact ⟨rfl, rfl, rfl, rfl⟩
theorem pc_bad {s : ByteArray} (h : clsB s = false) (h1 : fst91 s = false) : pcD s = 0 ∧ pcB s = 0 ∧ pcS s = ⟨#[]⟩ ∧ pcE s = 13 := by unfold pcD pcB pcS pcE pc; rw [h, h1]; exact ⟨rfl, rfl, rfl, rfl⟩
theorem fst_iff (s : ByteArray) : fst91 s = true ↔ 0 < s.size ∧ bt s 0 = 91 := by
 have hl := len_data s
 unfold fst91 Lib.hasPrefix
 rw [bt_data]
 cases h : s.data.toList with
 | nil => rw [h] at hl; simp at hl; simp [← hl]
 | cons c l =>
  rw [h] at hl
  simp only [List.length_cons] at hl
  simp only [List.isPrefixOf, List.getD_cons_zero]
  constructor
  ·
   intro h; simp at h; subst h; exact ⟨by omega, rfl⟩
  ·
   rintro ⟨_, h2⟩
   have := u8_yes (c := 91) h2
   subst this; rfl
theorem has91_any (s : ByteArray) (w : World) :
  Calls Tryz.prog 113 #[.string s, .string ⟨#[91]⟩] w fun e w' => e = .returned (.bool (fst91 s)) ∧ w = w' :=
 (Tryz.strings_HasPrefix s ⟨#[91]⟩ w).mono fun e w' h => ⟨h.1, h.2.symm⟩
theorem pcc_any (s : ByteArray) (hs : s.size ≤ 140737488355328) (w : World) :
  Calls Tryz.prog 183 #[.string s] w fun e w' => e = .returned (.tuple #[.agg #[.int .i64 (pcD s), .int .u8 (pcB s), .string (pcS s)], .int .i64 (pcE s)]) ∧ Below w.heap.size w w' := by
 have hB : Below w.heap.size w w := Below.refl _ _
 cases hc : clsB s with
 | true =>
  have g := pc_cls hc
  rw [g.1, g.2.1, g.2.2.1, g.2.2.2]
  clear g
  go_enter Tryz.func183, Tryz.ntmps183
  go_wp2_with (go_at_call 187; refine (cls_any _ _).mono ?_; rintro e w1 ⟨rfl, hb1⟩; obtain ⟨hc1, hf1⟩ := bcell hb1; have hz1 := hb1.size; (try simp only [World.size_alloc, World.size_setCell] at hz1); (try have hza : w.heap.size < w1.heap.size := by omega); (try have hzb : w.heap.size + 1 < w1.heap.size := by omega); (try have hzc : w.heap.size + 1 + 1 < w1.heap.size := by omega); (try have hzd : wa.heap.size < w1.heap.size := by omega); (try replace hR := (hb1.block w.heap.size (by first | exact lt_heap hR | (have := lt_heap hR; simp; omega))).trans (by first | with_reducible exact hR | with_reducible exact laid_old hR)); replace hB := below_on (w := w) ((by repeat (first | with_reducible exact hB | with_reducible exact Below.refl _ _ | with_reducible refine below_al ?_ _ | with_reducible refine below_st ?_ (by first | exact Nat.le_refl _ | exact Nat.le_add_right _ _ | (simp; omega)) _))) hb1; clear hb1)
  refine bodyPost_ret (v := .tuple #[.agg #[.int .i64 0, .int .u8 76, .string s], .int .i64 0]) ?_ rfl ⟨rfl, (by repeat (first | with_reducible exact hB | with_reducible exact Below.refl _ _ | with_reducible refine below_al ?_ _ | with_reducible refine below_st ?_ (by first | exact Nat.le_refl _ | exact Nat.le_add_right _ _ | (simp; omega)) _))⟩; simp [results, Tryz.f183, go_sem, set_same, *]
 | false =>
  cases h1 : fst91 s with
  | true =>
   have g := pc_arr hc h1
   rw [g.1, g.2.1, g.2.2.1, g.2.2.2]
   clear g
   go_enter Tryz.func183, Tryz.ntmps183
   go_wp2_with (first | (go_at_call 187; refine (cls_any _ _).mono ?_; rintro e w1 ⟨rfl, hb1⟩; obtain ⟨hc1, hf1⟩ := bcell hb1; have hz1 := hb1.size; (try simp only [World.size_alloc, World.size_setCell] at hz1); (try have hza : w.heap.size < w1.heap.size := by omega); (try have hzb : w.heap.size + 1 < w1.heap.size := by omega); (try have hzc : w.heap.size + 1 + 1 < w1.heap.size := by omega); (try have hzd : wa.heap.size < w1.heap.size := by omega); (try replace hR := (hb1.block w.heap.size (by first | exact lt_heap hR | (have := lt_heap hR; simp; omega))).trans (by first | with_reducible exact hR | with_reducible exact laid_old hR)); replace hB := below_on (w := w) ((by repeat (first | with_reducible exact hB | with_reducible exact Below.refl _ _ | with_reducible refine below_al ?_ _ | with_reducible refine below_st ?_ (by first | exact Nat.le_refl _ | exact Nat.le_add_right _ _ | (simp; omega)) _))) hb1; clear hb1) | (go_at_call 113; refine (has91_any _ _).mono ?_; rintro e w' ⟨rfl, rfl⟩) | (go_at_call 110; refine (parse_any _ hs _).mono ?_; rintro e w1 ⟨rfl, hb1⟩; obtain ⟨hc1, hf1⟩ := bcell hb1; have hz1 := hb1.size; (try simp only [World.size_alloc, World.size_setCell] at hz1); (try have hza : w.heap.size < w1.heap.size := by omega); (try have hzb : w.heap.size + 1 < w1.heap.size := by omega); (try have hzc : w.heap.size + 1 + 1 < w1.heap.size := by omega); (try have hzd : wa.heap.size < w1.heap.size := by omega); (try replace hR := (hb1.block w.heap.size (by first | exact lt_heap hR | (have := lt_heap hR; simp; omega))).trans (by first | with_reducible exact hR | with_reducible exact laid_old hR)); replace hB := below_on (w := w) ((by repeat (first | with_reducible exact hB | with_reducible exact Below.refl _ _ | with_reducible refine below_al ?_ _ | with_reducible refine below_st ?_ (by first | exact Nat.le_refl _ | exact Nat.le_add_right _ _ | (simp; omega)) _))) hb1; clear hb1))
   refine bodyPost_ret (v := .tuple #[.agg #[.int .i64 (paD s), .int .u8 (paB s), .string (paS s)], .int .i64 (paE s)]) ?_ rfl ⟨rfl, (by repeat (first | with_reducible exact hB | with_reducible exact Below.refl _ _ | with_reducible refine below_al ?_ _ | with_reducible refine below_st ?_ (by first | exact Nat.le_refl _ | exact Nat.le_add_right _ _ | (simp; omega)) _))⟩; simp [results, Tryz.f183, go_sem, set_same, *]
  | false =>
   have g := pc_bad hc h1
   rw [g.1, g.2.1, g.2.2.1, g.2.2.2]
   clear g
   go_enter Tryz.func183, Tryz.ntmps183
   go_wp2_with (first | (go_at_call 187; refine (cls_any _ _).mono ?_; rintro e w1 ⟨rfl, hb1⟩; obtain ⟨hc1, hf1⟩ := bcell hb1; have hz1 := hb1.size; (try simp only [World.size_alloc, World.size_setCell] at hz1); (try have hza : w.heap.size < w1.heap.size := by omega); (try have hzb : w.heap.size + 1 < w1.heap.size := by omega); (try have hzc : w.heap.size + 1 + 1 < w1.heap.size := by omega); (try have hzd : wa.heap.size < w1.heap.size := by omega); (try replace hR := (hb1.block w.heap.size (by first | exact lt_heap hR | (have := lt_heap hR; simp; omega))).trans (by first | with_reducible exact hR | with_reducible exact laid_old hR)); replace hB := below_on (w := w) ((by repeat (first | with_reducible exact hB | with_reducible exact Below.refl _ _ | with_reducible refine below_al ?_ _ | with_reducible refine below_st ?_ (by first | exact Nat.le_refl _ | exact Nat.le_add_right _ _ | (simp; omega)) _))) hb1; clear hb1) | (go_at_call 113; refine (has91_any _ _).mono ?_; rintro e w' ⟨rfl, rfl⟩) | (go_at_call 110; refine (parse_any _ hs _).mono ?_; rintro e w1 ⟨rfl, hb1⟩; obtain ⟨hc1, hf1⟩ := bcell hb1; have hz1 := hb1.size; (try simp only [World.size_alloc, World.size_setCell] at hz1); (try have hza : w.heap.size < w1.heap.size := by omega); (try have hzb : w.heap.size + 1 < w1.heap.size := by omega); (try have hzc : w.heap.size + 1 + 1 < w1.heap.size := by omega); (try have hzd : wa.heap.size < w1.heap.size := by omega); (try replace hR := (hb1.block w.heap.size (by first | exact lt_heap hR | (have := lt_heap hR; simp; omega))).trans (by first | with_reducible exact hR | with_reducible exact laid_old hR)); replace hB := below_on (w := w) ((by repeat (first | with_reducible exact hB | with_reducible exact Below.refl _ _ | with_reducible refine below_al ?_ _ | with_reducible refine below_st ?_ (by first | exact Nat.le_refl _ | exact Nat.le_add_right _ _ | (simp; omega)) _))) hb1; clear hb1))
   refine bodyPost_ret (v := .tuple #[.agg #[.int .i64 0, .int .u8 0, .string ⟨#[]⟩], .int .i64 13]) ?_ rfl ⟨rfl, (by repeat (first | with_reducible exact hB | with_reducible exact Below.refl _ _ | with_reducible refine below_al ?_ _ | with_reducible refine below_st ?_ (by first | exact Nat.le_refl _ | exact Nat.le_add_right _ _ | (simp; omega)) _))⟩; simp [results, Tryz.f183, go_sem, set_same, *]
theorem rpcc_any (s : ByteArray) (hs : s.size ≤ 140737488355328) (w : World) :
  Calls Tryz.prog 174 #[.string s] w fun e w' => e = .returned (.tuple #[.agg #[.int .i64 (pcD s), .int .u8 (pcB s), .string (pcS s)], .int .i64 (pcE s)]) ∧ Below w.heap.size w w' := by
 have hB : Below w.heap.size w w := Below.refl _ _
 have hgb := get_bt s
 cases hc : clsB s with
 | true =>
  have g := pc_cls hc
  rw [g.1, g.2.1, g.2.2.1, g.2.2.2]
  clear g
  go_enter Tryz.func174, Tryz.ntmps174
  go_wp2_with (go_at_call 188; refine (rcls_any _ (by omega) _).mono ?_; rintro e w' ⟨rfl, rfl⟩)
  refine bodyPost_ret (v := .tuple #[.agg #[.int .i64 0, .int .u8 76, .string s], .int .i64 0]) ?_ rfl ⟨rfl, (by repeat (first | with_reducible exact hB | with_reducible exact Below.refl _ _ | with_reducible refine below_al ?_ _ | with_reducible refine below_st ?_ (by first | exact Nat.le_refl _ | exact Nat.le_add_right _ _ | (simp; omega)) _))⟩; simp [results, Tryz.f174, go_sem, set_same, *]
 | false =>
  cases h1 : fst91 s with
  | true =>
   have g := pc_arr hc h1
   rw [g.1, g.2.1, g.2.2.1, g.2.2.2]
   obtain ⟨hp, h91⟩ := (fst_iff s).1 h1
   have he := nonempty_data hp
   clear g h1
   go_enter Tryz.func174, Tryz.ntmps174
   go_wp2_with (first | (go_at_call 188; refine (rcls_any _ (by omega) _).mono ?_; rintro e w' ⟨rfl, rfl⟩) | (go_at_call 125; refine (rparse_any _ hs _).mono ?_; rintro e w1 ⟨rfl, hb1⟩; obtain ⟨hc1, hf1⟩ := bcell hb1; have hz1 := hb1.size; (try simp only [World.size_alloc, World.size_setCell] at hz1); (try have hza : w.heap.size < w1.heap.size := by omega); (try have hzb : w.heap.size + 1 < w1.heap.size := by omega); (try have hzc : w.heap.size + 1 + 1 < w1.heap.size := by omega); (try have hzd : wa.heap.size < w1.heap.size := by omega); (try replace hR := (hb1.block w.heap.size (by first | exact lt_heap hR | (have := lt_heap hR; simp; omega))).trans (by first | with_reducible exact hR | with_reducible exact laid_old hR)); replace hB := below_on (w := w) ((by repeat (first | with_reducible exact hB | with_reducible exact Below.refl _ _ | with_reducible refine below_al ?_ _ | with_reducible refine below_st ?_ (by first | exact Nat.le_refl _ | exact Nat.le_add_right _ _ | (simp; omega)) _))) hb1; clear hb1))
   refine bodyPost_ret (v := .tuple #[.agg #[.int .i64 (paD s), .int .u8 (paB s), .string (paS s)], .int .i64 (paE s)]) ?_ rfl ⟨rfl, (by repeat (first | with_reducible exact hB | with_reducible exact Below.refl _ _ | with_reducible refine below_al ?_ _ | with_reducible refine below_st ?_ (by first | exact Nat.le_refl _ | exact Nat.le_add_right _ _ | (simp; omega)) _))⟩; simp [results, Tryz.f174, go_sem, set_same, *]
  | false =>
   have g := pc_bad hc h1
   rw [g.1, g.2.1, g.2.2.1, g.2.2.2]
   have hn := mt (fst_iff s).2 (by rw [h1]; simp)
   clear g h1
   by_cases hp : 0 < s.size
   ·
    have he := nonempty_data hp
    have h91 : (bt s 0 != 91) = true := (by have h8 : ¬ bt s 0 = 91 := (fun e => hn ⟨hp, e⟩); simpa using h8)
    clear hn
    go_enter Tryz.func174, Tryz.ntmps174
    go_wp2_with (first | (go_at_call 188; refine (rcls_any _ (by omega) _).mono ?_; rintro e w' ⟨rfl, rfl⟩) | (go_at_call 125; refine (rparse_any _ hs _).mono ?_; rintro e w1 ⟨rfl, hb1⟩; obtain ⟨hc1, hf1⟩ := bcell hb1; have hz1 := hb1.size; (try simp only [World.size_alloc, World.size_setCell] at hz1); (try have hza : w.heap.size < w1.heap.size := by omega); (try have hzb : w.heap.size + 1 < w1.heap.size := by omega); (try have hzc : w.heap.size + 1 + 1 < w1.heap.size := by omega); (try have hzd : wa.heap.size < w1.heap.size := by omega); (try replace hR := (hb1.block w.heap.size (by first | exact lt_heap hR | (have := lt_heap hR; simp; omega))).trans (by first | with_reducible exact hR | with_reducible exact laid_old hR)); replace hB := below_on (w := w) ((by repeat (first | with_reducible exact hB | with_reducible exact Below.refl _ _ | with_reducible refine below_al ?_ _ | with_reducible refine below_st ?_ (by first | exact Nat.le_refl _ | exact Nat.le_add_right _ _ | (simp; omega)) _))) hb1; clear hb1))
    refine bodyPost_ret (v := .tuple #[.agg #[.int .i64 0, .int .u8 0, .string ⟨#[]⟩], .int .i64 13]) ?_ rfl ⟨rfl, (by repeat (first | with_reducible exact hB | with_reducible exact Below.refl _ _ | with_reducible refine below_al ?_ _ | with_reducible refine below_st ?_ (by first | exact Nat.le_refl _ | exact Nat.le_add_right _ _ | (simp; omega)) _))⟩; simp [results, Tryz.f174, go_sem, set_same, *]
   ·
    have he := empty_data (s := s) (by omega)
    clear hn
    go_enter Tryz.func174, Tryz.ntmps174
    go_wp2_with (first | (go_at_call 188; refine (rcls_any _ (by omega) _).mono ?_; rintro e w' ⟨rfl, rfl⟩) | (go_at_call 125; refine (rparse_any _ hs _).mono ?_; rintro e w1 ⟨rfl, hb1⟩; obtain ⟨hc1, hf1⟩ := bcell hb1; have hz1 := hb1.size; (try simp only [World.size_alloc, World.size_setCell] at hz1); (try have hza : w.heap.size < w1.heap.size := by omega); (try have hzb : w.heap.size + 1 < w1.heap.size := by omega); (try have hzc : w.heap.size + 1 + 1 < w1.heap.size := by omega); (try have hzd : wa.heap.size < w1.heap.size := by omega); (try replace hR := (hb1.block w.heap.size (by first | exact lt_heap hR | (have := lt_heap hR; simp; omega))).trans (by first | with_reducible exact hR | with_reducible exact laid_old hR)); replace hB := below_on (w := w) ((by repeat (first | with_reducible exact hB | with_reducible exact Below.refl _ _ | with_reducible refine below_al ?_ _ | with_reducible refine below_st ?_ (by first | exact Nat.le_refl _ | exact Nat.le_add_right _ _ | (simp; omega)) _))) hb1; clear hb1))
    refine bodyPost_ret (v := .tuple #[.agg #[.int .i64 0, .int .u8 0, .string ⟨#[]⟩], .int .i64 13]) ?_ rfl ⟨rfl, (by repeat (first | with_reducible exact hB | with_reducible exact Below.refl _ _ | with_reducible refine below_al ?_ _ | with_reducible refine below_st ?_ (by first | exact Nat.le_refl _ | exact Nat.le_add_right _ _ | (simp; omega)) _))⟩; simp [results, Tryz.f174, go_sem, set_same, *]
end Go.Proofs.YtalejaklggnnpaaGreatDoor
/- DescSig -/
/- Layer 4: what a signature's descriptor says; rows of types in memory. No walk. -/
namespace Go.Proofs.YtalejaklggnnpaaGreatDoor
open Go.ChangeShapes Go.WideShapes Go.ChangeAt Go.RowKit Go.PlainAid
set_option linter.unusedSimpArgs false
set_option linter.unusedVariables false
abbrev Ty := Int × Int × ByteArray
def tyCells (p : Ty) : List Value := [.int .i64 p.1, .int .u8 p.2.1, .string p.2.2]
def rowCells (ps : List Ty) : List Value := ps.flatMap tyCells
theorem rowCells_snoc (ps : List Ty) (p : Ty) : rowCells (ps ++ [p]) = rowCells ps ++ tyCells p := by unfold rowCells; simp
theorem rowCells_at : ∀ (ps : List Ty) (i : Nat) (p : Ty), ps[i]? = some p → (rowCells ps)[i * 3]? = some (.int .i64 p.1) ∧ (rowCells ps)[i * 3 + 1]? = some (.int .u8 p.2.1) ∧ (rowCells ps)[i * 3 + 2]? = some (.string p.2.2)
 | [], i, p, h => by simp at h
 | q :: ps, 0, p, h => by
  simp at h; subst h
  exact ⟨rfl, rfl, rfl⟩
 | q :: ps, i + 1, p, h => by
  have ih := rowCells_at ps i p (by simpa using h)
  have e : rowCells (q :: ps) = tyCells q ++ rowCells ps := by unfold rowCells; rw [List.flatMap_cons]
  rw [e]
  have l3 : (tyCells q).length = 3 := rfl
  refine ⟨?_, ?_, ?_⟩
  ·
   rw [List.getElem?_append_right (by omega), l3, show (i + 1) * 3 - 3 = i * 3 by omega]; exact ih.1
  ·
   rw [List.getElem?_append_right (by omega), l3, show (i + 1) * 3 + 1 - 3 = i * 3 + 1 by omega]; exact ih.2.1
  ·
   rw [List.getElem?_append_right (by omega), l3, show (i + 1) * 3 + 2 - 3 = i * 3 + 2 by omega]; exact ih.2.2
/-- the types of a slice, at their places: below block B -/
def Tys (w : World) (B : Nat) (A : Option Addr) (ps : List Ty) : Prop :=
 ps = [] ∨ ∃ g o, A = some ⟨g, o, none⟩ ∧ g < B ∧ ∀ i p, ps[i]? = some p → w.cell? ⟨g, o + i * 3, none⟩ = some (.int .i64 p.1) ∧ w.cell? ⟨g, o + i * 3 + 1, none⟩ = some (.int .u8 p.2.1) ∧ w.cell? ⟨g, o + i * 3 + 2, none⟩ = some (.string p.2.2)
theorem Tys.below {w w' : World} {B : Nat} {A : Option Addr} {ps : List Ty} (h : Tys w B A ps) (hb : Below B w w') : Tys w' B A ps := by
 rcases h with h | ⟨g, o, hA, hg, hc⟩
 ·
  exact Or.inl h
 ·
  refine Or.inr ⟨g, o, hA, hg, fun i p hi => ?_⟩
  obtain ⟨a, b, c⟩ := hc i p hi
  exact ⟨(hb.cell (p := ⟨g, _, none⟩) hg).trans a, (hb.cell (p := ⟨g, _, none⟩) hg).trans b, (hb.cell (p := ⟨g, _, none⟩) hg).trans c⟩
theorem Tys.more {w : World} {B B' : Nat} {A : Option Addr} {ps : List Ty} (h : Tys w B A ps) (hB : B ≤ B') : Tys w B' A ps := by
 rcases h with h | ⟨g, o, hA, hg, hc⟩
 ·
  exact Or.inl h
 ·
  exact Or.inr ⟨g, o, hA, by omega, hc⟩
theorem Tys.nil (w : World) (B : Nat) (A : Option Addr) : Tys w B A [] := Or.inl rfl
theorem Tys.of_own {w : World} {base e n c : Nat} {A : Option Addr} {ps : List Ty} (h : w.ownsRow base e 3 (.slice A n c) n (rowCells ps)) (hn : ps.length = n) : Tys w w.heap.size A ps := by
 cases ps with
 | nil => exact Or.inl rfl
 | cons p ps =>
  obtain ⟨g, cap, hv, _, hlt⟩ := h.form (by rw [← hn, List.length_cons]; omega)
  have hA : A = some ⟨g, 0, none⟩ := by injection hv
  subst hA
  have hcap : c = cap := by injection hv
  subst hcap
  refine Or.inr ⟨g, 0, rfl, hlt, fun i q hi => ?_⟩
  obtain ⟨a, b, d⟩ := rowCells_at _ i q hi
  have hil : i < (p :: ps).length := by
   rcases Nat.lt_or_ge i (p :: ps).length with h | h
   ·
    exact h
   ·
    rw [List.getElem?_eq_none h] at hi; cases hi
  refine ⟨?_, ?_, ?_⟩
  ·
   rw [h.cellAt _ (by omega), Nat.zero_add]; exact a
  ·
   rw [h.cellAt _ (by omega), Nat.zero_add]; exact b
  ·
   rw [h.cellAt _ (by omega), Nat.zero_add]; exact d
theorem owns_below {w w' : World} {base : Nat} {e size n : Nat} {v : Value} {xs : List Value} (h : w.ownsRow base e size v n xs) (hb : Below w.heap.size w w') : w'.ownsRow base e size v n xs := by
 refine ⟨h.1, ?_⟩
 rcases h.2 with h2 | ⟨g, cap, cur, hv, hg, hh, r⟩
 ·
  exact Or.inl h2
 ·
  refine Or.inr ⟨g, cap, cur, hv, hg, ?_, r⟩
  rw [hb.block g (by
   rcases Nat.lt_or_ge g w.heap.size with hlt | hge
   ·
    exact hlt
   ·
    rw [Array.getElem?_eq_none hge] at hh; cases hh)]
  exact hh
/-! ### the parameters -/
def stepOk (l : List UInt8) : Bool := decide (0 < preN l) && !decide (preB l = 86)
def tyOf (l : List UInt8) : Ty := (preD l, preB l, preS l)
def sigP : Nat → List UInt8 → Option (List Ty × List UInt8)
 | 0, _ => none
 | f + 1, [] => some ([], [])
 | f + 1, c :: r => if c = 41 then some ([], c :: r) else if stepOk (c :: r) = true then (sigP f ((c :: r).drop (preN (c :: r)).toNat)).map (fun x => (tyOf (c :: r) :: x.1, x.2)) else none
/-- the reading begun at the first byte, seen from a later place: ps have been read -/
def Begun (l1 : List UInt8) (ps : List Ty) (f : Nat) (l : List UInt8) : Prop := sigP l1.length.succ l1 = (sigP f l).map (fun x => (ps ++ x.1, x.2))
theorem begun_start (l1 : List UInt8) : Begun l1 [] l1.length.succ l1 := by unfold Begun; cases sigP l1.length.succ l1 <;> rfl
theorem begun_step {l1 : List UInt8} {ps : List Ty} {f : Nat} {l : List UInt8} (h : Begun l1 ps (f + 1) l) (hl : l ≠ []) (h41 : l.getD 0 0 ≠ 41) (hs : stepOk l = true) : Begun l1 (ps ++ [tyOf l]) f (l.drop (preN l).toNat) := by
 unfold Begun at h ⊢
 rw [h]
 cases l with
 | nil => exact absurd rfl hl
 | cons c r =>
  have h41' : ¬ c = 41 := by simpa using h41
  simp only [sigP, if_neg h41', if_pos hs]
  cases sigP f ((c :: r).drop (preN (c :: r)).toNat) with
  | none => rfl
  | some x => simp
theorem begun_bad {l1 : List UInt8} {ps : List Ty} {f : Nat} {l : List UInt8} (h : Begun l1 ps (f + 1) l) (hl : l ≠ []) (h41 : l.getD 0 0 ≠ 41) (hs : stepOk l = false) : sigP l1.length.succ l1 = none := by
 unfold Begun at h
 rw [h]
 cases l with
 | nil => exact absurd rfl hl
 | cons c r =>
  have h41' : ¬ c = 41 := by simpa using h41
  simp only [sigP, if_neg h41', hs]; rfl
theorem begun_end {l1 : List UInt8} {ps : List Ty} {f : Nat} (h : Begun l1 ps (f + 1) []) : sigP l1.length.succ l1 = some (ps, []) := by
 unfold Begun at h; rw [h]; simp [sigP]
theorem begun_close {l1 : List UInt8} {ps : List Ty} {f : Nat} {l : List UInt8} (h : Begun l1 ps (f + 1) l) (hl : l ≠ []) (h41 : l.getD 0 0 = 41) : sigP l1.length.succ l1 = some (ps, l) := by
 unfold Begun at h; rw [h]
 cases l with
 | nil => exact absurd rfl hl
 | cons c r =>
  have h41' : c = 41 := by simpa using h41
  simp [sigP, h41']
/-! ### the whole signature: parameters, result, error -/
def sgOf (l : List UInt8) : List Ty × Ty × Int :=
 if l.getD 0 0 = 40 then
  match sigP (l.drop 1).length.succ (l.drop 1) with
  | none => ([], (0, 0, ⟨#[]⟩), 13)
  | some (ps, q) =>
   if q = [] then ([], (0, 0, ⟨#[]⟩), 13)
   else if 0 < preN (q.drop 1) ∧ preN (q.drop 1) = (q.drop 1).length then if 16 < ps.length then ([], (0, 0, ⟨#[]⟩), 5) else (ps, tyOf (q.drop 1), 0)
   else ([], (0, 0, ⟨#[]⟩), 13)
 else ([], (0, 0, ⟨#[]⟩), 13)
theorem sg_open {l : List UInt8} (h : ¬ l.getD 0 0 = 40) : sgOf l = ([], (0, 0, ⟨#[]⟩), 13) := by unfold sgOf; rw [if_neg h]
theorem sg_bad {l : List UInt8} (h : l.getD 0 0 = 40) (hp : sigP (l.drop 1).length.succ (l.drop 1) = none) : sgOf l = ([], (0, 0, ⟨#[]⟩), 13) := by unfold sgOf; rw [if_pos h, hp]
theorem sg_end {l : List UInt8} {ps : List Ty} (h : l.getD 0 0 = 40) (hp : sigP (l.drop 1).length.succ (l.drop 1) = some (ps, [])) : sgOf l = ([], (0, 0, ⟨#[]⟩), 13) := by unfold sgOf; rw [if_pos h, hp]; rfl
theorem sg_res {l q : List UInt8} {ps : List Ty} (h : l.getD 0 0 = 40) (hp : sigP (l.drop 1).length.succ (l.drop 1) = some (ps, q)) (hq : q ≠ []) (hr : ¬ (0 < preN (q.drop 1) ∧ preN (q.drop 1) = (q.drop 1).length)) : sgOf l = ([], (0, 0, ⟨#[]⟩), 13) := by
 unfold sgOf; rw [if_pos h, hp]; simp only; rw [if_neg hq, if_neg hr]
theorem sg_many {l q : List UInt8} {ps : List Ty} (h : l.getD 0 0 = 40) (hp : sigP (l.drop 1).length.succ (l.drop 1) = some (ps, q)) (hq : q ≠ []) (hr : 0 < preN (q.drop 1) ∧ preN (q.drop 1) = (q.drop 1).length) (hm : 16 < ps.length) : sgOf l = ([], (0, 0, ⟨#[]⟩), 5) := by
 unfold sgOf; rw [if_pos h, hp]; simp only; rw [if_neg hq, if_pos hr, if_pos hm]
theorem sg_ok {l q : List UInt8} {ps : List Ty} (h : l.getD 0 0 = 40) (hp : sigP (l.drop 1).length.succ (l.drop 1) = some (ps, q)) (hq : q ≠ []) (hr : 0 < preN (q.drop 1) ∧ preN (q.drop 1) = (q.drop 1).length) (hm : ¬ 16 < ps.length) : sgOf l = (ps, tyOf (q.drop 1), 0) := by
 unfold sgOf; rw [if_pos h, hp]; simp only; rw [if_neg hq, if_pos hr, if_neg hm]
/-- what ParseSignature hands back -/
def SigRet (w : World) (x : List Ty × Ty × Int) (e : Ending) (w' : World) : Prop :=
 ∃ A c, e = .returned (.tuple #[.agg #[.slice A x.1.length c, .int .i64 x.2.1.1, .int .u8 x.2.1.2.1, .string x.2.1.2.2], .int .i64 x.2.2]) ∧ Tys w' w'.heap.size A x.1 ∧ x.1.length ≤ c ∧ Below w.heap.size w w'
end Go.Proofs.YtalejaklggnnpaaGreatDoor
/- DescPsig -/
/- Layer 4: desc.ParseSignature. -/
namespace Go.Proofs.YtalejaklggnnpaaGreatDoor
open Go.ChangeShapes Go.WideShapes Go.ChangeAt Go.RowKit Go.PlainAid
set_option linter.unusedSimpArgs false
set_option linter.unusedVariables false
theorem info30 : (Tryz.prog.info? 114).map (fun i => (i.zero, i.size, i.bytes)) = some (some (.agg #[.int .i64 0, .int .u8 0, .string ⟨#[]⟩]), 3, 32) := by kernel_rfl
theorem four_cells {W : World} {B : Nat} {x y z u : Value} {t : TypeId} (h : W.heap[B]? = some (.cells #[x, y, z, u] t)) :
  (W.cell? ⟨B, 0, none⟩ = some x ∧ W.cell? ⟨B, 1, none⟩ = some y ∧ W.cell? ⟨B, 2, none⟩ = some z ∧ W.cell? ⟨B, 3, none⟩ = some u) ∧ W.frozen? ⟨B, 0, none⟩ = false ∧ W.frozen? ⟨B, 1, none⟩ = false ∧ W.frozen? ⟨B, 2, none⟩ = false ∧ W.frozen? ⟨B, 3, none⟩ = false := by
 refine ⟨⟨?_, ?_, ?_, ?_⟩, ?_, ?_, ?_, ?_⟩ <;> simp [World.cell?, World.frozen?, h]
/-- desc.prefix at a cut of the string -/
theorem prefix_at (s : ByteArray) (i : Nat) (hs : s.size ≤ 140737488355328) (w : World) :
  Calls Tryz.prog 149 #[.string (s.extract i s.size)] w fun e w' => e = .returned (.tuple #[.agg #[.int .i64 (preD (s.data.toList.drop i)), .int .u8 (preB (s.data.toList.drop i)), .string (preS (s.data.toList.drop i))], .int .i64 (preN (s.data.toList.drop i))]) ∧ Below w.heap.size w w' := by
 have h := prefix_any (s.extract i s.size) (by rw [ByteArray.size_extract]; omega) w
 rw [data_extract, List.take_of_length_le (by rw [drop_len]; omega)] at h
 exact h
structure PsInv (s : ByteArray) (w wr : World) (i : Nat) (ps : List Ty) (v : Value) : Prop where
 i1 : 1 ≤ i
 is : i ≤ s.size
 pl : ps.length + 1 ≤ i
 run : ∃ f, s.size - i < f ∧ Begun (s.data.toList.drop 1) ps f (s.data.toList.drop i)
 own : wr.ownsRow (w.heap.size + 2) 114 3 v (min ps.length 16) (rowCells (ps.take 16))
 res : wr.heap[w.heap.size]? = some (.cells #[.slice none 0 0, .int .i64 0, .int .u8 0, .string ⟨#[]⟩] 205)
 g : wr.heap[w.heap.size + 1]? = some (.cells #[v, .int .i64 0, .int .u8 0, .string ⟨#[]⟩] 205)
 below : Below w.heap.size w wr
 size : w.heap.size + 2 ≤ wr.heap.size
theorem stepOk_yes {l : List UInt8} (h : 0 < preN l) (hb : ¬ preB l = 86) : stepOk l = true := by unfold stepOk; rw [decide_eq_true h, decide_eq_false hb]; rfl
theorem stepOk_none {l : List UInt8} (h : preN l = 0) : stepOk l = false := by unfold stepOk; rw [decide_eq_false (by omega)]; rfl
theorem stepOk_void {l : List UInt8} (hb : preB l = 86) : stepOk l = false := by unfold stepOk; rw [decide_eq_true hb]; simp
theorem drop_ne {s : ByteArray} {i : Nat} (h : i < s.size) : s.data.toList.drop i ≠ [] := by
 intro e
 have := drop_len s i
 rw [e] at this; simp at this; omega
theorem drop_hd (s : ByteArray) (i : Nat) : (((s.data.toList.drop i).getD 0 0).toNat : Int) = bt s i := by rw [bt_drop]; rfl
theorem hd_ne {s : ByteArray} {i : Nat} (h : ¬ bt s i = 41) : (s.data.toList.drop i).getD 0 0 ≠ 41 := by
 intro e
 have := drop_hd s i
 rw [e] at this
 exact h this.symm
theorem PsInv.begun {s : ByteArray} {w wr : World} {i : Nat} {ps : List Ty} {v : Value} (I : PsInv s w wr i ps v) : ∃ f, s.size - i < f + 1 ∧ Begun (s.data.toList.drop 1) ps (f + 1) (s.data.toList.drop i) := by
 obtain ⟨f, hf, hr⟩ := I.run
 cases f with
 | zero => omega
 | succ f => exact ⟨f, hf, hr⟩
theorem ps_run {s : ByteArray} {w wr : World} {i : Nat} {ps : List Ty} {v : Value} (I : PsInv s w wr i ps v) (hlt : i < s.size) (h41 : ¬ bt s i = 41) (hN : ¬ preN (s.data.toList.drop i) = 0) (h86 : ¬ preB (s.data.toList.drop i) = 86) :
  ∃ f, s.size - (i + (preN (s.data.toList.drop i)).toNat) < f ∧ Begun (s.data.toList.drop 1) (ps ++ [tyOf (s.data.toList.drop i)]) f (s.data.toList.drop (i + (preN (s.data.toList.drop i)).toNat)) := by
 obtain ⟨f, hf, hr⟩ := I.begun
 have hn0 := pre_nn (s.data.toList.drop i)
 refine ⟨f, by omega, ?_⟩
 have := begun_step hr (drop_ne hlt) (hd_ne h41) (stepOk_yes (by omega) h86)
 rwa [List.drop_drop] at this
theorem ps_step {s : ByteArray} {w wr w1 w2 : World} {i g cap : Nat} {ps : List Ty} {v : Value} {X X' : Obj} (I : PsInv s w wr i ps v) (hlt : i < s.size) (h41 : ¬ bt s i = 41) (hN : ¬ preN (s.data.toList.drop i) = 0) (h86 : ¬ preB (s.data.toList.drop i) = 86) (h16 : ps.length + 1 ≤ 16)
  (hb1 : Below wr.heap.size wr w1) (hown : w2.ownsRow (w.heap.size + 2) 114 3 (.slice (some ⟨g, 0, none⟩) (ps.length + 1) cap) (ps.length + 1) (rowCells ps ++ [.int .i64 (preD (s.data.toList.drop i)), .int .u8 (preB (s.data.toList.drop i)), .string (preS (s.data.toList.drop i))]))
  (hgrow : ((w1.alloc X).alloc X').grownBy w2 v.ownBlock) :
  w2.heap[w.heap.size]? = some (.cells #[.slice none 0 0, .int .i64 0, .int .u8 0, .string ⟨#[]⟩] 205) ∧ w2.heap[w.heap.size + 1]? = some (.cells #[v, .int .i64 0, .int .u8 0, .string ⟨#[]⟩] 205) ∧
  PsInv s w (w2.setCell ⟨w.heap.size + 1, 0, none⟩ (.slice (some ⟨g, 0, none⟩) (ps.length + 1) cap)) (i + (preN (s.data.toList.drop i)).toNat) (ps ++ [tyOf (s.data.toList.drop i)]) (.slice (some ⟨g, 0, none⟩) (ps.length + 1) cap) := by
 have h1 := I.i1
 have h2 := I.is
 have h3 := I.pl
 have hz := I.size
 have hs1 := hb1.size
 have hn0 := pre_nn (s.data.toList.drop i)
 have hn1 := pre_le (s.data.toList.drop i)
 rw [drop_len] at hn1
 have hv : ∀ k, v.ownBlock = some k → w.heap.size + 2 ≤ k := fun k hk => (I.own.lt k hk).1
 have old : ∀ k, k < w.heap.size + 2 → w2.heap[k]? = wr.heap[k]? := by
  intro k hk
  rw [hgrow.block k (by simp only [World.size_alloc]; omega) (fun e => by have := hv k e.symm; omega), Below.heap_alloc _ _ _ (by simp only [World.size_alloc]; omega), Below.heap_alloc _ _ _ (by omega), hb1.block k (by omega)]
 have hr2 := (old w.heap.size (by omega)).trans I.res
 have hg2 := (old (w.heap.size + 1) (by omega)).trans I.g
 refine ⟨hr2, hg2, by omega, by omega, by rw [List.length_append]; simp; omega, ps_run I hlt h41 hN h86, ?_, ?_, ?_, ?_, ?_⟩
 ·
  have hle : (ps ++ [tyOf (s.data.toList.drop i)]).length ≤ 16 := by rw [List.length_append]; simpa using h16
  rw [List.take_of_length_le hle, rowCells_snoc, Nat.min_eq_left hle, List.length_append]
  exact ownsRow_setCell_below hown (by show w.heap.size + 1 < w.heap.size + 2; omega) _
 ·
  rw [Below.heap_setCell _ _ _ _ (by show w.heap.size ≠ w.heap.size + 1; omega)]; exact hr2
 ·
  have := hg2
  simp [World.setCell, Array.getElem?_modify, this]
 ·
  have b1 : Below w.heap.size w w1 := I.below.trans (hb1.mono (by omega))
  have b2 : Below w.heap.size w ((w1.alloc X).alloc X') := below_al (below_al b1 _) _
  have b3 : Below w.heap.size w w2 := b2.grown hgrow (by simp only [World.size_alloc]; omega) (fun k hk => by have := hv k hk; omega)
  exact below_st b3 (by show w.heap.size ≤ w.heap.size + 1; omega) _
 ·
  have := hgrow.size
  simp only [World.size_alloc] at this
  rw [World.size_setCell]; omega
theorem ps_skip {s : ByteArray} {w wr w1 : World} {i : Nat} {ps : List Ty} {v : Value} {X : Obj} (I : PsInv s w wr i ps v) (hlt : i < s.size) (h41 : ¬ bt s i = 41) (hN : ¬ preN (s.data.toList.drop i) = 0) (h86 : ¬ preB (s.data.toList.drop i) = 86) (h16 : ¬ ps.length + 1 ≤ 16)
  (hb1 : Below wr.heap.size wr w1) : PsInv s w (w1.alloc X) (i + (preN (s.data.toList.drop i)).toNat) (ps ++ [tyOf (s.data.toList.drop i)]) v := by
 have h1 := I.i1
 have h2 := I.is
 have h3 := I.pl
 have hz := I.size
 have hs1 := hb1.size
 have hn0 := pre_nn (s.data.toList.drop i)
 have hn1 := pre_le (s.data.toList.drop i)
 rw [drop_len] at hn1
 have old : ∀ k, k < w.heap.size + 2 → (w1.alloc X).heap[k]? = wr.heap[k]? := by
  intro k hk
  rw [Below.heap_alloc _ _ _ (by omega), hb1.block k (by omega)]
 refine ⟨by omega, by omega, by rw [List.length_append]; simp; omega, ps_run I hlt h41 hN h86, ?_, (old _ (by omega)).trans I.res, (old _ (by omega)).trans I.g, below_al (I.below.trans (hb1.mono (by omega))) _, by rw [World.size_alloc]; omega⟩
 rw [List.take_append_of_le_length (by omega), List.length_append, show min (ps.length + [tyOf (s.data.toList.drop i)].length) 16 = min ps.length 16 by simp; omega]
 exact (owns_below I.own hb1).alloc _
theorem parse_at_ok (s : ByteArray) (i : Nat) (hs : s.size ≤ 140737488355328) (h : 0 < preN (s.data.toList.drop i) ∧ preN (s.data.toList.drop i) = (s.data.toList.drop i).length) (w : World) :
  Calls Tryz.prog 110 #[.string (s.extract i s.size)] w fun e w' => e = .returned (.tuple #[.agg #[.int .i64 (preD (s.data.toList.drop i)), .int .u8 (preB (s.data.toList.drop i)), .string (preS (s.data.toList.drop i))], .int .i64 0]) ∧ Below w.heap.size w w' := by
 have hx : (s.extract i s.size).data.toList = s.data.toList.drop i := by rw [data_extract, List.take_of_length_le (by rw [drop_len]; omega)]
 have h1 := parse_any (s.extract i s.size) (by rw [ByteArray.size_extract]; omega) w
 have g := pa_ok (s := s.extract i s.size) (by rw [← len_data (s.extract i s.size), hx]; exact h)
 rw [g.1, g.2.1, g.2.2.1, g.2.2.2, hx] at h1
 exact h1
theorem parse_at_bad (s : ByteArray) (i : Nat) (hs : s.size ≤ 140737488355328) (h : ¬ (0 < preN (s.data.toList.drop i) ∧ preN (s.data.toList.drop i) = (s.data.toList.drop i).length)) (w : World) :
  Calls Tryz.prog 110 #[.string (s.extract i s.size)] w fun e w' => e = .returned (.tuple #[.agg #[.int .i64 0, .int .u8 0, .string ⟨#[]⟩], .int .i64 13]) ∧ Below w.heap.size w w' := by
 have hx : (s.extract i s.size).data.toList = s.data.toList.drop i := by rw [data_extract, List.take_of_length_le (by rw [drop_len]; omega)]
 have h1 := parse_any (s.extract i s.size) (by rw [ByteArray.size_extract]; omega) w
 have g := pa_bad (s := s.extract i s.size) (by rw [← len_data (s.extract i s.size), hx]; exact h)
 rw [g.1, g.2.1, g.2.2.1, g.2.2.2] at h1
 exact h1
theorem ps_start (s : ByteArray) (hp : 0 < s.size) (w : World) :
  PsInv s w ((w.alloc (.cells #[.slice none 0 0, .int .i64 0, .int .u8 0, .string ⟨#[]⟩] 205)).alloc (.cells #[.slice none 0 0, .int .i64 0, .int .u8 0, .string ⟨#[]⟩] 205)) 1 [] (.slice none 0 0) := by
 refine ⟨by omega, by omega, by simp, ⟨_, ?_, begun_start _⟩, World.ownsRow_nil _ _ _ _, ?_, ?_, below_al (below_al (Below.refl _ _) _) _, by simp⟩
 ·
  rw [drop_len]; omega
 ·
  rw [Below.heap_alloc _ _ _ (by simp)]; exact World.alloc_heap_new w _
 ·
  have := World.alloc_heap_new (w.alloc (.cells #[.slice none 0 0, .int .i64 0, .int .u8 0, .string ⟨#[]⟩] 205)) (.cells #[.slice none 0 0, .int .i64 0, .int .u8 0, .string ⟨#[]⟩] 205)
  rwa [World.size_alloc] at this
theorem PsInv.value {s : ByteArray} {w wr : World} {i : Nat} {ps : List Ty} {v : Value} (I : PsInv s w wr i ps v) : ∃ A c, v = .slice A (min ps.length 16) c ∧ min ps.length 16 ≤ c := by
 rcases I.own.2 with ⟨hv, h0⟩ | ⟨g, cap, cur, hv, _, _, hc, _⟩
 ·
  exact ⟨none, 0, by rw [hv, h0], by omega⟩
 ·
  exact ⟨_, cap, hv, hc⟩
theorem hd40 {s : ByteArray} (h40 : bt s 0 = 40) : s.data.toList.getD 0 0 = 40 := by
 rw [bt_data] at h40; exact u8_yes (c := 40) h40
theorem drop1 (s : ByteArray) (i : Nat) : (s.data.toList.drop i).drop 1 = s.data.toList.drop (i + 1) := by rw [List.drop_drop]
theorem lt_of_heap {W : World} {B : Nat} {o : Obj} (h : W.heap[B]? = some o) : B < W.heap.size := by
 rcases Nat.lt_or_ge B W.heap.size with hl | hl
 ·
  exact hl
 ·
  rw [Array.getElem?_eq_none hl] at h; cases h
theorem sig_fill {W : World} {B : Nat} {v x y z a b c : Value} {t : TypeId} {o : Obj} (h : W.heap[B]? = some (.cells #[v, x, y, z] t)) :
  ((((W.setCell ⟨B, 1, none⟩ a).setCell ⟨B, 2, none⟩ b).setCell ⟨B, 3, none⟩ c).alloc o).heap[B]? = some (.cells #[v, a, b, c] t) := by
 rw [Below.heap_alloc _ _ _ (by simp only [World.size_setCell]; exact lt_of_heap h)]
 simp [World.setCell, Array.getElem?_modify, h]
theorem sig_far {W : World} {B C : Nat} {a b c : Value} {o p : Obj} (h : W.heap[C]? = some p) (hne : C ≠ B) :
  ((((W.setCell ⟨B, 1, none⟩ a).setCell ⟨B, 2, none⟩ b).setCell ⟨B, 3, none⟩ c).alloc o).heap[C]? = some p := by
 rw [Below.heap_alloc _ _ _ (by simp only [World.size_setCell]; exact lt_of_heap h), Below.heap_setCell _ _ _ _ hne, Below.heap_setCell _ _ _ _ hne, Below.heap_setCell _ _ _ _ hne]
 exact h
theorem Tys.keep {w w' : World} {B : Nat} {A : Option Addr} {ps : List Ty} (h : Tys w B A ps) (hk : ∀ g, A.map (·.block) = some g → w'.heap[g]? = w.heap[g]?) (hs : B ≤ w'.heap.size) : Tys w' w'.heap.size A ps := by
 rcases h with h | ⟨g, o, hA, hg, hc⟩
 ·
  exact Or.inl h
 ·
  refine Or.inr ⟨g, o, hA, by omega, fun i p hi => ?_⟩
  have hh := hk g (by rw [hA]; rfl)
  obtain ⟨a, b, c⟩ := hc i p hi
  exact ⟨(World.cell?_of_block (a := ⟨g, _, none⟩) hh).trans a, (World.cell?_of_block (a := ⟨g, _, none⟩) hh).trans b, (World.cell?_of_block (a := ⟨g, _, none⟩) hh).trans c⟩
end Go.Proofs.YtalejaklggnnpaaGreatDoor
/- DescPsigW -/
/- Layer 4: desc.ParseSignature, the walk. -/
namespace Go.Proofs.YtalejaklggnnpaaGreatDoor
open Go.ChangeShapes Go.WideShapes Go.ChangeAt Go.RowKit Go.PlainAid
set_option linter.unusedSimpArgs false
set_option linter.unusedVariables false
set_option maxRecDepth 100000 in
set_option maxHeartbeats 2000000 in
theorem psig_any (s : ByteArray) (hs : s.size ≤ 140737488351232) (h40 : bt s 0 = 40) (hp : 0 < s.size) (w : World) :
  Calls Tryz.prog 192 #[.string s] w (SigRet w (sgOf s.data.toList)) := by
 have hgb := get_bt s
 have he := nonempty_data hp
 have hsz := len_data s
 have hB : Below w.heap.size w w := Below.refl _ _
 obtain ⟨i0, hi, hz0, hz1, hz2⟩ := info_parts info30
 go_enter Tryz.func192, Tryz.ntmps192
 go_wp2
 go_loopw [5, 6] (fun a c wr => ∃ (i : Nat) (ps : List Ty) (v : Value), a = .int .i64 i ∧ c = .int .i64 ps.length ∧ PsInv s w wr i ps v) (fun a _ _ => s.size - (intOf a).toNat)
 case atStart => exact ⟨1, [], .slice none 0 0, rfl, rfl, ps_start s hp w⟩
 case round =>
  obtain ⟨i, ps, v, rfl, rfl, I⟩ := hrel
  have h1 := I.i1
  have h2 := I.is
  have h3 := I.pl
  obtain ⟨⟨r0, r1, r2, r3⟩, q0, q1, q2, q3⟩ := four_cells I.res
  obtain ⟨⟨g0, g1, g2, g3⟩, f0, f1, f2, f3⟩ := four_cells I.g
  have hB := I.below
  have hsz := I.size
  have hy0 : w.heap.size < wr.heap.size := by omega
  have hy1 : w.heap.size + 1 < wr.heap.size := by omega
  have own0 := I.own
  have hd := Lib.hid (hd40 h40)
  obtain ⟨f, _, hrun⟩ := I.begun
  have RUN := Lib.hid hrun
  clear hrun
  obtain ⟨A, c, rfl, hcap⟩ := I.value
  have CAP := Lib.hid hcap
  clear hcap
  have I' := Lib.hid I
  clear I
  by_cases hlt : i < s.size
  ·
   by_cases h41 : bt s i = 41
   ·
    have h41' : (bt s i != 41) = false := by simpa using h41
    have hq := Lib.hid (begun_close RUN.out (drop_ne hlt) (by have := drop_hd s i; rw [h41] at this; exact u8_yes (c := 41) this))
    clear h41
    by_cases hR : 0 < preN (s.data.toList.drop (i + 1)) ∧ preN (s.data.toList.drop (i + 1)) = (s.data.toList.drop (i + 1)).length
    ·
     by_cases hm : 16 < ps.length
     ·
      have HS := Lib.hid (sg_many hd.out hq.out (drop_ne hlt) (by rw [drop1]; exact hR) hm)
      have HR := Lib.hid hR
      clear hR own0
      go_wp2_with (go_at_call 110; refine (parse_at_ok _ _ (by omega) HR.out _).mono ?_; rintro e w1 ⟨rfl, hb1⟩; obtain ⟨hc1, hf1⟩ := bcell hb1; have hz1 := hb1.size; (try simp only [World.size_alloc, World.size_setCell] at hz1); (try have hza : w.heap.size < w1.heap.size := by omega); (try have hzb : w.heap.size + 1 < w1.heap.size := by omega); (try have hzc : w.heap.size + 1 + 1 < w1.heap.size := by omega); (try have hzd : wa.heap.size < w1.heap.size := by omega); (try replace hR := (hb1.block w.heap.size (by first | exact lt_heap hR | (have := lt_heap hR; simp; omega))).trans (by first | with_reducible exact hR | with_reducible exact laid_old hR)); replace hB := below_on (w := w) ((by repeat (first | with_reducible exact hB | with_reducible exact Below.refl _ _ | with_reducible refine below_al ?_ _ | with_reducible refine below_st ?_ (by first | exact Nat.le_refl _ | exact Nat.le_add_right _ _ | (simp; omega)) _))) hb1; clear hb1)
      refine bodyPost_ret (v := .tuple #[.agg #[.slice none 0 0, .int .i64 0, .int .u8 0, .string ⟨#[]⟩], .int .i64 5]) ?_ rfl ⟨none, 0, by rw [HS.out]; rfl, by rw [HS.out]; exact Tys.nil _ _ _, by rw [HS.out]; exact Nat.zero_le _, (by repeat (first | with_reducible exact hB | with_reducible exact Below.refl _ _ | with_reducible refine below_al ?_ _ | with_reducible refine below_st ?_ (by first | exact Nat.le_refl _ | exact Nat.le_add_right _ _ | (simp; omega)) _))⟩
      simp [results, Tryz.f192, go_sem, set_same, *]
     ·
      have hm' : ps.length ≤ 16 := by omega
      have HS := Lib.hid (sg_ok hd.out hq.out (drop_ne hlt) (by rw [drop1]; exact hR) hm)
      have HR := Lib.hid hR
      rw [List.take_of_length_le (by omega), Nat.min_eq_left (by omega)] at own0
      have OWN := Lib.hid own0
      rw [Nat.min_eq_left hm'] at g0
      clear hR own0
      go_upto_region 22 with (go_at_call 110; refine (parse_at_ok _ _ (by omega) HR.out _).mono ?_; rintro e w1 ⟨rfl, hb1⟩; have hs1 := hb1.size; have hx0 : w.heap.size < w1.heap.size := (by omega); have hx1 : w.heap.size + 1 < w1.heap.size := (by omega); have R1 := Lib.hid ((hb1.block _ hy0).trans I'.out.res); have G1 := Lib.hid ((hb1.block _ hy1).trans I'.out.g); have O1 := Lib.hid (owns_below OWN.out hb1); obtain ⟨⟨r0', r1', r2', r3'⟩, q0', q1', q2', q3'⟩ := four_cells R1.out; obtain ⟨⟨g0', g1', g2', g3'⟩, f0', f1', f2', f3'⟩ := four_cells G1.out; rw [Nat.min_eq_left hm'] at g0'; replace hB := below_on (w := w) hB hb1; clear hb1 r0 r1 r2 r3 q0 q1 q2 q3 g0 g1 g2 g3 f0 f1 f2 f3)
      have G2 := sig_fill (o := .cells #[(.int .i64 (preD (s.data.toList.drop (i + 1)))), (.int .u8 (preB (s.data.toList.drop (i + 1)))), (.string (preS (s.data.toList.drop (i + 1))))] 114) (a := (.int .i64 (preD (s.data.toList.drop (i + 1))))) (b := (.int .u8 (preB (s.data.toList.drop (i + 1))))) (c := (.string (preS (s.data.toList.drop (i + 1))))) G1.out
      have R2 := sig_far (B := w.heap.size + 1) (o := .cells #[(.int .i64 (preD (s.data.toList.drop (i + 1)))), (.int .u8 (preB (s.data.toList.drop (i + 1)))), (.string (preS (s.data.toList.drop (i + 1))))] 114) (a := (.int .i64 (preD (s.data.toList.drop (i + 1))))) (b := (.int .u8 (preB (s.data.toList.drop (i + 1))))) (c := (.string (preS (s.data.toList.drop (i + 1))))) R1.out (by omega)
      have B2 : Below w.heap.size w ((((w1.setCell ⟨w.heap.size + 1, 1, none⟩ (.int .i64 (preD (s.data.toList.drop (i + 1))))).setCell ⟨w.heap.size + 1, 2, none⟩ (.int .u8 (preB (s.data.toList.drop (i + 1))))).setCell ⟨w.heap.size + 1, 3, none⟩ (.string (preS (s.data.toList.drop (i + 1))))).alloc (.cells #[(.int .i64 (preD (s.data.toList.drop (i + 1)))), (.int .u8 (preB (s.data.toList.drop (i + 1)))), (.string (preS (s.data.toList.drop (i + 1))))] 114)) := (by repeat (first | with_reducible exact hB | with_reducible exact Below.refl _ _ | with_reducible refine below_al ?_ _ | with_reducible refine below_st ?_ (by first | exact Nat.le_refl _ | exact Nat.le_add_right _ _ | (simp; omega)) _))
      have O2 : ((((w1.setCell ⟨w.heap.size + 1, 1, none⟩ (.int .i64 (preD (s.data.toList.drop (i + 1))))).setCell ⟨w.heap.size + 1, 2, none⟩ (.int .u8 (preB (s.data.toList.drop (i + 1))))).setCell ⟨w.heap.size + 1, 3, none⟩ (.string (preS (s.data.toList.drop (i + 1))))).alloc (.cells #[(.int .i64 (preD (s.data.toList.drop (i + 1)))), (.int .u8 (preB (s.data.toList.drop (i + 1)))), (.string (preS (s.data.toList.drop (i + 1))))] 114)).ownsRow (w.heap.size + 2) 114 3 (.slice A ps.length c) ps.length (rowCells ps) := (ownsRow_setCell_below (ownsRow_setCell_below (ownsRow_setCell_below O1.out (by show w.heap.size + 1 < w.heap.size + 2; omega) _) (by show w.heap.size + 1 < w.heap.size + 2; omega) _) (by show w.heap.size + 1 < w.heap.size + 2; omega) _).alloc _
      rw [Nat.min_eq_left hm'] at G2
      obtain ⟨W2, e2⟩ : ∃ W2, W2 = ((((w1.setCell ⟨w.heap.size + 1, 1, none⟩ (.int .i64 (preD (s.data.toList.drop (i + 1))))).setCell ⟨w.heap.size + 1, 2, none⟩ (.int .u8 (preB (s.data.toList.drop (i + 1))))).setCell ⟨w.heap.size + 1, 3, none⟩ (.string (preS (s.data.toList.drop (i + 1))))).alloc (.cells #[(.int .i64 (preD (s.data.toList.drop (i + 1)))), (.int .u8 (preB (s.data.toList.drop (i + 1)))), (.string (preS (s.data.toList.drop (i + 1))))] 114)) := ⟨_, rfl⟩
      rw [← e2] at G2 R2 B2 O2 ⊢
      clear e2 r0' r1' r2' r3' q0' q1' q2' q3' g0' g1' g2' g3' f0' f1' f2' f3' hB
      obtain ⟨⟨r0, r1, r2, r3⟩, q0, q1, q2, q3⟩ := four_cells R2
      obtain ⟨⟨g0, g1, g2, g3⟩, f0, f1, f2, f3⟩ := four_cells G2
      have hB := B2
      have O3 := Lib.hid O2
      clear R2 G2 B2 O2
      go_wp2
      have TY : Tys ((((W2.setCell ⟨w.heap.size, 0, none⟩ (.slice A ps.length c)).setCell ⟨w.heap.size, 1, none⟩ (.int .i64 (preD (s.data.toList.drop (i + 1))))).setCell ⟨w.heap.size, 2, none⟩ (.int .u8 (preB (s.data.toList.drop (i + 1))))).setCell ⟨w.heap.size, 3, none⟩ (.string (preS (s.data.toList.drop (i + 1))))) _ A ps := Tys.of_own (ownsRow_setCell_below (ownsRow_setCell_below (ownsRow_setCell_below (ownsRow_setCell_below O3.out (by show w.heap.size < w.heap.size + 2; omega) _) (by show w.heap.size < w.heap.size + 2; omega) _) (by show w.heap.size < w.heap.size + 2; omega) _) (by show w.heap.size < w.heap.size + 2; omega) _) rfl
      have TYH := Lib.hid TY
      clear TY
      refine bodyPost_ret (v := .tuple #[.agg #[.slice A ps.length c, .int .i64 (preD (s.data.toList.drop (i + 1))), .int .u8 (preB (s.data.toList.drop (i + 1))), .string (preS (s.data.toList.drop (i + 1)))], .int .i64 0]) ?_ rfl ⟨A, c, by rw [HS.out, drop1]; rfl, by rw [HS.out]; exact TYH.out, by rw [HS.out]; have := CAP.out; show ps.length ≤ c; omega, (by repeat (first | with_reducible exact hB | with_reducible exact Below.refl _ _ | with_reducible refine below_al ?_ _ | with_reducible refine below_st ?_ (by first | exact Nat.le_refl _ | exact Nat.le_add_right _ _ | (simp; omega)) _))⟩
      simp [results, Tryz.f192, go_sem, *]
    ·
     have HS := Lib.hid (sg_res hd.out hq.out (drop_ne hlt) (by rw [drop1]; exact hR))
     have HR := Lib.hid hR
     clear hR own0
     go_wp2_with (go_at_call 110; refine (parse_at_bad _ _ (by omega) HR.out _).mono ?_; rintro e w1 ⟨rfl, hb1⟩; obtain ⟨hc1, hf1⟩ := bcell hb1; have hz1 := hb1.size; (try simp only [World.size_alloc, World.size_setCell] at hz1); (try have hza : w.heap.size < w1.heap.size := by omega); (try have hzb : w.heap.size + 1 < w1.heap.size := by omega); (try have hzc : w.heap.size + 1 + 1 < w1.heap.size := by omega); (try have hzd : wa.heap.size < w1.heap.size := by omega); (try replace hR := (hb1.block w.heap.size (by first | exact lt_heap hR | (have := lt_heap hR; simp; omega))).trans (by first | with_reducible exact hR | with_reducible exact laid_old hR)); replace hB := below_on (w := w) ((by repeat (first | with_reducible exact hB | with_reducible exact Below.refl _ _ | with_reducible refine below_al ?_ _ | with_reducible refine below_st ?_ (by first | exact Nat.le_refl _ | exact Nat.le_add_right _ _ | (simp; omega)) _))) hb1; clear hb1)
     refine bodyPost_ret (v := .tuple #[.agg #[.slice none 0 0, .int .i64 0, .int .u8 0, .string ⟨#[]⟩], .int .i64 13]) ?_ rfl ⟨none, 0, by rw [HS.out]; rfl, by rw [HS.out]; exact Tys.nil _ _ _, by rw [HS.out]; exact Nat.zero_le _, (by repeat (first | with_reducible exact hB | with_reducible exact Below.refl _ _ | with_reducible refine below_al ?_ _ | with_reducible refine below_st ?_ (by first | exact Nat.le_refl _ | exact Nat.le_add_right _ _ | (simp; omega)) _))⟩
     simp [results, Tryz.f192, go_sem, set_same, *]
   ·
    have hnb : sigP (s.data.toList.drop 1).length.succ (s.data.toList.drop 1) = none ∨ stepOk (s.data.toList.drop i) = true := by
     cases hso : stepOk (s.data.toList.drop i) with
     | true => exact Or.inr rfl
     | false => exact Or.inl (begun_bad RUN.out (drop_ne hlt) (hd_ne h41) hso)
    have HNB := Lib.hid hnb
    clear hnb
    have h41' : (bt s i != 41) = true := by simpa using h41
    have H41 := Lib.hid h41
    clear h41
    have hn0 := pre_nn (s.data.toList.drop i)
    have hn1 := pre_le (s.data.toList.drop i)
    rw [drop_len] at hn1
    by_cases hN : preN (s.data.toList.drop i) = 0
    ·
     have HS := Lib.hid (sg_bad hd.out (HNB.out.resolve_right (by rw [stepOk_none hN]; decide)))
     clear own0
     go_wp2_with (go_at_call 149; refine (prefix_at _ _ (by omega) _).mono ?_; rintro e w1 ⟨rfl, hb1⟩; obtain ⟨hc1, hf1⟩ := bcell hb1; have hz1 := hb1.size; (try simp only [World.size_alloc, World.size_setCell] at hz1); (try have hza : w.heap.size < w1.heap.size := by omega); (try have hzb : w.heap.size + 1 < w1.heap.size := by omega); (try have hzc : w.heap.size + 1 + 1 < w1.heap.size := by omega); (try have hzd : wa.heap.size < w1.heap.size := by omega); (try replace hR := (hb1.block w.heap.size (by first | exact lt_heap hR | (have := lt_heap hR; simp; omega))).trans (by first | with_reducible exact hR | with_reducible exact laid_old hR)); replace hB := below_on (w := w) ((by repeat (first | with_reducible exact hB | with_reducible exact Below.refl _ _ | with_reducible refine below_al ?_ _ | with_reducible refine below_st ?_ (by first | exact Nat.le_refl _ | exact Nat.le_add_right _ _ | (simp; omega)) _))) hb1; clear hb1)
     refine bodyPost_ret (v := .tuple #[.agg #[.slice none 0 0, .int .i64 0, .int .u8 0, .string ⟨#[]⟩], .int .i64 13]) ?_ rfl ⟨none, 0, by rw [HS.out]; rfl, by rw [HS.out]; exact Tys.nil _ _ _, by rw [HS.out]; exact Nat.zero_le _, (by repeat (first | with_reducible exact hB | with_reducible exact Below.refl _ _ | with_reducible refine below_al ?_ _ | with_reducible refine below_st ?_ (by first | exact Nat.le_refl _ | exact Nat.le_add_right _ _ | (simp; omega)) _))⟩
     simp [results, Tryz.f192, go_sem, set_same, *]
    ·
     have hN' := beqF hN
     by_cases h86 : preB (s.data.toList.drop i) = 86
     ·
      have HS := Lib.hid (sg_bad hd.out (HNB.out.resolve_right (by rw [stepOk_void h86]; decide)))
      clear own0
      go_wp2_with (go_at_call 149; refine (prefix_at _ _ (by omega) _).mono ?_; rintro e w1 ⟨rfl, hb1⟩; obtain ⟨hc1, hf1⟩ := bcell hb1; have hz1 := hb1.size; (try simp only [World.size_alloc, World.size_setCell] at hz1); (try have hza : w.heap.size < w1.heap.size := by omega); (try have hzb : w.heap.size + 1 < w1.heap.size := by omega); (try have hzc : w.heap.size + 1 + 1 < w1.heap.size := by omega); (try have hzd : wa.heap.size < w1.heap.size := by omega); (try replace hR := (hb1.block w.heap.size (by first | exact lt_heap hR | (have := lt_heap hR; simp; omega))).trans (by first | with_reducible exact hR | with_reducible exact laid_old hR)); replace hB := below_on (w := w) ((by repeat (first | with_reducible exact hB | with_reducible exact Below.refl _ _ | with_reducible refine below_al ?_ _ | with_reducible refine below_st ?_ (by first | exact Nat.le_refl _ | exact Nat.le_add_right _ _ | (simp; omega)) _))) hb1; clear hb1)
      refine bodyPost_ret (v := .tuple #[.agg #[.slice none 0 0, .int .i64 0, .int .u8 0, .string ⟨#[]⟩], .int .i64 13]) ?_ rfl ⟨none, 0, by rw [HS.out]; rfl, by rw [HS.out]; exact Tys.nil _ _ _, by rw [HS.out]; exact Nat.zero_le _, (by repeat (first | with_reducible exact hB | with_reducible exact Below.refl _ _ | with_reducible refine below_al ?_ _ | with_reducible refine below_st ?_ (by first | exact Nat.le_refl _ | exact Nat.le_add_right _ _ | (simp; omega)) _))⟩
      simp [results, Tryz.f192, go_sem, set_same, *]
     ·
      have h86' := beqF h86
      have H86 := Lib.hid h86
      clear h86
      by_cases h16 : ps.length + 1 ≤ 16
      ·
       rw [List.take_of_length_le (by omega), Nat.min_eq_left (by omega)] at own0
       have OWN := Lib.hid own0
       have I2 := I'.out
       rw [Nat.min_eq_left (show ps.length ≤ 16 by omega)] at g0 I2
       have I3 := Lib.hid I2
       clear own0 I2
       go_wp2_with (first | (go_at_call 149; refine (prefix_at _ _ (by omega) _).mono ?_; rintro e w1 ⟨rfl, hb1⟩; obtain ⟨hc1, hf1⟩ := bcell hb1; have hs1 := hb1.size; have hx0 : w.heap.size < w1.heap.size := (by omega); have hx1 : w.heap.size + 1 < w1.heap.size := (by omega); have own1 := Lib.hid (owns_below OWN.out hb1); have HB1 := Lib.hid hb1; clear hb1) | (at_builtin; refine wpList_append_lies _ rfl _ _ 203 rfl (w.heap.size + 2) 114 i0 (.agg #[.int .i64 0, .int .u8 0, .string ⟨#[]⟩]) 3 32 Tryz.underlying203 hi hz0 hz1 hz2 rfl (by decide) (.slice A ps.length c) ps.length (rowCells ps) rfl ((own1.out.alloc _).alloc _) ⟨w1.heap.size + 1, 0, none⟩ 1 1 [.int .i64 (preD (s.data.toList.drop i)), .int .u8 (preB (s.data.toList.drop i)), .string (preS (s.data.toList.drop i))] rfl rfl ?c1 ?c2 (by decide) ?c3 ?c4 ?c5 (w1.heap.size + 2) ?c6 ?_))
       case c1 => exact World.news_of_block (by have := heap_alloc_new (w1.alloc (.cells #[.int .i64 (preD (s.data.toList.drop i)), .int .u8 (preB (s.data.toList.drop i)), .string (preS (s.data.toList.drop i))] 114)) (.cells #[.int .i64 (preD (s.data.toList.drop i)), .int .u8 (preB (s.data.toList.drop i)), .string (preS (s.data.toList.drop i))] 114); simpa using this)
       case c2 => intro u hu; simp at hu; rcases hu with rfl | rfl | rfl <;> rfl
       case c3 => unfold maxLen; omega
       case c4 => omega
       case c5 => simp; omega
       case c6 => simp
       intro g cap w2 hown2 hgrow hat hlt2
       obtain ⟨b1, b2, b3⟩ := ps_step I3.out hlt H41.out hN H86.out h16 HB1.out hown2 hgrow
       obtain ⟨⟨r0', r1', r2', r3'⟩, q0', q1', q2', q3'⟩ := four_cells b1
       obtain ⟨⟨g0', g1', g2', g3'⟩, f0', f1', f2', f3'⟩ := four_cells b2
       have B3 := Lib.hid b3
       clear b1 b2 b3 hgrow hown2 hat
       go_wp2
       go_roundw
       case rel => exact ⟨i + (preN (s.data.toList.drop i)).toNat, ps ++ [tyOf (s.data.toList.drop i)], _, by congr 1; omega, by congr 1; rw [List.length_append]; simp, B3.out⟩
       case measure => simp [intOf]; omega
      ·
       clear own0
       go_wp2_with (go_at_call 149; refine (prefix_at _ _ (by omega) _).mono ?_; rintro e w1 ⟨rfl, hb1⟩; obtain ⟨hc1, hf1⟩ := bcell hb1; have hs1 := hb1.size; have hx0 : w.heap.size < w1.heap.size := (by omega); have hx1 : w.heap.size + 1 < w1.heap.size := (by omega); have HB1 := Lib.hid hb1; clear hb1)
       have B3 := ps_skip (X := .cells #[.int .i64 (preD (s.data.toList.drop i)), .int .u8 (preB (s.data.toList.drop i)), .string (preS (s.data.toList.drop i))] 114) I'.out hlt H41.out hN H86.out h16 HB1.out
       go_roundw
       case rel => exact ⟨i + (preN (s.data.toList.drop i)).toNat, ps ++ [tyOf (s.data.toList.drop i)], _, by congr 1; omega, by congr 1; rw [List.length_append]; simp, B3⟩
       case measure => simp [intOf]; omega
  ·
   have hdn : s.data.toList.drop i = [] := List.eq_nil_of_length_eq_zero (by rw [drop_len]; omega)
   have HS := Lib.hid (sg_end hd.out (begun_end (by have := RUN.out; rwa [hdn] at this)))
   clear own0 hdn
   go_wp2
   refine bodyPost_ret (v := .tuple #[.agg #[.slice none 0 0, .int .i64 0, .int .u8 0, .string ⟨#[]⟩], .int .i64 13]) ?_ rfl ⟨none, 0, by rw [HS.out]; rfl, by rw [HS.out]; exact Tys.nil _ _ _, by rw [HS.out]; exact Nat.zero_le _, (by repeat (first | with_reducible exact hB | with_reducible exact Below.refl _ _ | with_reducible refine below_al ?_ _ | with_reducible refine below_st ?_ (by first | exact Nat.le_refl _ | exact Nat.le_add_right _ _ | (simp; omega)) _))⟩
   simp [results, Tryz.f192, go_sem, set_same, *]
set_option maxRecDepth 100000 in
theorem psig_none (s : ByteArray) (hs : s.size ≤ 140737488351232) (hp : s.size = 0) (w : World) :
  Calls Tryz.prog 192 #[.string s] w (SigRet w (sgOf s.data.toList)) := by
 have he := empty_data hp
 have hn : s.data.toList = [] := List.eq_nil_of_length_eq_zero (by rw [len_data]; exact hp)
 have HS := Lib.hid (sg_open (l := s.data.toList) (by rw [hn]; decide))
 clear hn
 have hB : Below w.heap.size w w := Below.refl _ _
 go_enter Tryz.func192, Tryz.ntmps192
 go_wp2
 refine bodyPost_ret (v := .tuple #[.agg #[.slice none 0 0, .int .i64 0, .int .u8 0, .string ⟨#[]⟩], .int .i64 13]) ?_ rfl ⟨none, 0, by rw [HS.out]; rfl, by rw [HS.out]; exact Tys.nil _ _ _, by rw [HS.out]; exact Nat.zero_le _, (by repeat (first | with_reducible exact hB | with_reducible exact Below.refl _ _ | with_reducible refine below_al ?_ _ | with_reducible refine below_st ?_ (by first | exact Nat.le_refl _ | exact Nat.le_add_right _ _ | (simp; omega)) _))⟩
 simp [results, Tryz.f192, go_sem, set_same, *]
set_option maxRecDepth 100000 in
theorem psig_not (s : ByteArray) (hs : s.size ≤ 140737488351232) (hp : 0 < s.size) (h40 : ¬ bt s 0 = 40) (w : World) :
  Calls Tryz.prog 192 #[.string s] w (SigRet w (sgOf s.data.toList)) := by
 have hgb := get_bt s
 have he := nonempty_data hp
 have h40' : (bt s 0 != 40) = true := by simpa using h40
 have HS := Lib.hid (sg_open (l := s.data.toList) (fun e => h40 (by rw [bt_data, e]; rfl)))
 clear h40
 have hB : Below w.heap.size w w := Below.refl _ _
 go_enter Tryz.func192, Tryz.ntmps192
 go_wp2
 refine bodyPost_ret (v := .tuple #[.agg #[.slice none 0 0, .int .i64 0, .int .u8 0, .string ⟨#[]⟩], .int .i64 13]) ?_ rfl ⟨none, 0, by rw [HS.out]; rfl, by rw [HS.out]; exact Tys.nil _ _ _, by rw [HS.out]; exact Nat.zero_le _, (by repeat (first | with_reducible exact hB | with_reducible exact Below.refl _ _ | with_reducible refine below_al ?_ _ | with_reducible refine below_st ?_ (by first | exact Nat.le_refl _ | exact Nat.le_add_right _ _ | (simp; omega)) _))⟩
 simp [results, Tryz.f192, go_sem, set_same, *]
theorem psig_big (s : ByteArray) (hs : s.size ≤ 140737488351232) (w : World) : Calls Tryz.prog 192 #[.string s] w (SigRet w (sgOf s.data.toList)) := by
 by_cases hp : 0 < s.size
 ·
  by_cases h40 : bt s 0 = 40
  ·
   exact psig_any s hs h40 hp w
  ·
   exact psig_not s hs hp h40 w
 ·
  exact psig_none s hs (by omega) w
end Go.Proofs.YtalejaklggnnpaaGreatDoor
/- DescRsig -/
/- Layer 4: the reference's ParseSignature. -/
namespace Go.Proofs.YtalejaklggnnpaaGreatDoor
open Go.ChangeShapes Go.WideShapes Go.ChangeAt Go.RowKit Go.PlainAid
set_option linter.unusedSimpArgs false
set_option linter.unusedVariables false
structure RInv (s : ByteArray) (w wr : World) (i : Nat) (ps : List Ty) (v : Value) : Prop where
 i1 : 1 ≤ i
 is : i ≤ s.size
 pl : ps.length + 1 ≤ i
 run : ∃ f, s.size - i < f ∧ Begun (s.data.toList.drop 1) ps f (s.data.toList.drop i)
 own : wr.ownsRow (w.heap.size + 2) 114 3 v ps.length (rowCells ps)
 res : wr.heap[w.heap.size]? = some (.cells #[.slice none 0 0, .int .i64 0, .int .u8 0, .string ⟨#[]⟩] 205)
 g : wr.heap[w.heap.size + 1]? = some (.cells #[v, .int .i64 0, .int .u8 0, .string ⟨#[]⟩] 205)
 below : Below w.heap.size w wr
 size : w.heap.size + 2 ≤ wr.heap.size
theorem RInv.begun {s : ByteArray} {w wr : World} {i : Nat} {ps : List Ty} {v : Value} (I : RInv s w wr i ps v) : ∃ f, s.size - i < f + 1 ∧ Begun (s.data.toList.drop 1) ps (f + 1) (s.data.toList.drop i) := by
 obtain ⟨f, hf, hr⟩ := I.run
 cases f with
 | zero => omega
 | succ f => exact ⟨f, hf, hr⟩
theorem rs_run {s : ByteArray} {w wr : World} {i : Nat} {ps : List Ty} {v : Value} (I : RInv s w wr i ps v) (hlt : i < s.size) (h41 : ¬ bt s i = 41) (hN : ¬ preN (s.data.toList.drop i) = 0) (h86 : ¬ preB (s.data.toList.drop i) = 86) :
  ∃ f, s.size - (i + (preN (s.data.toList.drop i)).toNat) < f ∧ Begun (s.data.toList.drop 1) (ps ++ [tyOf (s.data.toList.drop i)]) f (s.data.toList.drop (i + (preN (s.data.toList.drop i)).toNat)) := by
 obtain ⟨f, hf, hr⟩ := I.begun
 have hn0 := pre_nn (s.data.toList.drop i)
 refine ⟨f, by omega, ?_⟩
 have := begun_step hr (drop_ne hlt) (hd_ne h41) (stepOk_yes (by omega) h86)
 rwa [List.drop_drop] at this
theorem rs_step {s : ByteArray} {w wr w1 w2 : World} {i g cap : Nat} {ps : List Ty} {v : Value} {X X' : Obj} (I : RInv s w wr i ps v) (hlt : i < s.size) (h41 : ¬ bt s i = 41) (hN : ¬ preN (s.data.toList.drop i) = 0) (h86 : ¬ preB (s.data.toList.drop i) = 86)
  (hb1 : Below wr.heap.size wr w1) (hown : w2.ownsRow (w.heap.size + 2) 114 3 (.slice (some ⟨g, 0, none⟩) (ps.length + 1) cap) (ps.length + 1) (rowCells ps ++ [.int .i64 (preD (s.data.toList.drop i)), .int .u8 (preB (s.data.toList.drop i)), .string (preS (s.data.toList.drop i))]))
  (hgrow : ((w1.alloc X).alloc X').grownBy w2 v.ownBlock) :
  w2.heap[w.heap.size]? = some (.cells #[.slice none 0 0, .int .i64 0, .int .u8 0, .string ⟨#[]⟩] 205) ∧ w2.heap[w.heap.size + 1]? = some (.cells #[v, .int .i64 0, .int .u8 0, .string ⟨#[]⟩] 205) ∧
  RInv s w (w2.setCell ⟨w.heap.size + 1, 0, none⟩ (.slice (some ⟨g, 0, none⟩) (ps.length + 1) cap)) (i + (preN (s.data.toList.drop i)).toNat) (ps ++ [tyOf (s.data.toList.drop i)]) (.slice (some ⟨g, 0, none⟩) (ps.length + 1) cap) := by
 have h1 := I.i1
 have h2 := I.is
 have h3 := I.pl
 have hz := I.size
 have hs1 := hb1.size
 have hn0 := pre_nn (s.data.toList.drop i)
 have hn1 := pre_le (s.data.toList.drop i)
 rw [drop_len] at hn1
 have hv : ∀ k, v.ownBlock = some k → w.heap.size + 2 ≤ k := fun k hk => (I.own.lt k hk).1
 have old : ∀ k, k < w.heap.size + 2 → w2.heap[k]? = wr.heap[k]? := by
  intro k hk
  rw [hgrow.block k (by simp only [World.size_alloc]; omega) (fun e => by have := hv k e.symm; omega), Below.heap_alloc _ _ _ (by simp only [World.size_alloc]; omega), Below.heap_alloc _ _ _ (by omega), hb1.block k (by omega)]
 have hr2 := (old w.heap.size (by omega)).trans I.res
 have hg2 := (old (w.heap.size + 1) (by omega)).trans I.g
 refine ⟨hr2, hg2, by omega, by omega, by rw [List.length_append]; simp; omega, rs_run I hlt h41 hN h86, ?_, ?_, ?_, ?_, ?_⟩
 ·
  rw [rowCells_snoc, List.length_append]
  exact ownsRow_setCell_below hown (by show w.heap.size + 1 < w.heap.size + 2; omega) _
 ·
  rw [Below.heap_setCell _ _ _ _ (by show w.heap.size ≠ w.heap.size + 1; omega)]; exact hr2
 ·
  have := hg2
  simp [World.setCell, Array.getElem?_modify, this]
 ·
  have b1 : Below w.heap.size w w1 := I.below.trans (hb1.mono (by omega))
  have b2 : Below w.heap.size w ((w1.alloc X).alloc X') := below_al (below_al b1 _) _
  have b3 : Below w.heap.size w w2 := b2.grown hgrow (by simp only [World.size_alloc]; omega) (fun k hk => by have := hv k hk; omega)
  exact below_st b3 (by show w.heap.size ≤ w.heap.size + 1; omega) _
 ·
  have := hgrow.size
  simp only [World.size_alloc] at this
  rw [World.size_setCell]; omega
theorem rs_start (s : ByteArray) (hp : 0 < s.size) (w : World) :
  RInv s w ((w.alloc (.cells #[.slice none 0 0, .int .i64 0, .int .u8 0, .string ⟨#[]⟩] 205)).alloc (.cells #[.slice none 0 0, .int .i64 0, .int .u8 0, .string ⟨#[]⟩] 205)) 1 [] (.slice none 0 0) := by
 refine ⟨by omega, by omega, by simp, ⟨_, ?_, begun_start _⟩, World.ownsRow_nil _ _ _ _, ?_, ?_, below_al (below_al (Below.refl _ _) _) _, by simp⟩
 ·
  rw [drop_len]; omega
 ·
  rw [Below.heap_alloc _ _ _ (by simp)]; exact World.alloc_heap_new w _
 ·
  have := World.alloc_heap_new (w.alloc (.cells #[.slice none 0 0, .int .i64 0, .int .u8 0, .string ⟨#[]⟩] 205)) (.cells #[.slice none 0 0, .int .i64 0, .int .u8 0, .string ⟨#[]⟩] 205)
  rwa [World.size_alloc] at this
theorem RInv.value {s : ByteArray} {w wr : World} {i : Nat} {ps : List Ty} {v : Value} (I : RInv s w wr i ps v) : ∃ A c, v = .slice A ps.length c ∧ ps.length ≤ c := by
 rcases I.own.2 with ⟨hv, h0⟩ | ⟨g, cap, cur, hv, _, _, hc, _⟩
 ·
  exact ⟨none, 0, by rw [hv, h0], by omega⟩
 ·
  exact ⟨_, cap, hv, hc⟩
theorem take_ok (s : ByteArray) (i : Nat) (hs : s.size ≤ 140737488355328) (hi : i ≤ s.size) (h : 0 < preN (s.data.toList.drop i)) (w : World) :
  Calls Tryz.prog 161 #[.string s, .int .i64 i] w fun e w' => e = .returned (.tuple #[.agg #[.int .i64 (preD (s.data.toList.drop i)), .int .u8 (preB (s.data.toList.drop i)), .string (preS (s.data.toList.drop i))], .int .i64 (i + preN (s.data.toList.drop i))]) ∧ Below w.heap.size w w' := by
 have g := take_any s i hs hi w
 have e : nextI i (preN (s.data.toList.drop i)) = i + preN (s.data.toList.drop i) := by unfold nextI; rw [if_neg (by omega)]
 rw [e] at g; exact g
theorem take_no (s : ByteArray) (i : Nat) (hs : s.size ≤ 140737488355328) (hi : i ≤ s.size) (h : preN (s.data.toList.drop i) = 0) (w : World) :
  Calls Tryz.prog 161 #[.string s, .int .i64 i] w fun e w' => e = .returned (.tuple #[.agg #[.int .i64 (preD (s.data.toList.drop i)), .int .u8 (preB (s.data.toList.drop i)), .string (preS (s.data.toList.drop i))], .int .i64 (-1)]) ∧ Below w.heap.size w w' := by
 have g := take_any s i hs hi w
 have e : nextI i (preN (s.data.toList.drop i)) = -1 := by unfold nextI; rw [if_pos h]
 rw [e] at g; exact g
theorem take_at1 (s : ByteArray) (i : Nat) (hs : s.size ≤ 140737488355328) (hi : i + 1 ≤ s.size) (w : World) :
  Calls Tryz.prog 161 #[.string s, .int .i64 (i + 1)] w fun e w' => e = .returned (.tuple #[.agg #[.int .i64 (preD (s.data.toList.drop (i + 1))), .int .u8 (preB (s.data.toList.drop (i + 1))), .string (preS (s.data.toList.drop (i + 1)))], .int .i64 (nextI (i + 1) (preN (s.data.toList.drop (i + 1))))]) ∧ Below w.heap.size w w' := take_any s (i + 1) hs hi w
theorem next_end {s : ByteArray} {i : Nat} (hi : i ≤ s.size) : nextI i (preN (s.data.toList.drop i)) = s.size ↔ (0 < preN (s.data.toList.drop i) ∧ preN (s.data.toList.drop i) = (s.data.toList.drop i).length) := by
 have h0 := pre_nn (s.data.toList.drop i)
 rw [drop_len]
 unfold nextI
 split <;> omega
end Go.Proofs.YtalejaklggnnpaaGreatDoor
/- DescRsigW -/
/- Layer 4: the reference's ParseSignature, the walk. -/
namespace Go.Proofs.YtalejaklggnnpaaGreatDoor
open Go.ChangeShapes Go.WideShapes Go.ChangeAt Go.RowKit Go.PlainAid
set_option linter.unusedSimpArgs false
set_option linter.unusedVariables false
set_option maxRecDepth 100000 in
set_option maxHeartbeats 2000000 in
theorem rsig_any (s : ByteArray) (hs : s.size ≤ 2000000) (h40 : bt s 0 = 40) (hp : 0 < s.size) (w : World) :
  Calls Tryz.prog 190 #[.string s] w (SigRet w (sgOf s.data.toList)) := by
 have hgb := get_bt s
 have he := nonempty_data hp
 have hsz := len_data s
 have hB : Below w.heap.size w w := Below.refl _ _
 obtain ⟨i0, hi, hz0, hz1, hz2⟩ := info_parts info30
 go_enter Tryz.func190, Tryz.ntmps190
 go_wp2
 go_loopw [5] (fun a wr => ∃ (i : Nat) (ps : List Ty) (v : Value), a = .int .i64 i ∧ RInv s w wr i ps v) (fun a _ => s.size - (intOf a).toNat)
 case atStart => exact ⟨1, [], .slice none 0 0, rfl, rs_start s hp w⟩
 case round =>
  obtain ⟨i, ps, v, rfl, I⟩ := hrel
  have h1 := I.i1
  have h2 := I.is
  have h3 := I.pl
  obtain ⟨⟨r0, r1, r2, r3⟩, q0, q1, q2, q3⟩ := four_cells I.res
  obtain ⟨⟨g0, g1, g2, g3⟩, f0, f1, f2, f3⟩ := four_cells I.g
  have hB := I.below
  have hsz := I.size
  have hy0 : w.heap.size < wr.heap.size := by omega
  have hy1 : w.heap.size + 1 < wr.heap.size := by omega
  have own0 := I.own
  have hd := Lib.hid (hd40 h40)
  obtain ⟨f, _, hrun⟩ := I.begun
  have RUN := Lib.hid hrun
  clear hrun
  obtain ⟨A, c, rfl, hcap⟩ := I.value
  have CAP := Lib.hid hcap
  clear hcap
  have I' := Lib.hid I
  clear I
  by_cases hlt : i < s.size
  ·
   by_cases h41 : bt s i = 41
   ·
    have h41' : (bt s i != 41) = false := by simpa using h41
    have hq := Lib.hid (begun_close RUN.out (drop_ne hlt) (by have := drop_hd s i; rw [h41] at this; exact u8_yes (c := 41) this))
    clear h41
    by_cases hR : 0 < preN (s.data.toList.drop (i + 1)) ∧ preN (s.data.toList.drop (i + 1)) = (s.data.toList.drop (i + 1)).length
    ·
     by_cases hm : 16 < ps.length
     ·
      have HS := Lib.hid (sg_many hd.out hq.out (drop_ne hlt) (by rw [drop1]; exact hR) hm)
      have hE : (nextI (i + 1) (preN (s.data.toList.drop (i + 1))) != (s.size : Int)) = false := by simpa using (next_end (by omega)).2 hR
      clear hR own0
      go_wp2_with (go_at_call 161; refine (take_at1 _ _ (by omega) (by omega) _).mono ?_; rintro e w1 ⟨rfl, hb1⟩; obtain ⟨hc1, hf1⟩ := bcell hb1; have hz1 := hb1.size; (try simp only [World.size_alloc, World.size_setCell] at hz1); (try have hza : w.heap.size < w1.heap.size := by omega); (try have hzb : w.heap.size + 1 < w1.heap.size := by omega); (try have hzc : w.heap.size + 1 + 1 < w1.heap.size := by omega); (try have hzd : wa.heap.size < w1.heap.size := by omega); (try replace hR := (hb1.block w.heap.size (by first | exact lt_heap hR | (have := lt_heap hR; simp; omega))).trans (by first | with_reducible exact hR | with_reducible exact laid_old hR)); replace hB := below_on (w := w) ((by repeat (first | with_reducible exact hB | with_reducible exact Below.refl _ _ | with_reducible refine below_al ?_ _ | with_reducible refine below_st ?_ (by first | exact Nat.le_refl _ | exact Nat.le_add_right _ _ | (simp; omega)) _))) hb1; clear hb1)
      refine bodyPost_ret (v := .tuple #[.agg #[.slice none 0 0, .int .i64 0, .int .u8 0, .string ⟨#[]⟩], .int .i64 5]) ?_ rfl ⟨none, 0, by rw [HS.out]; rfl, by rw [HS.out]; exact Tys.nil _ _ _, by rw [HS.out]; exact Nat.zero_le _, (by repeat (first | with_reducible exact hB | with_reducible exact Below.refl _ _ | with_reducible refine below_al ?_ _ | with_reducible refine below_st ?_ (by first | exact Nat.le_refl _ | exact Nat.le_add_right _ _ | (simp; omega)) _))⟩
      simp [results, Tryz.f190, go_sem, set_same, *]
     ·
      have hm' : ps.length ≤ 16 := by omega
      have HS := Lib.hid (sg_ok hd.out hq.out (drop_ne hlt) (by rw [drop1]; exact hR) hm)
      have hE : (nextI (i + 1) (preN (s.data.toList.drop (i + 1))) != (s.size : Int)) = false := by simpa using (next_end (by omega)).2 hR
      have OWN := Lib.hid own0
      clear hR own0
      go_upto_region 19 with (go_at_call 161; refine (take_at1 _ _ (by omega) (by omega) _).mono ?_; rintro e w1 ⟨rfl, hb1⟩; have hs1 := hb1.size; have hx0 : w.heap.size < w1.heap.size := (by omega); have hx1 : w.heap.size + 1 < w1.heap.size := (by omega); have R1 := Lib.hid ((hb1.block _ hy0).trans I'.out.res); have G1 := Lib.hid ((hb1.block _ hy1).trans I'.out.g); have O1 := Lib.hid (owns_below OWN.out hb1); obtain ⟨⟨r0', r1', r2', r3'⟩, q0', q1', q2', q3'⟩ := four_cells R1.out; obtain ⟨⟨g0', g1', g2', g3'⟩, f0', f1', f2', f3'⟩ := four_cells G1.out; replace hB := below_on (w := w) hB hb1; clear hb1 r0 r1 r2 r3 q0 q1 q2 q3 g0 g1 g2 g3 f0 f1 f2 f3)
      have G2 := sig_fill (o := .cells #[(.int .i64 (preD (s.data.toList.drop (i + 1)))), (.int .u8 (preB (s.data.toList.drop (i + 1)))), (.string (preS (s.data.toList.drop (i + 1))))] 114) (a := (.int .i64 (preD (s.data.toList.drop (i + 1))))) (b := (.int .u8 (preB (s.data.toList.drop (i + 1))))) (c := (.string (preS (s.data.toList.drop (i + 1))))) G1.out
      have R2 := sig_far (B := w.heap.size + 1) (o := .cells #[(.int .i64 (preD (s.data.toList.drop (i + 1)))), (.int .u8 (preB (s.data.toList.drop (i + 1)))), (.string (preS (s.data.toList.drop (i + 1))))] 114) (a := (.int .i64 (preD (s.data.toList.drop (i + 1))))) (b := (.int .u8 (preB (s.data.toList.drop (i + 1))))) (c := (.string (preS (s.data.toList.drop (i + 1))))) R1.out (by omega)
      have B2 : Below w.heap.size w ((((w1.setCell ⟨w.heap.size + 1, 1, none⟩ (.int .i64 (preD (s.data.toList.drop (i + 1))))).setCell ⟨w.heap.size + 1, 2, none⟩ (.int .u8 (preB (s.data.toList.drop (i + 1))))).setCell ⟨w.heap.size + 1, 3, none⟩ (.string (preS (s.data.toList.drop (i + 1))))).alloc (.cells #[(.int .i64 (preD (s.data.toList.drop (i + 1)))), (.int .u8 (preB (s.data.toList.drop (i + 1)))), (.string (preS (s.data.toList.drop (i + 1))))] 114)) := (by repeat (first | with_reducible exact hB | with_reducible exact Below.refl _ _ | with_reducible refine below_al ?_ _ | with_reducible refine below_st ?_ (by first | exact Nat.le_refl _ | exact Nat.le_add_right _ _ | (simp; omega)) _))
      have O2 : ((((w1.setCell ⟨w.heap.size + 1, 1, none⟩ (.int .i64 (preD (s.data.toList.drop (i + 1))))).setCell ⟨w.heap.size + 1, 2, none⟩ (.int .u8 (preB (s.data.toList.drop (i + 1))))).setCell ⟨w.heap.size + 1, 3, none⟩ (.string (preS (s.data.toList.drop (i + 1))))).alloc (.cells #[(.int .i64 (preD (s.data.toList.drop (i + 1)))), (.int .u8 (preB (s.data.toList.drop (i + 1)))), (.string (preS (s.data.toList.drop (i + 1))))] 114)).ownsRow (w.heap.size + 2) 114 3 (.slice A ps.length c) ps.length (rowCells ps) := (ownsRow_setCell_below (ownsRow_setCell_below (ownsRow_setCell_below O1.out (by show w.heap.size + 1 < w.heap.size + 2; omega) _) (by show w.heap.size + 1 < w.heap.size + 2; omega) _) (by show w.heap.size + 1 < w.heap.size + 2; omega) _).alloc _
      obtain ⟨W2, e2⟩ : ∃ W2, W2 = ((((w1.setCell ⟨w.heap.size + 1, 1, none⟩ (.int .i64 (preD (s.data.toList.drop (i + 1))))).setCell ⟨w.heap.size + 1, 2, none⟩ (.int .u8 (preB (s.data.toList.drop (i + 1))))).setCell ⟨w.heap.size + 1, 3, none⟩ (.string (preS (s.data.toList.drop (i + 1))))).alloc (.cells #[(.int .i64 (preD (s.data.toList.drop (i + 1)))), (.int .u8 (preB (s.data.toList.drop (i + 1)))), (.string (preS (s.data.toList.drop (i + 1))))] 114)) := ⟨_, rfl⟩
      rw [← e2] at G2 R2 B2 O2 ⊢
      clear e2 r0' r1' r2' r3' q0' q1' q2' q3' g0' g1' g2' g3' f0' f1' f2' f3' hB
      obtain ⟨⟨r0, r1, r2, r3⟩, q0, q1, q2, q3⟩ := four_cells R2
      obtain ⟨⟨g0, g1, g2, g3⟩, f0, f1, f2, f3⟩ := four_cells G2
      have hB := B2
      have O3 := Lib.hid O2
      clear R2 G2 B2 O2
      go_wp2
      have TY : Tys ((((W2.setCell ⟨w.heap.size, 0, none⟩ (.slice A ps.length c)).setCell ⟨w.heap.size, 1, none⟩ (.int .i64 (preD (s.data.toList.drop (i + 1))))).setCell ⟨w.heap.size, 2, none⟩ (.int .u8 (preB (s.data.toList.drop (i + 1))))).setCell ⟨w.heap.size, 3, none⟩ (.string (preS (s.data.toList.drop (i + 1))))) _ A ps := Tys.of_own (ownsRow_setCell_below (ownsRow_setCell_below (ownsRow_setCell_below (ownsRow_setCell_below O3.out (by show w.heap.size < w.heap.size + 2; omega) _) (by show w.heap.size < w.heap.size + 2; omega) _) (by show w.heap.size < w.heap.size + 2; omega) _) (by show w.heap.size < w.heap.size + 2; omega) _) rfl
      have TYH := Lib.hid TY
      clear TY
      refine bodyPost_ret (v := .tuple #[.agg #[.slice A ps.length c, .int .i64 (preD (s.data.toList.drop (i + 1))), .int .u8 (preB (s.data.toList.drop (i + 1))), .string (preS (s.data.toList.drop (i + 1)))], .int .i64 0]) ?_ rfl ⟨A, c, by rw [HS.out, drop1]; rfl, by rw [HS.out]; exact TYH.out, by rw [HS.out]; have := CAP.out; show ps.length ≤ c; omega, (by repeat (first | with_reducible exact hB | with_reducible exact Below.refl _ _ | with_reducible refine below_al ?_ _ | with_reducible refine below_st ?_ (by first | exact Nat.le_refl _ | exact Nat.le_add_right _ _ | (simp; omega)) _))⟩
      simp [results, Tryz.f190, go_sem, *]
    ·
     have HS := Lib.hid (sg_res hd.out hq.out (drop_ne hlt) (by rw [drop1]; exact hR))
     have hE : (nextI (i + 1) (preN (s.data.toList.drop (i + 1))) != (s.size : Int)) = true := by simpa using mt (next_end (by omega)).1 hR
     clear hR own0
     go_wp2_with (go_at_call 161; refine (take_at1 _ _ (by omega) (by omega) _).mono ?_; rintro e w1 ⟨rfl, hb1⟩; obtain ⟨hc1, hf1⟩ := bcell hb1; have hz1 := hb1.size; (try simp only [World.size_alloc, World.size_setCell] at hz1); (try have hza : w.heap.size < w1.heap.size := by omega); (try have hzb : w.heap.size + 1 < w1.heap.size := by omega); (try have hzc : w.heap.size + 1 + 1 < w1.heap.size := by omega); (try have hzd : wa.heap.size < w1.heap.size := by omega); (try replace hR := (hb1.block w.heap.size (by first | exact lt_heap hR | (have := lt_heap hR; simp; omega))).trans (by first | with_reducible exact hR | with_reducible exact laid_old hR)); replace hB := below_on (w := w) ((by repeat (first | with_reducible exact hB | with_reducible exact Below.refl _ _ | with_reducible refine below_al ?_ _ | with_reducible refine below_st ?_ (by first | exact Nat.le_refl _ | exact Nat.le_add_right _ _ | (simp; omega)) _))) hb1; clear hb1)
     refine bodyPost_ret (v := .tuple #[.agg #[.slice none 0 0, .int .i64 0, .int .u8 0, .string ⟨#[]⟩], .int .i64 13]) ?_ rfl ⟨none, 0, by rw [HS.out]; rfl, by rw [HS.out]; exact Tys.nil _ _ _, by rw [HS.out]; exact Nat.zero_le _, (by repeat (first | with_reducible exact hB | with_reducible exact Below.refl _ _ | with_reducible refine below_al ?_ _ | with_reducible refine below_st ?_ (by first | exact Nat.le_refl _ | exact Nat.le_add_right _ _ | (simp; omega)) _))⟩
     simp [results, Tryz.f190, go_sem, set_same, *]
   ·
    have hnb : sigP (s.data.toList.drop 1).length.succ (s.data.toList.drop 1) = none ∨ stepOk (s.data.toList.drop i) = true := by
     cases hso : stepOk (s.data.toList.drop i) with
     | true => exact Or.inr rfl
     | false => exact Or.inl (begun_bad RUN.out (drop_ne hlt) (hd_ne h41) hso)
    have HNB := Lib.hid hnb
    clear hnb
    have h41' : (bt s i != 41) = true := by simpa using h41
    have H41 := Lib.hid h41
    clear h41
    have hn0 := pre_nn (s.data.toList.drop i)
    have hn1 := pre_le (s.data.toList.drop i)
    rw [drop_len] at hn1
    by_cases hN : preN (s.data.toList.drop i) = 0
    ·
     have HS := Lib.hid (sg_bad hd.out (HNB.out.resolve_right (by rw [stepOk_none hN]; decide)))
     clear own0
     go_wp2_with (go_at_call 161; refine (take_no _ _ (by omega) (by omega) hN _).mono ?_; rintro e w1 ⟨rfl, hb1⟩; obtain ⟨hc1, hf1⟩ := bcell hb1; have hz1 := hb1.size; (try simp only [World.size_alloc, World.size_setCell] at hz1); (try have hza : w.heap.size < w1.heap.size := by omega); (try have hzb : w.heap.size + 1 < w1.heap.size := by omega); (try have hzc : w.heap.size + 1 + 1 < w1.heap.size := by omega); (try have hzd : wa.heap.size < w1.heap.size := by omega); (try replace hR := (hb1.block w.heap.size (by first | exact lt_heap hR | (have := lt_heap hR; simp; omega))).trans (by first | with_reducible exact hR | with_reducible exact laid_old hR)); replace hB := below_on (w := w) ((by repeat (first | with_reducible exact hB | with_reducible exact Below.refl _ _ | with_reducible refine below_al ?_ _ | with_reducible refine below_st ?_ (by first | exact Nat.le_refl _ | exact Nat.le_add_right _ _ | (simp; omega)) _))) hb1; clear hb1)
     refine bodyPost_ret (v := .tuple #[.agg #[.slice none 0 0, .int .i64 0, .int .u8 0, .string ⟨#[]⟩], .int .i64 13]) ?_ rfl ⟨none, 0, by rw [HS.out]; rfl, by rw [HS.out]; exact Tys.nil _ _ _, by rw [HS.out]; exact Nat.zero_le _, (by repeat (first | with_reducible exact hB | with_reducible exact Below.refl _ _ | with_reducible refine below_al ?_ _ | with_reducible refine below_st ?_ (by first | exact Nat.le_refl _ | exact Nat.le_add_right _ _ | (simp; omega)) _))⟩
     simp [results, Tryz.f190, go_sem, set_same, *]
    ·
     have hN' := beqF hN
     by_cases h86 : preB (s.data.toList.drop i) = 86
     ·
      have HS := Lib.hid (sg_bad hd.out (HNB.out.resolve_right (by rw [stepOk_void h86]; decide)))
      clear own0
      go_wp2_with (go_at_call 161; refine (take_ok _ _ (by omega) (by omega) (by omega) _).mono ?_; rintro e w1 ⟨rfl, hb1⟩; obtain ⟨hc1, hf1⟩ := bcell hb1; have hz1 := hb1.size; (try simp only [World.size_alloc, World.size_setCell] at hz1); (try have hza : w.heap.size < w1.heap.size := by omega); (try have hzb : w.heap.size + 1 < w1.heap.size := by omega); (try have hzc : w.heap.size + 1 + 1 < w1.heap.size := by omega); (try have hzd : wa.heap.size < w1.heap.size := by omega); (try replace hR := (hb1.block w.heap.size (by first | exact lt_heap hR | (have := lt_heap hR; simp; omega))).trans (by first | with_reducible exact hR | with_reducible exact laid_old hR)); replace hB := below_on (w := w) ((by repeat (first | with_reducible exact hB | with_reducible exact Below.refl _ _ | with_reducible refine below_al ?_ _ | with_reducible refine below_st ?_ (by first | exact Nat.le_refl _ | exact Nat.le_add_right _ _ | (simp; omega)) _))) hb1; clear hb1)
      refine bodyPost_ret (v := .tuple #[.agg #[.slice none 0 0, .int .i64 0, .int .u8 0, .string ⟨#[]⟩], .int .i64 13]) ?_ rfl ⟨none, 0, by rw [HS.out]; rfl, by rw [HS.out]; exact Tys.nil _ _ _, by rw [HS.out]; exact Nat.zero_le _, (by repeat (first | with_reducible exact hB | with_reducible exact Below.refl _ _ | with_reducible refine below_al ?_ _ | with_reducible refine below_st ?_ (by first | exact Nat.le_refl _ | exact Nat.le_add_right _ _ | (simp; omega)) _))⟩
      simp [results, Tryz.f190, go_sem, set_same, *]
     ·
      have h86' := beqF h86
      have H86 := Lib.hid h86
      clear h86
      have OWN := Lib.hid own0
      clear own0
      go_wp2_with (first | (go_at_call 161; refine (take_ok _ _ (by omega) (by omega) (by omega) _).mono ?_; rintro e w1 ⟨rfl, hb1⟩; obtain ⟨hc1, hf1⟩ := bcell hb1; have hs1 := hb1.size; have hx0 : w.heap.size < w1.heap.size := (by omega); have hx1 : w.heap.size + 1 < w1.heap.size := (by omega); have own1 := Lib.hid (owns_below OWN.out hb1); have HB1 := Lib.hid hb1; clear hb1) | (at_builtin; refine wpList_append_lies _ rfl _ _ 203 rfl (w.heap.size + 2) 114 i0 (.agg #[.int .i64 0, .int .u8 0, .string ⟨#[]⟩]) 3 32 Tryz.underlying203 hi hz0 hz1 hz2 rfl (by decide) (.slice A ps.length c) ps.length (rowCells ps) rfl ((own1.out.alloc _).alloc _) ⟨w1.heap.size + 1, 0, none⟩ 1 1 [.int .i64 (preD (s.data.toList.drop i)), .int .u8 (preB (s.data.toList.drop i)), .string (preS (s.data.toList.drop i))] rfl rfl ?c1 ?c2 (by decide) ?c3 ?c4 ?c5 (w1.heap.size + 2) ?c6 ?_))
      case c1 => exact World.news_of_block (by have := heap_alloc_new (w1.alloc (.cells #[.int .i64 (preD (s.data.toList.drop i)), .int .u8 (preB (s.data.toList.drop i)), .string (preS (s.data.toList.drop i))] 114)) (.cells #[.int .i64 (preD (s.data.toList.drop i)), .int .u8 (preB (s.data.toList.drop i)), .string (preS (s.data.toList.drop i))] 114); simpa using this)
      case c2 => intro u hu; simp at hu; rcases hu with rfl | rfl | rfl <;> rfl
      case c3 => unfold maxLen; omega
      case c4 => omega
      case c5 => simp; omega
      case c6 => simp
      intro g cap w2 hown2 hgrow hat hlt2
      obtain ⟨b1, b2, b3⟩ := rs_step I'.out hlt H41.out hN H86.out HB1.out hown2 hgrow
      obtain ⟨⟨r0', r1', r2', r3'⟩, q0', q1', q2', q3'⟩ := four_cells b1
      obtain ⟨⟨g0', g1', g2', g3'⟩, f0', f1', f2', f3'⟩ := four_cells b2
      have B3 := Lib.hid b3
      clear b1 b2 b3 hgrow hown2 hat
      go_wp2
      go_roundw
      case rel => exact ⟨i + (preN (s.data.toList.drop i)).toNat, ps ++ [tyOf (s.data.toList.drop i)], _, by congr 1; omega, B3.out⟩
      case measure => simp [intOf]; omega
  ·
   have hdn : s.data.toList.drop i = [] := List.eq_nil_of_length_eq_zero (by rw [drop_len]; omega)
   have HS := Lib.hid (sg_end hd.out (begun_end (by have := RUN.out; rwa [hdn] at this)))
   clear own0 hdn
   go_wp2
   refine bodyPost_ret (v := .tuple #[.agg #[.slice none 0 0, .int .i64 0, .int .u8 0, .string ⟨#[]⟩], .int .i64 13]) ?_ rfl ⟨none, 0, by rw [HS.out]; rfl, by rw [HS.out]; exact Tys.nil _ _ _, by rw [HS.out]; exact Nat.zero_le _, (by repeat (first | with_reducible exact hB | with_reducible exact Below.refl _ _ | with_reducible refine below_al ?_ _ | with_reducible refine below_st ?_ (by first | exact Nat.le_refl _ | exact Nat.le_add_right _ _ | (simp; omega)) _))⟩
   simp [results, Tryz.f190, go_sem, set_same, *]
set_option maxRecDepth 100000 in
theorem rsig_none (s : ByteArray) (hs : s.size ≤ 2000000) (hp : s.size = 0) (w : World) :
  Calls Tryz.prog 190 #[.string s] w (SigRet w (sgOf s.data.toList)) := by
 have he := empty_data hp
 have hn : s.data.toList = [] := List.eq_nil_of_length_eq_zero (by rw [len_data]; exact hp)
 have HS := Lib.hid (sg_open (l := s.data.toList) (by rw [hn]; decide))
 clear hn
 have hB : Below w.heap.size w w := Below.refl _ _
 go_enter Tryz.func190, Tryz.ntmps190
 go_wp2
 refine bodyPost_ret (v := .tuple #[.agg #[.slice none 0 0, .int .i64 0, .int .u8 0, .string ⟨#[]⟩], .int .i64 13]) ?_ rfl ⟨none, 0, by rw [HS.out]; rfl, by rw [HS.out]; exact Tys.nil _ _ _, by rw [HS.out]; exact Nat.zero_le _, (by repeat (first | with_reducible exact hB | with_reducible exact Below.refl _ _ | with_reducible refine below_al ?_ _ | with_reducible refine below_st ?_ (by first | exact Nat.le_refl _ | exact Nat.le_add_right _ _ | (simp; omega)) _))⟩
 simp [results, Tryz.f190, go_sem, set_same, *]
set_option maxRecDepth 100000 in
theorem rsig_not (s : ByteArray) (hs : s.size ≤ 2000000) (hp : 0 < s.size) (h40 : ¬ bt s 0 = 40) (w : World) :
  Calls Tryz.prog 190 #[.string s] w (SigRet w (sgOf s.data.toList)) := by
 have hgb := get_bt s
 have he := nonempty_data hp
 have h40' : (bt s 0 != 40) = true := by simpa using h40
 have HS := Lib.hid (sg_open (l := s.data.toList) (fun e => h40 (by rw [bt_data, e]; rfl)))
 clear h40
 have hB : Below w.heap.size w w := Below.refl _ _
 go_enter Tryz.func190, Tryz.ntmps190
 go_wp2
 refine bodyPost_ret (v := .tuple #[.agg #[.slice none 0 0, .int .i64 0, .int .u8 0, .string ⟨#[]⟩], .int .i64 13]) ?_ rfl ⟨none, 0, by rw [HS.out]; rfl, by rw [HS.out]; exact Tys.nil _ _ _, by rw [HS.out]; exact Nat.zero_le _, (by repeat (first | with_reducible exact hB | with_reducible exact Below.refl _ _ | with_reducible refine below_al ?_ _ | with_reducible refine below_st ?_ (by first | exact Nat.le_refl _ | exact Nat.le_add_right _ _ | (simp; omega)) _))⟩
 simp [results, Tryz.f190, go_sem, set_same, *]
theorem rsig_all (s : ByteArray) (hs : s.size ≤ 2000000) (w : World) : Calls Tryz.prog 190 #[.string s] w (SigRet w (sgOf s.data.toList)) := by
 by_cases hp : 0 < s.size
 ·
  by_cases h40 : bt s 0 = 40
  ·
   exact rsig_any s hs h40 hp w
  ·
   exact rsig_not s hs hp h40 w
 ·
  exact rsig_none s hs (by omega) w
end Go.Proofs.YtalejaklggnnpaaGreatDoor
