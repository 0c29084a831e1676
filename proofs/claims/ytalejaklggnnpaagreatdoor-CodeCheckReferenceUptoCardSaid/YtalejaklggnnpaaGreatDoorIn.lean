import Derived.Test.YtalejaklggnnpaaGreatDoorOpcRef
import Derived.Test.YtalejaklggnnpaaGreatDoorBase
/- Layer 8: an instruction in memory. -/
namespace Go.Proofs.YtalejaklggnnpaaGreatDoor.I
open Go.ChangeShapes Go.WideShapes Go.ChangeAt Go.RowKit Go.PlainAid
set_option linter.unusedSimpArgs false
set_option linter.unusedVariables false
structure In where
 op : Int
 a : Int
 b : Int
 t : Int
 kA : Option Addr
 kn : Nat
 kc : Nat
 ks : List Int
 tA : Option Addr
 tn : Nat
 tc : Nat
 ts : List Int
 r1 : ByteArray
 r2 : ByteArray
 r3 : ByteArray
 s : ByteArray
/-- the numbers of a slice, at their places: below block B -/
def Row (w : World) (B : Nat) (A : Option Addr) (L : List Int) : Prop :=
 L = [] ∨ ∃ g o, A = some ⟨g, o, none⟩ ∧ g < B ∧ ∀ (k : Nat) (x : Int), L[k]? = some x → w.cell? ⟨g, o + k, none⟩ = some (.int .i64 x)
theorem Row.below {w w' : World} {B : Nat} {A : Option Addr} {L : List Int} (h : Row w B A L) (hb : Below B w w') : Row w' B A L := by
 rcases h with h | ⟨g, o, hA, hg, hc⟩
 ·
  exact Or.inl h
 ·
  exact Or.inr ⟨g, o, hA, hg, fun i p hi => (hb.cell (p := ⟨g, _, none⟩) hg).trans (hc i p hi)⟩
theorem Row.more {w : World} {B B' : Nat} {A : Option Addr} {L : List Int} (h : Row w B A L) (hB : B ≤ B') : Row w B' A L := by
 rcases h with h | ⟨g, o, hA, hg, hc⟩
 ·
  exact Or.inl h
 ·
  exact Or.inr ⟨g, o, hA, by omega, hc⟩
theorem Row.up {w w' : World} {A : Option Addr} {L : List Int} (h : Row w w.heap.size A L) (hb : Below w.heap.size w w') : Row w' w'.heap.size A L := (h.below hb).more hb.size
theorem Row.nil (w : World) (B : Nat) (A : Option Addr) : Row w B A [] := Or.inl rfl
theorem Row.at {w : World} {B : Nat} {A : Option Addr} {L : List Int} (h : Row w B A L) (hl : 0 < L.length) : ∃ g o, A = some ⟨g, o, none⟩ ∧ g < B ∧ ∀ k, k < L.length → w.cell? ⟨g, o + k, none⟩ = some (.int .i64 (L.getD k 0)) := by
 rcases h with h | ⟨g, o, hA, hg, hc⟩
 ·
  rw [h] at hl; exact absurd hl (Nat.lt_irrefl 0)
 ·
  refine ⟨g, o, hA, hg, fun k hk => ?_⟩
  rw [List.getD_eq_getElem?_getD, List.getElem?_eq_getElem hk]
  exact hc k _ (List.getElem?_eq_getElem hk)
/-- the instruction's lists in memory -/
def In.ok (w : World) (B : Nat) (i : In) : Prop := i.ks.length = i.kn ∧ i.kn ≤ i.kc ∧ i.kc ≤ 9223372036854775807 ∧ Row w B i.kA i.ks ∧ i.ts.length = i.tn ∧ i.tn ≤ i.tc ∧ i.tc ≤ 9223372036854775807 ∧ Row w B i.tA i.ts
theorem In.ok.below {w w' : World} {B : Nat} {i : In} (h : i.ok w B) (hb : Below B w w') : i.ok w' B := ⟨h.1, h.2.1, h.2.2.1, h.2.2.2.1.below hb, h.2.2.2.2.1, h.2.2.2.2.2.1, h.2.2.2.2.2.2.1, h.2.2.2.2.2.2.2.below hb⟩
theorem In.ok.more {w : World} {B B' : Nat} {i : In} (h : i.ok w B) (hB : B ≤ B') : i.ok w B' := ⟨h.1, h.2.1, h.2.2.1, h.2.2.2.1.more hB, h.2.2.2.2.1, h.2.2.2.2.2.1, h.2.2.2.2.2.2.1, h.2.2.2.2.2.2.2.more hB⟩
theorem In.ok.up {w w' : World} {i : In} (h : i.ok w w.heap.size) (hb : Below w.heap.size w w') : i.ok w' w'.heap.size := (h.below hb).more hb.size
/-- the instructions of a slice, at their places: below block B -/
def Ins (w : World) (B : Nat) (A : Option Addr) (L : List In) : Prop :=
 L = [] ∨ ∃ g o, A = some ⟨g, o, none⟩ ∧ g < B ∧ ∀ (k : Nat) (i : In), L[k]? = some i → i.ok w B ∧ w.cell? ⟨g, o + k * 10, none⟩ = some (.int .i64 i.op) ∧ w.cell? ⟨g, o + k * 10 + 1, none⟩ = some (.int .i64 i.a) ∧ w.cell? ⟨g, o + k * 10 + 2, none⟩ = some (.int .i64 i.b) ∧ w.cell? ⟨g, o + k * 10 + 3, none⟩ = some (.int .i64 i.t) ∧ w.cell? ⟨g, o + k * 10 + 4, none⟩ = some (.slice i.kA i.kn i.kc) ∧ w.cell? ⟨g, o + k * 10 + 5, none⟩ = some (.slice i.tA i.tn i.tc) ∧ w.cell? ⟨g, o + k * 10 + 6, none⟩ = some (.string i.r1) ∧ w.cell? ⟨g, o + k * 10 + 7, none⟩ = some (.string i.r2) ∧ w.cell? ⟨g, o + k * 10 + 8, none⟩ = some (.string i.r3) ∧ w.cell? ⟨g, o + k * 10 + 9, none⟩ = some (.string i.s)
theorem Ins.below {w w' : World} {B : Nat} {A : Option Addr} {L : List In} (h : Ins w B A L) (hb : Below B w w') : Ins w' B A L := by
 rcases h with h | ⟨g, o, hA, hg, hc⟩
 ·
  exact Or.inl h
 ·
  refine Or.inr ⟨g, o, hA, hg, fun i p hi => ?_⟩
  obtain ⟨z, c0, c1, c2, c3, c4, c5, c6, c7, c8, c9⟩ := hc i p hi
  have e := fun k => hb.cell (p := ⟨g, k, none⟩) hg
  exact ⟨z.below hb, (e _).trans c0, (e _).trans c1, (e _).trans c2, (e _).trans c3, (e _).trans c4, (e _).trans c5, (e _).trans c6, (e _).trans c7, (e _).trans c8, (e _).trans c9⟩
theorem Ins.more {w : World} {B B' : Nat} {A : Option Addr} {L : List In} (h : Ins w B A L) (hB : B ≤ B') : Ins w B' A L := by
 rcases h with h | ⟨g, o, hA, hg, hc⟩
 ·
  exact Or.inl h
 ·
  exact Or.inr ⟨g, o, hA, by omega, fun i p hi => ⟨(hc i p hi).1.more hB, (hc i p hi).2⟩⟩
theorem Ins.up {w w' : World} {A : Option Addr} {L : List In} (h : Ins w w.heap.size A L) (hb : Below w.heap.size w w') : Ins w' w'.heap.size A L := (h.below hb).more hb.size
theorem Ins.nil (w : World) (B : Nat) (A : Option Addr) : Ins w B A [] := Or.inl rfl
/- what Check says -/
def rfZ (x y z : ByteArray) : Bool := decide (x.toList = []) && (decide (y.toList = []) && decide (z.toList = []))
def unB (k : Int) (i : In) : Bool :=
 !rfZ i.r1 i.r2 i.r3 || (!decide (i.s.toList = []) || ((!(k == 1 || k == 2 || k == 4 || k == 5 || k == 6) && i.a != 0) || ((k != 5 && i.b != 0) || ((k != 3 && (decide (k < 6) && i.t != 0)) || ((k != 7 && decide (0 < i.kn)) || (decide (k < 6) && decide (0 < i.tn)))))))
def btB (x : Int) : Bool := decide (x < 0 ∨ 1000 ≤ x)
def k32 (x : Int) : Bool := decide (-2147483648 ≤ x ∧ x ≤ 2147483647)
/-- strictly increasing -/
def incB : List Int → Bool
 | [] => true
 | x :: r => (match r with | [] => true | y :: _ => decide (x < y)) && incB r
def tsE (i : In) : Int := if i.tn = 0 ∨ 64 < i.tn then 5 else if k32 i.a = true ∧ k32 (i.a + i.tn - 1) = true then 0 else 8
def ksE (i : In) : Int := if 64 < i.kn ∨ i.tn ≠ i.kn then 5 else if i.ks.all k32 = true then (if incB i.ks = true then 0 else 4) else 8
def tgB (i : In) : Bool := btB i.t || i.ts.any btB
def ciE (i : In) : Int :=
 if kindV i.op < 0 then 15 else if unB (kindV i.op) i = true then 4
 else if kindV i.op = 1 then (if i.a < -128 ∨ 127 < i.a then 8 else 0)
 else if kindV i.op = 2 then (if i.a < 1 ∨ 1000 < i.a then 2 else 0)
 else if kindV i.op = 4 then (if i.a < 0 ∨ 32 ≤ i.a then 21 else 0)
 else if kindV i.op = 5 then (if i.b < -128 ∨ 127 < i.b then 8 else if i.a < 0 ∨ 32 ≤ i.a then 21 else 0)
 else if kindV i.op = 3 then (if tgB i = true then 16 else 0)
 else if kindV i.op = 6 then (if tgB i = true then 16 else tsE i)
 else if kindV i.op = 7 then (if tgB i = true then 16 else ksE i)
 else 0
theorem rf_eqIn (x y z : ByteArray) (w : World) : (Op.equalIn 10000 48 (.agg #[.string x, .string y, .string z]) (.agg #[.string ⟨#[]⟩, .string ⟨#[]⟩, .string ⟨#[]⟩])).run Tryz.prog w = .ok (rfZ x y z) w := by
 by_cases h1 : x.toList = []
 ·
  by_cases h2 : y.toList = []
  ·
   by_cases h3 : z.toList = [] <;> simp [go_sem, rfZ, *]
  ·
   simp [go_sem, rfZ, *]
 ·
  simp [go_sem, rfZ, *]
theorem rf_neq (x y z : ByteArray) (w : World) : (binOp .neq 48 (.agg #[.string x, .string y, .string z]) (.agg #[.string ⟨#[]⟩, .string ⟨#[]⟩, .string ⟨#[]⟩])).run Tryz.prog w = .ok (.bool (!rfZ x y z)) w := by rw [run_neq_struct, rf_eqIn]; rfl
theorem ten_cells {W : World} {B : Nat} {a b c d e f g h i j : Value} {t : TypeId} (hh : W.heap[B]? = some (.cells #[a, b, c, d, e, f, g, h, i, j] t)) :
  W.cell? ⟨B, 0, none⟩ = some a ∧ W.cell? ⟨B, 1, none⟩ = some b ∧ W.cell? ⟨B, 2, none⟩ = some c ∧ W.cell? ⟨B, 3, none⟩ = some d ∧ W.cell? ⟨B, 4, none⟩ = some e ∧ W.cell? ⟨B, 5, none⟩ = some f ∧ W.cell? ⟨B, 6, none⟩ = some g ∧ W.cell? ⟨B, 7, none⟩ = some h ∧ W.cell? ⟨B, 8, none⟩ = some i ∧ W.cell? ⟨B, 9, none⟩ = some j := by
 refine ⟨?_, ?_, ?_, ?_, ?_, ?_, ?_, ?_, ?_, ?_⟩ <;> simp [World.cell?, hh]
/- lists -/
theorem all_iff (p : Int → Bool) (l : List Int) : l.all p = true ↔ ∀ j, j < l.length → p (l.getD j 0) = true := by
 rw [List.all_eq_true]
 constructor
 ·
  intro h j hj
  rw [List.getD_eq_getElem?_getD, List.getElem?_eq_getElem hj]
  exact h _ (List.getElem_mem hj)
 ·
  intro h x hx
  obtain ⟨j, hj, rfl⟩ := List.getElem_of_mem hx
  have := h j hj
  rwa [List.getD_eq_getElem?_getD, List.getElem?_eq_getElem hj] at this
theorem inc_iff : ∀ l : List Int, incB l = true ↔ ∀ j, 1 ≤ j → j < l.length → l.getD (j - 1) 0 < l.getD j 0
 | [] => ⟨fun _ j _ hj => absurd hj (Nat.not_lt_zero _), fun _ => rfl⟩
 | [x] => ⟨fun _ j h1 hj => by simp at hj; omega, fun _ => rfl⟩
 | x :: y :: r => by
  have ih := inc_iff (y :: r)
  show (decide (x < y) && incB (y :: r)) = true ↔ _
  rw [Bool.and_eq_true, ih, decide_eq_true_iff]
  constructor
  ·
   rintro ⟨h1, h2⟩ j hj1 hj2
   rcases (by omega : j = 1 ∨ 2 ≤ j) with rfl | h
   ·
    exact h1
   ·
    have := h2 (j - 1) (by omega) (by simp at hj2 ⊢; omega)
    obtain ⟨k, rfl⟩ : ∃ k, j = k + 2 := ⟨j - 2, by omega⟩
    simpa using this
  ·
   intro h
   refine ⟨by simpa using h 1 (by omega) (by simp), fun j hj1 hj2 => ?_⟩
   have := h (j + 1) (by omega) (by simp at hj2 ⊢; omega)
   obtain ⟨k, rfl⟩ : ∃ k, j = k + 1 := ⟨j - 1, by omega⟩
   simpa using this
theorem k32_iff {x : Int} : k32 x = true ↔ -2147483648 ≤ x ∧ x ≤ 2147483647 := by unfold k32; exact decide_eq_true_iff
theorem kind_bd (o : Int) : kindV o = -1 ∨ kindV o = 0 ∨ kindV o = 1 ∨ kindV o = 2 ∨ kindV o = 3 ∨ kindV o = 4 ∨ kindV o = 5 ∨ kindV o = 6 ∨ kindV o = 7 := by
 unfold kindV
 repeat' split
 all_goals simp
theorem kind6 {o : Int} : kindV o = 6 ↔ o = 53 := by
 unfold kindV
 repeat' split
 all_goals first | omega | (constructor <;> intro h <;> omega)
theorem kind7 {o : Int} : kindV o = 7 ↔ o = 54 := by
 unfold kindV
 repeat' split
 all_goals first | omega | (constructor <;> intro h <;> omega)
end Go.Proofs.YtalejaklggnnpaaGreatDoor.I
