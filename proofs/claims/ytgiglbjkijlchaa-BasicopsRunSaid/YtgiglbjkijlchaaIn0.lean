/- An instruction in memory (the head of XIn, by itself). -/
import Derived.Test.YtgiglbjkijlchaaBase
namespace Go.Proofs.Ytgiglbjkijlchaa
open Go.ChangeShapes Go.WideShapes Go.ChangeAt Go.RowKit Go.PlainAid
set_option linter.unusedSimpArgs false
set_option linter.unusedVariables false

structure In where
  op : Int
  a : Int
  b : Int
  t : Int
  kA : Option Addr
  kn : Nat
  kc : Nat
  ks : List Int
  tA : Option Addr
  tn : Nat
  tc : Nat
  ts : List Int
  r1 : ByteArray
  r2 : ByteArray
  r3 : ByteArray
  s : ByteArray

/-- the numbers of a slice, at their places: below block B -/
def Row (w : World) (B : Nat) (A : Option Addr) (L : List Int) : Prop :=
  L = [] ∨ ∃ g o, A = some ⟨g, o, none⟩ ∧ g < B ∧ ∀ (k : Nat) (x : Int), L[k]? = some x → w.cell? ⟨g, o + k, none⟩ = some (.int .i64 x)
theorem Row.below {w w' : World} {B : Nat} {A : Option Addr} {L : List Int} (h : Row w B A L) (hb : Below B w w') : Row w' B A L := by
  rcases h with h | ⟨g, o, hA, hg, hc⟩
  · exact Or.inl h
  · exact Or.inr ⟨g, o, hA, hg, fun i p hi => (hb.cell (p := ⟨g, _, none⟩) hg).trans (hc i p hi)⟩
theorem Row.more {w : World} {B B' : Nat} {A : Option Addr} {L : List Int} (h : Row w B A L) (hB : B ≤ B') : Row w B' A L := by
  rcases h with h | ⟨g, o, hA, hg, hc⟩
  · exact Or.inl h
  · exact Or.inr ⟨g, o, hA, by omega, hc⟩
theorem Row.up {w w' : World} {A : Option Addr} {L : List Int} (h : Row w w.heap.size A L) (hb : Below w.heap.size w w') : Row w' w'.heap.size A L := (h.below hb).more hb.size
theorem Row.nil (w : World) (B : Nat) (A : Option Addr) : Row w B A [] := Or.inl rfl
theorem Row.at {w : World} {B : Nat} {A : Option Addr} {L : List Int} (h : Row w B A L) (hl : 0 < L.length) : ∃ g o, A = some ⟨g, o, none⟩ ∧ g < B ∧ ∀ k, k < L.length → w.cell? ⟨g, o + k, none⟩ = some (.int .i64 (L.getD k 0)) := by
  rcases h with h | ⟨g, o, hA, hg, hc⟩
  · rw [h] at hl; exact absurd hl (Nat.lt_irrefl 0)
  · refine ⟨g, o, hA, hg, fun k hk => ?_⟩
    rw [List.getD_eq_getElem?_getD, List.getElem?_eq_getElem hk]
    exact hc k _ (List.getElem?_eq_getElem hk)

/-- the instruction's lists in memory -/
def In.ok (w : World) (B : Nat) (i : In) : Prop := i.ks.length = i.kn ∧ i.kn ≤ i.kc ∧ i.kc ≤ 9223372036854775807 ∧ Row w B i.kA i.ks ∧ i.ts.length = i.tn ∧ i.tn ≤ i.tc ∧ i.tc ≤ 9223372036854775807 ∧ Row w B i.tA i.ts
theorem In.ok.below {w w' : World} {B : Nat} {i : In} (h : i.ok w B) (hb : Below B w w') : i.ok w' B := ⟨h.1, h.2.1, h.2.2.1, h.2.2.2.1.below hb, h.2.2.2.2.1, h.2.2.2.2.2.1, h.2.2.2.2.2.2.1, h.2.2.2.2.2.2.2.below hb⟩
theorem In.ok.more {w : World} {B B' : Nat} {i : In} (h : i.ok w B) (hB : B ≤ B') : i.ok w B' := ⟨h.1, h.2.1, h.2.2.1, h.2.2.2.1.more hB, h.2.2.2.2.1, h.2.2.2.2.2.1, h.2.2.2.2.2.2.1, h.2.2.2.2.2.2.2.more hB⟩
theorem In.ok.up {w w' : World} {i : In} (h : i.ok w w.heap.size) (hb : Below w.heap.size w w') : i.ok w' w'.heap.size := (h.below hb).more hb.size
/-- the instructions of a slice, at their places: below block B -/
def Ins (w : World) (B : Nat) (A : Option Addr) (L : List In) : Prop :=
  L = [] ∨ ∃ g o, A = some ⟨g, o, none⟩ ∧ g < B ∧ ∀ (k : Nat) (i : In), L[k]? = some i → i.ok w B ∧ w.cell? ⟨g, o + k * 10, none⟩ = some (.int .i64 i.op) ∧ w.cell? ⟨g, o + k * 10 + 1, none⟩ = some (.int .i64 i.a) ∧ w.cell? ⟨g, o + k * 10 + 2, none⟩ = some (.int .i64 i.b) ∧ w.cell? ⟨g, o + k * 10 + 3, none⟩ = some (.int .i64 i.t) ∧ w.cell? ⟨g, o + k * 10 + 4, none⟩ = some (.slice i.kA i.kn i.kc) ∧ w.cell? ⟨g, o + k * 10 + 5, none⟩ = some (.slice i.tA i.tn i.tc) ∧ w.cell? ⟨g, o + k * 10 + 6, none⟩ = some (.string i.r1) ∧ w.cell? ⟨g, o + k * 10 + 7, none⟩ = some (.string i.r2) ∧ w.cell? ⟨g, o + k * 10 + 8, none⟩ = some (.string i.r3) ∧ w.cell? ⟨g, o + k * 10 + 9, none⟩ = some (.string i.s)
theorem Ins.below {w w' : World} {B : Nat} {A : Option Addr} {L : List In} (h : Ins w B A L) (hb : Below B w w') : Ins w' B A L := by
  rcases h with h | ⟨g, o, hA, hg, hc⟩
  · exact Or.inl h
  · refine Or.inr ⟨g, o, hA, hg, fun i p hi => ?_⟩
    obtain ⟨z, c0, c1, c2, c3, c4, c5, c6, c7, c8, c9⟩ := hc i p hi
    have e := fun k => hb.cell (p := ⟨g, k, none⟩) hg
    exact ⟨z.below hb, (e _).trans c0, (e _).trans c1, (e _).trans c2, (e _).trans c3, (e _).trans c4, (e _).trans c5, (e _).trans c6, (e _).trans c7, (e _).trans c8, (e _).trans c9⟩
theorem Ins.more {w : World} {B B' : Nat} {A : Option Addr} {L : List In} (h : Ins w B A L) (hB : B ≤ B') : Ins w B' A L := by
  rcases h with h | ⟨g, o, hA, hg, hc⟩
  · exact Or.inl h
  · exact Or.inr ⟨g, o, hA, by omega, fun i p hi => ⟨(hc i p hi).1.more hB, (hc i p hi).2⟩⟩
theorem Ins.up {w w' : World} {A : Option Addr} {L : List In} (h : Ins w w.heap.size A L) (hb : Below w.heap.size w w') : Ins w' w'.heap.size A L := (h.below hb).more hb.size
theorem Ins.nil (w : World) (B : Nat) (A : Option Addr) : Ins w B A [] := Or.inl rfl

end Go.Proofs.Ytgiglbjkijlchaa
