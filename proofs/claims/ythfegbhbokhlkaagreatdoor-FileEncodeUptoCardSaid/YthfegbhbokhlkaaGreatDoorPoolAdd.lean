/- Layer 5: Add, in the package and in its reference. -/
import Derived.Test.YthfegbhbokhlkaaGreatDoorPoolThree
import Derived.Deep.QuietTactic
import Derived.BigQuiet
import Derived.ArgAppend
import Derived.Deep.AppendLies
namespace Go.Proofs.YthfegbhbokhlkaaGreatDoor
open Go.ChangeShapes Go.WideShapes Go.ChangeAt Go.RowKit Go.PlainAid
set_option linter.unusedSimpArgs false
set_option linter.unusedVariables false

theorem below_dr {w W : World} (h : Below w.heap.size w W) (q : Nat) : Below w.heap.size w (W.drewN q) := ⟨h.os, h.tape, h.output, h.size, h.block⟩

def cnQ (x y : Cn) : Bool := x.t == y.t && (decide (x.s = y.s) && (x.n == y.n && (x.a == y.a && x.b == y.b)))
theorem cnQ_iff {x y : Cn} : cnQ x y = true ↔ x = y := by
  obtain ⟨a, b, c, d, e⟩ := x
  obtain ⟨a', b', c', d', e'⟩ := y
  simp [cnQ]
theorem toList_iff {a b : ByteArray} : a.toList = b.toList ↔ a = b := by
  have := beq_toListBytes a b
  constructor
  · intro h
    rw [h] at this
    simp at this
    cases a; cases b
    simp_all [ByteArray.toList_eq]
  · rintro rfl; rfl
theorem cn_eqIn (x y : Cn) (w : World) : (Op.equalIn 10000 80 (Value.agg #[Value.int IntKind.i64 (Cn.t x), Value.string (Cn.s x), Value.int IntKind.i64 (Cn.n x), Value.int IntKind.i64 (Cn.a x), Value.int IntKind.i64 (Cn.b x)]) (Value.agg #[Value.int IntKind.i64 (Cn.t y), Value.string (Cn.s y), Value.int IntKind.i64 (Cn.n y), Value.int IntKind.i64 (Cn.a y), Value.int IntKind.i64 (Cn.b y)])).run Tryz.prog w = .ok (cnQ x y) w := by
  by_cases h1 : x.t = y.t
  · by_cases h2 : x.s = y.s
    · by_cases h3 : x.n = y.n
      · by_cases h4 : x.a = y.a
        · by_cases h5 : x.b = y.b <;> simp [go_sem, cnQ, *]
        · simp [go_sem, cnQ, *]
      · simp [go_sem, cnQ, *]
    · have h2' : ¬ x.s.toList = y.s.toList := fun h => h2 (toList_iff.1 h)
      simp [go_sem, cnQ, *]
  · simp [go_sem, cnQ, *]
theorem cn_eql (x y : Cn) (w : World) : (binOp .eql 80 (Value.agg #[Value.int IntKind.i64 (Cn.t x), Value.string (Cn.s x), Value.int IntKind.i64 (Cn.n x), Value.int IntKind.i64 (Cn.a x), Value.int IntKind.i64 (Cn.b x)]) (Value.agg #[Value.int IntKind.i64 (Cn.t y), Value.string (Cn.s y), Value.int IntKind.i64 (Cn.n y), Value.int IntKind.i64 (Cn.a y), Value.int IntKind.i64 (Cn.b y)])).run Tryz.prog w = .ok (.bool (cnQ x y)) w := by rw [run_eql_struct, cn_eqIn]; rfl
theorem cn_neq (x y : Cn) (w : World) : (binOp .neq 80 (Value.agg #[Value.int IntKind.i64 (Cn.t x), Value.string (Cn.s x), Value.int IntKind.i64 (Cn.n x), Value.int IntKind.i64 (Cn.a x), Value.int IntKind.i64 (Cn.b x)]) (Value.agg #[Value.int IntKind.i64 (Cn.t y), Value.string (Cn.s y), Value.int IntKind.i64 (Cn.n y), Value.int IntKind.i64 (Cn.a y), Value.int IntKind.i64 (Cn.b y)])).run Tryz.prog w = .ok (.bool (!cnQ x y)) w := by rw [run_neq_struct, cn_eqIn]; rfl
theorem cnQ_no {x y : Cn} (h : ¬ x = y) : cnQ x y = false := by
  cases e : cnQ x y with
  | false => rfl
  | true => exact absurd (cnQ_iff.1 e) h
theorem cnQ_no' {x y : Cn} (h : ¬ x = y) : cnQ y x = false := cnQ_no (fun e => h e.symm)
theorem cnQ_self (x : Cn) : cnQ x x = true := cnQ_iff.2 rfl
/-- where a constant stands first; the pool's length where it doesn't -/
def ixN (L : List Cn) (x : Cn) : Nat := L.findIdx (fun c => cnQ c x)
theorem ix_here {L : List Cn} {x : Cn} {k : Nat} (h : k ≤ ixN L x) (hk : L[k]? = some x) : ixN L x = k := by
  have hl : k < L.length := by
    rcases Nat.lt_or_ge k L.length with h1 | h1
    · exact h1
    · rw [List.getElem?_eq_none h1] at hk; cases hk
  rcases Nat.lt_or_ge k (ixN L x) with h1 | h1
  · exfalso
    have := List.not_of_lt_findIdx (p := fun c => cnQ c x) h1
    rw [List.getElem?_eq_getElem hl] at hk
    have hx := Option.some.inj hk
    simp only [hx] at this
    rw [cnQ_iff.2 rfl] at this
    cases this
  · exact Nat.le_antisymm h1 h
theorem ix_next {L : List Cn} {x p : Cn} {k : Nat} (h : k ≤ ixN L x) (hk : L[k]? = some p) (hp : cnQ p x = false) : k + 1 ≤ ixN L x := by
  have hl : k < L.length := by
    rcases Nat.lt_or_ge k L.length with h1 | h1
    · exact h1
    · rw [List.getElem?_eq_none h1] at hk; cases hk
  rcases Nat.lt_or_ge k (ixN L x) with h1 | h1
  · exact h1
  · exfalso
    have e : ixN L x = k := Nat.le_antisymm h1 h
    have hlt : ixN L x < L.length := by rw [e]; exact hl
    have := List.findIdx_getElem (p := fun c => cnQ c x) (w := hlt)
    rw [List.getElem?_eq_getElem hl] at hk
    have hx := Option.some.inj hk
    have e' : List.findIdx (fun c => cnQ c x) L = k := e
    simp only [e'] at this
    rw [hx, hp] at this
    cases this
theorem ix_le (L : List Cn) (x : Cn) : ixN L x ≤ L.length := List.findIdx_le_length

def ixI (L : List Cn) (x : Cn) : Int := if ixN L x < L.length then ixN L x else -1

end Go.Proofs.YthfegbhbokhlkaaGreatDoor
