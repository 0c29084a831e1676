import Derived.Test.YtalejaklggnnpaaGreatDoorBase
/- Verification types, rows of them, frames in memory. (Written by wip/gen/vs.py.) -/
namespace Go.Proofs.YtalejaklggnnpaaGreatDoor.I
open Go.ChangeShapes Go.WideShapes Go.ChangeAt Go.RowKit Go.PlainAid Go.Maps
set_option linter.unusedSimpArgs false
set_option linter.unusedVariables false
structure TY where
 d : Int
 b : Int
 s : ByteArray
def tyZ : TY := ⟨0, 0, ⟨#[]⟩⟩
def tyE (a b : TY) : Bool := decide (a.d = b.d) && decide (a.b = b.b) && (a.s.toList == b.s.toList)
theorem ty_eqIn (a b : TY) (w : World) : (Op.equalIn 10000 114 (Value.agg #[Value.int IntKind.i64 (TY.d a), Value.int IntKind.u8 (TY.b a), Value.string (TY.s a)]) (Value.agg #[Value.int IntKind.i64 (TY.d b), Value.int IntKind.u8 (TY.b b), Value.string (TY.s b)])).run Tryz.prog w = .ok (tyE a b) w := by
 by_cases h1 : a.d = b.d
 ·
  by_cases h2 : a.b = b.b
  ·
   by_cases h3 : a.s.toList = b.s.toList <;> simp [go_sem, tyE, *]
  ·
   simp [go_sem, tyE, *]
 ·
  simp [go_sem, tyE, *]
theorem ty_neP {d b d' b' : Int} {s s' : ByteArray} {v : Bool} (h : tyE ⟨d, b, s⟩ ⟨d', b', s'⟩ = v) (w : World) : (binOp .neq 114 (.agg #[.int .i64 d, .int .u8 b, .string s]) (.agg #[.int .i64 d', .int .u8 b', .string s'])).run Tryz.prog w = .ok (.bool (!v)) w := by
 rw [run_neq_struct]
 have := ty_eqIn ⟨d, b, s⟩ ⟨d', b', s'⟩ w
 rw [h] at this
 rw [this]; rfl
structure VT where
 k : Int
 n : Int
 d : Int
 b : Int
 s : ByteArray
 p : Int
def vtZ : VT := ⟨0, 0, 0, 0, ⟨#[]⟩, 0⟩
def VT.ty (x : VT) : TY := ⟨x.d, x.b, x.s⟩
theorem lt_of_some {α : Type} {l : List α} {k : Nat} {y : α} (h : l[k]? = some y) : k < l.length := by
 rcases Nat.lt_or_ge k l.length with h' | h'
 ·
  exact h'
 ·
  rw [List.getElem?_eq_none h'] at h; cases h
def vcs (v : VT) : List Value := [.int .i64 v.k, .int .i64 v.n, .int .i64 v.d, .int .u8 v.b, .string v.s, .int .i64 v.p]
def vrow (L : List VT) : List Value := L.flatMap vcs
theorem vrow_len (L : List VT) : (vrow L).length = L.length * 6 := by
 unfold vrow
 induction L with
 | nil => rfl
 | cons p L ih => rw [List.flatMap_cons, List.length_append, ih, List.length_cons]; simp [vcs]; omega
theorem vcs_lt {v : VT} {j : Nat} {x : Value} (h : (vcs v)[j]? = some x) : j < 6 := by
 rcases Nat.lt_or_ge j 6 with h' | h'
 ·
  exact h'
 ·
  rw [List.getElem?_eq_none (by simpa [vcs] using h')] at h; cases h
theorem vrow_at : ∀ (L : List VT) (k : Nat) (v : VT), L[k]? = some v → ∀ j, j < 6 → (vrow L)[k * 6 + j]? = (vcs v)[j]?
 | [], k, p, h, _, _ => by simp at h
 | x :: L, 0, p, h, j, hj => by
  obtain rfl : x = p := by simpa using h
  unfold vrow
  rw [List.flatMap_cons, Nat.zero_mul, Nat.zero_add, List.getElem?_append_left (by simpa [vcs] using hj)]
 | x :: L, k + 1, p, h, j, hj => by
  have ih := vrow_at L k p (by simpa using h) j hj
  unfold vrow at ih ⊢
  rw [List.flatMap_cons, List.getElem?_append_right (by simp [vcs]; omega)]
  have e : (k + 1) * 6 + j - (vcs x).length = k * 6 + j := by simp [vcs]; omega
  rw [e]
  exact ih
def VS (w : World) (B : Nat) (A : Option Addr) (L : List VT) : Prop :=
 (L = [] ∨ ∃ g o, A = some ⟨g, o, none⟩ ∧ g < B ∧ ∀ (k : Nat) (v : VT), L[k]? = some v → ∀ (j : Nat) (x : Value), (vcs v)[j]? = some x → w.cell? ⟨g, o + k * 6 + j, none⟩ = some x) ∧ ∀ v ∈ L, v.s.size ≤ 9223372036854775807
theorem VS.below {w w' : World} {B : Nat} {A : Option Addr} {L : List VT} (h : VS w B A L) (hb : Below B w w') : VS w' B A L := by
 refine ⟨h.1.imp id ?_, h.2⟩
 rintro ⟨g, o, hA, hg, hc⟩
 exact ⟨g, o, hA, hg, fun k v hk j x hj => (hb.cell (p := ⟨g, _, none⟩) hg).trans (hc k v hk j x hj)⟩
theorem VS.more {w : World} {B B' : Nat} {A : Option Addr} {L : List VT} (h : VS w B A L) (hB : B ≤ B') : VS w B' A L := by
 refine ⟨h.1.imp id ?_, h.2⟩
 rintro ⟨g, o, hA, hg, hc⟩
 exact ⟨g, o, hA, by omega, hc⟩
theorem VS.up {w w' : World} {A : Option Addr} {L : List VT} (h : VS w w.heap.size A L) (hb : Below w.heap.size w w') : VS w' w'.heap.size A L := (h.below hb).more hb.size
theorem VS.at {w : World} {B : Nat} {A : Option Addr} {L : List VT} (h : VS w B A L) {k : Nat} (hk : k < L.length) : ∃ g o, A = some ⟨g, o, none⟩ ∧ g < B ∧ ∀ (j : Nat) (x : Value), (vcs L[k])[j]? = some x → w.cell? ⟨g, o + k * 6 + j, none⟩ = some x := by
 rcases h.1 with h | ⟨g, o, hA, hg, hc⟩
 ·
  rw [h] at hk; exact absurd hk (Nat.not_lt_zero _)
 ·
  exact ⟨g, o, hA, hg, hc k _ (List.getElem?_eq_getElem hk)⟩
theorem VS.six {w : World} {B : Nat} {A : Option Addr} {L : List VT} (h : VS w B A L) {k : Nat} {v : VT} (hv : L[k]? = some v) : ∃ g o, A = some ⟨g, o, none⟩ ∧ g < B ∧ w.cell? ⟨g, o + k * 6, none⟩ = some (.int .i64 v.k) ∧ w.cell? ⟨g, o + k * 6 + 1, none⟩ = some (.int .i64 v.n) ∧ w.cell? ⟨g, o + k * 6 + 2, none⟩ = some (.int .i64 v.d) ∧ w.cell? ⟨g, o + k * 6 + 3, none⟩ = some (.int .u8 v.b) ∧ w.cell? ⟨g, o + k * 6 + 4, none⟩ = some (.string v.s) ∧ w.cell? ⟨g, o + k * 6 + 5, none⟩ = some (.int .i64 v.p) := by
 rcases h.1 with h | ⟨g, o, hA, hg, hc⟩
 ·
  rw [h] at hv; simp at hv
 ·
  exact ⟨g, o, hA, hg, hc k v hv 0 _ rfl, hc k v hv 1 _ rfl, hc k v hv 2 _ rfl, hc k v hv 3 _ rfl, hc k v hv 4 _ rfl, hc k v hv 5 _ rfl⟩
theorem VS.news {w : World} {B : Nat} {ad : Addr} {L : List VT} (h : VS w B (some ad) L) (j : Nat) (u : Value) (hu : (vrow L)[j]? = some u) : w.cell? (ad.add j) = some u := by
 rcases h.1 with h | ⟨g, o, hA, hg, hc⟩
 ·
  rw [h] at hu; simp [vrow] at hu
 ·
  obtain rfl := Option.some.inj hA
  have hj : j < L.length * 6 := by rw [← vrow_len]; exact lt_of_some hu
  have hk : j / 6 < L.length := by omega
  have h1 := vrow_at L (j / 6) _ (List.getElem?_eq_getElem hk) (j % 6) (Nat.mod_lt _ (by decide))
  rw [show j / 6 * 6 + j % 6 = j by omega, hu] at h1
  have h2 := hc (j / 6) _ (List.getElem?_eq_getElem hk) (j % 6) u h1.symm
  rw [show o + j / 6 * 6 + j % 6 = o + j by omega] at h2
  rw [Addr.add_lit]
  exact h2
structure FM where
 A1 : Option Addr
 n1 : Nat
 c1 : Nat
 A2 : Option Addr
 n2 : Nat
 c2 : Nat
 u : Bool
 P : List VT
 Q : List VT
structure FM.ok (w : World) (f : FM) : Prop where
 vp : VS w w.heap.size f.A1 f.P
 vq : VS w w.heap.size f.A2 f.Q
 lp : f.P.length = f.n1
 lq : f.Q.length = f.n2
 l1 : f.n1 ≤ f.c1
 x1 : f.c1 ≤ 9223372036854775807
 l2 : f.n2 ≤ f.c2
 x2 : f.c2 ≤ 9223372036854775807
theorem FM.ok.up {w w' : World} {f : FM} (h : FM.ok w f) (hb : Below w.heap.size w w') : FM.ok w' f := ⟨h.vp.up hb, h.vq.up hb, h.lp, h.lq, h.l1, h.x1, h.l2, h.x2⟩
def fmZ : FM := ⟨none, 0, 0, none, 0, 0, false, [], []⟩
end Go.Proofs.YtalejaklggnnpaaGreatDoor.I
