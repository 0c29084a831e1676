import Derived.Test.YtalejaklggnnpaaGreatDoorCk
/- Layer 9: what Check says, pure; stack maps and lines in memory. -/
namespace Go.Proofs.YtalejaklggnnpaaGreatDoor.I
open Go.ChangeShapes Go.WideShapes Go.ChangeAt Go.RowKit Go.PlainAid
set_option linter.unusedSimpArgs false
set_option linter.unusedVariables false
/-- a stack map -/
structure SM where
 x : Int
 f : FM
def SMs (w : World) (A : Option Addr) (L : List SM) : Prop :=
 L = [] ∨ ∃ g o, A = some ⟨g, o, none⟩ ∧ g < w.heap.size ∧ ∀ (k : Nat) (m : SM), L[k]? = some m → m.f.ok w ∧ w.cell? ⟨g, o + k * 4, none⟩ = some (.int .i64 m.x) ∧ w.cell? ⟨g, o + k * 4 + 1, none⟩ = some (.slice m.f.A1 m.f.n1 m.f.c1) ∧ w.cell? ⟨g, o + k * 4 + 2, none⟩ = some (.slice m.f.A2 m.f.n2 m.f.c2) ∧ w.cell? ⟨g, o + k * 4 + 3, none⟩ = some (.bool m.f.u)
theorem SMs.up {w w' : World} {A : Option Addr} {L : List SM} (h : SMs w A L) (hb : Below w.heap.size w w') : SMs w' A L := by
 rcases h with h | ⟨g, o, hA, hg, hc⟩
 ·
  exact Or.inl h
 ·
  refine Or.inr ⟨g, o, hA, Nat.lt_of_lt_of_le hg hb.size, fun k m hm => ?_⟩
  have e := fun j => hb.cell (p := ⟨g, j, none⟩) hg
  obtain ⟨z, c0, c1, c2, c3⟩ := hc k m hm
  exact ⟨z.up hb, (e _).trans c0, (e _).trans c1, (e _).trans c2, (e _).trans c3⟩
def Lns (w : World) (A : Option Addr) (L : List (Int × Int)) : Prop :=
 L = [] ∨ ∃ g o, A = some ⟨g, o, none⟩ ∧ g < w.heap.size ∧ ∀ (k : Nat) (p : Int × Int), L[k]? = some p → w.cell? ⟨g, o + k * 2, none⟩ = some (.int .i64 p.1) ∧ w.cell? ⟨g, o + k * 2 + 1, none⟩ = some (.int .i64 p.2)
theorem Lns.up {w w' : World} {A : Option Addr} {L : List (Int × Int)} (h : Lns w A L) (hb : Below w.heap.size w w') : Lns w' A L := by
 rcases h with h | ⟨g, o, hA, hg, hc⟩
 ·
  exact Or.inl h
 ·
  refine Or.inr ⟨g, o, hA, Nat.lt_of_lt_of_le hg hb.size, fun k m hm => ?_⟩
  have e := fun j => hb.cell (p := ⟨g, j, none⟩) hg
  obtain ⟨c0, c1⟩ := hc k m hm
  exact ⟨(e _).trans c0, (e _).trans c1⟩
/-- code in memory, with its stack maps and lines -/
structure Cd.m9 (w : World) (c : Cd) (ms : List SM) (ls : List (Int × Int)) : Prop where
 c9 : c.c9 w
 ml : ms.length = c.mn
 mw : SMs w c.mA ms
 mb : c.mn ≤ 1000000
 ll : ls.length = c.ln
 lw : Lns w c.lA ls
 lb : c.ln ≤ 1000000
theorem Cd.m9.up {w w' : World} {c : Cd} {ms : List SM} {ls : List (Int × Int)} (h : c.m9 w ms ls) (hb : Below w.heap.size w w') : c.m9 w' ms ls := ⟨h.c9.up hb, h.ml, h.mw.up hb, h.mb, h.ll, h.lw.up hb, h.lb⟩
def nzI (L : List Cn) (c : Cd) (i : In) : Bool := inE L c i != 0
def nhB (L : List Cn) (c : Cd) (h : Hd) : Bool := !hlB L c h
/-- stack map j is wrong -/
def smP (L : List Cn) (c : Cd) (ms : List SM) (j : Nat) : Bool :=
 match ms[j]? with
 | some m => (match j with | 0 => false | q + 1 => (match ms[q]? with | some p => decide (m.x ≤ p.x) | none => false)) || !mpB L c m.x m.f
 | none => false
/-- line j is wrong -/
def lnP (c : Cd) (ls : List (Int × Int)) (j : Nat) : Bool :=
 match ls[j]? with
 | some m => (match j with | 0 => false | q + 1 => (match ls[q]? with | some p => decide (m.1 ≤ p.1) | none => false)) || (!exB c.n m.1 || (decide (m.2 < 0) || decide (65535 < m.2)))
 | none => false
theorem smP_0 {L : List Cn} {c : Cd} {ms : List SM} {m : SM} (h : ms[0]? = some m) : smP L c ms 0 = !mpB L c m.x m.f := by unfold smP; rw [h]; rfl
theorem smP_s {L : List Cn} {c : Cd} {ms : List SM} {m p : SM} {q : Nat} (h : ms[q + 1]? = some m) (hp : ms[q]? = some p) : smP L c ms (q + 1) = (decide (m.x ≤ p.x) || !mpB L c m.x m.f) := by unfold smP; rw [h]; simp only [hp]
theorem lnP_0 {c : Cd} {ls : List (Int × Int)} {m : Int × Int} (h : ls[0]? = some m) : lnP c ls 0 = (!exB c.n m.1 || (decide (m.2 < 0) || decide (65535 < m.2))) := by unfold lnP; rw [h]; rfl
theorem lnP_s {c : Cd} {ls : List (Int × Int)} {m p : Int × Int} {q : Nat} (h : ls[q + 1]? = some m) (hp : ls[q]? = some p) : lnP c ls (q + 1) = (decide (m.1 ≤ p.1) || (!exB c.n m.1 || (decide (m.2 < 0) || decide (65535 < m.2)))) := by unfold lnP; rw [h]; simp only [hp]
theorem fi_here {α : Type} {p : α → Bool} {l : List α} {k : Nat} {x : α} (h : (l.take k).any p = false) (hk : l[k]? = some x) (hx : p x = true) : l.findIdx p = k := by
 have hl := get_ltF hk
 rw [List.findIdx_eq hl]
 have hx2 : l[k] = x := by rw [List.getElem?_eq_getElem hl] at hk; exact Option.some.inj hk
 refine ⟨by rw [hx2]; exact hx, fun j hj => ?_⟩
 rw [List.any_eq_false] at h
 have := h l[j] (by rw [List.mem_take_iff_getElem]; exact ⟨j, by omega, rfl⟩)
 simpa using this
theorem ra_here {p : Nat → Bool} {n k : Nat} (h : (List.range k).any p = false) (hk : k < n) (hx : p k = true) : (List.range n).findIdx p = k := by
 refine fi_here (x := k) ?_ (by rw [List.getElem?_range hk]) hx
 rw [List.take_range, Nat.min_eq_left (by omega)]; exact h
theorem ra_succ {p : Nat → Bool} {k : Nat} (h : (List.range k).any p = false) (hx : p k = false) : (List.range (k + 1)).any p = false := by
 rw [List.range_succ, List.any_append, h]; simp [hx]
theorem pq9 {p : Int × Int} {a b x y : Int} (h : p = (a, b)) (h1 : p = (x, y)) : a = x ∧ b = y := by rw [h] at h1; injection h1 with e1 e2; exact ⟨e1, e2⟩
theorem szn {L : List Cn} {c : Cd} (h : szE L c = 0) : 1 ≤ c.n ∧ c.n ≤ 1000 := by
 unfold szE at h
 split at h
 ·
  rename_i h1; simp at h1; omega
 ·
  split at h
  ·
   omega
  ·
   split at h
   ·
    omega
   ·
    omega
theorem two_cells9 {W : World} {B : Nat} {a b : Value} {t : TypeId} (hh : W.heap[B]? = some (.cells #[a, b] t)) : W.cell? ⟨B, 0, none⟩ = some a ∧ W.cell? ⟨B, 1, none⟩ = some b := by
 refine ⟨?_, ?_⟩ <;> simp [World.cell?, hh]
def lastT (c : Cd) : Bool := match c.is[c.n - 1]? with | some i => termB i.op | none => false
/-- what code.Check says -/
def ckC (L : List Cn) (c : Cd) (ms : List SM) (ls : List (Int × Int)) : Int × Int :=
 if szE L c ≠ 0 then (0, szE L c)
 else if c.is.any (nzI L c) = true then ((c.is.findIdx (nzI L c) : Int), match c.is[c.is.findIdx (nzI L c)]? with | some i => inE L c i | none => 0)
 else if lastT c = false then ((c.n : Int) - 1, 18)
 else if 32 < c.hn then (0, 5)
 else if c.hs.any (nhB L c) = true then ((c.hs.findIdx (nhB L c) : Int), 17)
 else if (List.range c.mn).any (smP L c ms) = true then (((List.range c.mn).findIdx (smP L c ms) : Int), 25)
 else if (List.range c.ln).any (lnP c ls) = true then (((List.range c.ln).findIdx (lnP c ls) : Int), 1)
 else (0, 0)
section
variable {L : List Cn} {c : Cd} {ms : List SM} {ls : List (Int × Int)}
theorem cc_1 (h : ¬ szE L c = 0) : ckC L c ms ls = (0, szE L c) := by unfold ckC; rw [if_pos h]
theorem cc_2 {k : Nat} {i : In} (h : szE L c = 0) (h1 : (c.is.take k).any (nzI L c) = false) (hi : c.is[k]? = some i) (hx : nzI L c i = true) : ckC L c ms ls = ((k : Int), inE L c i) := by
 unfold ckC; rw [if_neg (fun e => e h), if_pos (any_of hi hx), fi_here h1 hi hx, hi]
theorem cc_3 (h : szE L c = 0) (h1 : c.is.any (nzI L c) = false) (h2 : lastT c = false) : ckC L c ms ls = ((c.n : Int) - 1, 18) := by
 unfold ckC; rw [if_neg (fun e => e h), h1, if_neg (by decide), if_pos h2]
theorem cc_4 (h : szE L c = 0) (h1 : c.is.any (nzI L c) = false) (h2 : lastT c = true) (h3 : 32 < c.hn) : ckC L c ms ls = (0, 5) := by
 unfold ckC; rw [if_neg (fun e => e h), h1, if_neg (by decide), h2, if_neg (by decide), if_pos h3]
theorem cc_5 {k : Nat} {x : Hd} (h : szE L c = 0) (h1 : c.is.any (nzI L c) = false) (h2 : lastT c = true) (h3 : ¬ 32 < c.hn) (h4 : (c.hs.take k).any (nhB L c) = false) (hi : c.hs[k]? = some x) (hx : nhB L c x = true) : ckC L c ms ls = ((k : Int), 17) := by
 unfold ckC; rw [if_neg (fun e => e h), h1, if_neg (by decide), h2, if_neg (by decide), if_neg h3, if_pos (any_of hi hx), fi_here h4 hi hx]
theorem cc_6 {k : Nat} (h : szE L c = 0) (h1 : c.is.any (nzI L c) = false) (h2 : lastT c = true) (h3 : ¬ 32 < c.hn) (h4 : c.hs.any (nhB L c) = false) (h5 : (List.range k).any (smP L c ms) = false) (hk : k < c.mn) (hx : smP L c ms k = true) : ckC L c ms ls = ((k : Int), 25) := by
 unfold ckC; rw [if_neg (fun e => e h), h1, if_neg (by decide), h2, if_neg (by decide), if_neg h3, h4, if_neg (by decide), if_pos (List.any_eq_true.2 ⟨k, List.mem_range.2 hk, hx⟩), ra_here h5 hk hx]
theorem cc_7 {k : Nat} (h : szE L c = 0) (h1 : c.is.any (nzI L c) = false) (h2 : lastT c = true) (h3 : ¬ 32 < c.hn) (h4 : c.hs.any (nhB L c) = false) (h5 : (List.range c.mn).any (smP L c ms) = false) (h6 : (List.range k).any (lnP c ls) = false) (hk : k < c.ln) (hx : lnP c ls k = true) : ckC L c ms ls = ((k : Int), 1) := by
 unfold ckC; rw [if_neg (fun e => e h), h1, if_neg (by decide), h2, if_neg (by decide), if_neg h3, h4, if_neg (by decide), h5, if_neg (by decide), if_pos (List.any_eq_true.2 ⟨k, List.mem_range.2 hk, hx⟩), ra_here h6 hk hx]
theorem cc_8 (h : szE L c = 0) (h1 : c.is.any (nzI L c) = false) (h2 : lastT c = true) (h3 : ¬ 32 < c.hn) (h4 : c.hs.any (nhB L c) = false) (h5 : (List.range c.mn).any (smP L c ms) = false) (h6 : (List.range c.ln).any (lnP c ls) = false) : ckC L c ms ls = (0, 0) := by
 unfold ckC; rw [if_neg (fun e => e h), h1, if_neg (by decide), h2, if_neg (by decide), if_neg h3, h4, if_neg (by decide), h5, if_neg (by decide), h6, if_neg (by decide)]
end
end Go.Proofs.YtalejaklggnnpaaGreatDoor.I
