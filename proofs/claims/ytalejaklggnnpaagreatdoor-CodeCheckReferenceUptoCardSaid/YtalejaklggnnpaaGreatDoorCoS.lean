import Derived.Test.YtalejaklggnnpaaGreatDoorCn
import Derived.BigQuiet
import Derived.Test.YtalejaklggnnpaaGreatDoorCxk
/- Layer 9: few; CodeBlocksReference. (Written by gen/co.py.) -/
namespace Go.Proofs.YtalejaklggnnpaaGreatDoor.I
open Go.ChangeShapes Go.WideShapes Go.ChangeAt Go.RowKit Go.PlainAid
set_option linter.unusedSimpArgs false
set_option linter.unusedVariables false
/-- code as a parameter hands it over -/
structure Cd.raw9 (w : World) (c : Cd) : Prop where
 il : c.is.length = c.n
 iw : Ins w w.heap.size c.iA c.is
 ib : c.n ≤ 9223372036854775807
 hl : c.hs.length = c.hn
 hw : Hds w w.heap.size c.hA c.hs
 hb : c.hn ≤ 9223372036854775807
 nz : ∀ i ∈ c.is, i.nz
 tn : ∀ i ∈ c.is, i.tn ≤ 17592186043904
theorem Cd.raw9.up {w w' : World} {c : Cd} (h : c.raw9 w) (hb : Below w.heap.size w w') : c.raw9 w' := ⟨h.il, h.iw.up hb, h.ib, h.hl, h.hw.up hb, h.hb, h.nz, h.tn⟩
def fwP (n : Nat) (c : Cd) : Prop := n ≤ 1100 ∧ c.n ≤ 1100 ∧ c.hn ≤ 100 ∧ c.mn ≤ 200 ∧ c.ln ≤ 200
instance (n : Nat) (c : Cd) : Decidable (fwP n c) := by unfold fwP; infer_instance
theorem Cd.raw9.ok {w : World} {c : Cd} {n : Nat} (h : c.raw9 w) (hf : fwP n c) : c.c9 w := ⟨h.il, h.iw, by have := hf.2.1; omega, h.hl, h.hw, by have := hf.2.2.1; omega, h.nz, h.tn⟩
set_option maxRecDepth 100000 in
set_option maxHeartbeats 8000000 in
theorem few9_any (A : Option Addr) (n cap : Nat) (c : Cd) (w : World) : Calls Tryz.prog 8 #[.slice A n cap, (Value.agg #[Value.int IntKind.i64 (Cd.st c), Value.int IntKind.i64 (Cd.lo c), Value.slice (Cd.iA c) (Cd.n c) (Cd.ic c), Value.slice (Cd.hA c) (Cd.hn c) (Cd.hc c), Value.slice (Cd.mA c) (Cd.mn c) (Cd.mc c), Value.slice (Cd.lA c) (Cd.ln c) (Cd.lc c)])] w fun e w' => e = .returned (.bool (decide (fwP n c))) ∧ Below w.heap.size w w' := by
 have hB : Below w.heap.size w w := Below.refl _ _
 obtain ⟨r, hr⟩ : ∃ r, decide (fwP n c) = r := ⟨_, rfl⟩
 have HR := Lib.hid hr
 rw [hr]
 clear hr
 by_cases h : fwP n c
 ·
  have H := Lib.hid (decide_eq_true h)
  obtain ⟨h1, h2, h3, h4, h5⟩ := h
  go_enter Tryz.func8, Tryz.ntmps8
  go_upto_region 1 with fail
  have R := World.alloc_heap_new w (.cells #[.int .i64 c.st, .int .i64 c.lo, .slice c.iA c.n c.ic, .slice c.hA c.hn c.hc, .slice c.mA c.mn c.mc, .slice c.lA c.ln c.lc] 28)
  replace hB := below_al hB (.cells #[.int .i64 c.st, .int .i64 c.lo, .slice c.iA c.n c.ic, .slice c.hA c.hn c.hc, .slice c.mA c.mn c.mc, .slice c.lA c.ln c.lc] 28)
  generalize w.alloc (.cells #[.int .i64 c.st, .int .i64 c.lo, .slice c.iA c.n c.ic, .slice c.hA c.hn c.hc, .slice c.mA c.mn c.mc, .slice c.lA c.ln c.lc] 28) = W1 at R hB ⊢
  obtain ⟨r0, r1, r2, r3, r4, r5⟩ := six_cells R
  have y1 := lt_heap R
  replace R := Lib.hid R
  go_wp2
  go_ret
  exact ⟨by rw [← HR.out, H.out]; exact congrArg (fun b => Ending.returned (Value.bool b)) (decide_eq_true (by omega)), hB⟩
 ·
  have H := Lib.hid (decide_eq_false h)
  unfold fwP at h
  go_enter Tryz.func8, Tryz.ntmps8
  go_upto_region 1 with fail
  have R := World.alloc_heap_new w (.cells #[.int .i64 c.st, .int .i64 c.lo, .slice c.iA c.n c.ic, .slice c.hA c.hn c.hc, .slice c.mA c.mn c.mc, .slice c.lA c.ln c.lc] 28)
  replace hB := below_al hB (.cells #[.int .i64 c.st, .int .i64 c.lo, .slice c.iA c.n c.ic, .slice c.hA c.hn c.hc, .slice c.mA c.mn c.mc, .slice c.lA c.ln c.lc] 28)
  generalize w.alloc (.cells #[.int .i64 c.st, .int .i64 c.lo, .slice c.iA c.n c.ic, .slice c.hA c.hn c.hc, .slice c.mA c.mn c.mc, .slice c.lA c.ln c.lc] 28) = W1 at R hB ⊢
  obtain ⟨r0, r1, r2, r3, r4, r5⟩ := six_cells R
  have y1 := lt_heap R
  replace R := Lib.hid R
  by_cases h1 : n ≤ 1100
  ·
   by_cases h2 : c.n ≤ 1100
   ·
    by_cases h3 : c.hn ≤ 100
    ·
     by_cases h4 : c.mn ≤ 200
     ·
      have h5 : ¬ c.ln ≤ 200 := fun h5 => h ⟨h1, h2, h3, h4, h5⟩
      go_wp2
      go_ret
      exact ⟨by rw [← HR.out, H.out]; exact congrArg (fun b => Ending.returned (Value.bool b)) (decide_eq_false (by omega)), hB⟩
     ·
      go_wp2
      go_ret
      exact ⟨by rw [← HR.out, H.out]; rfl, hB⟩
    ·
     go_wp2
     go_ret
     exact ⟨by rw [← HR.out, H.out]; rfl, hB⟩
   ·
    go_wp2
    go_ret
    exact ⟨by rw [← HR.out, H.out]; rfl, hB⟩
  ·
   go_wp2
   go_ret
   exact ⟨by rw [← HR.out, H.out]; rfl, hB⟩
theorem few9_yes {A : Option Addr} {n cap : Nat} {c : Cd} (w : World) (h : fwP n c) : Calls Tryz.prog 8 #[.slice A n cap, (Value.agg #[Value.int IntKind.i64 (Cd.st c), Value.int IntKind.i64 (Cd.lo c), Value.slice (Cd.iA c) (Cd.n c) (Cd.ic c), Value.slice (Cd.hA c) (Cd.hn c) (Cd.hc c), Value.slice (Cd.mA c) (Cd.mn c) (Cd.mc c), Value.slice (Cd.lA c) (Cd.ln c) (Cd.lc c)])] w fun e w' => e = .returned (.bool true) ∧ Below w.heap.size w w' := by
 have := few9_any A n cap c w; rwa [decide_eq_true h] at this
theorem few9_no {A : Option Addr} {n cap : Nat} {c : Cd} (w : World) (h : ¬ fwP n c) : Calls Tryz.prog 8 #[.slice A n cap, (Value.agg #[Value.int IntKind.i64 (Cd.st c), Value.int IntKind.i64 (Cd.lo c), Value.slice (Cd.iA c) (Cd.n c) (Cd.ic c), Value.slice (Cd.hA c) (Cd.hn c) (Cd.hc c), Value.slice (Cd.mA c) (Cd.mn c) (Cd.mc c), Value.slice (Cd.lA c) (Cd.ln c) (Cd.lc c)])] w fun e w' => e = .returned (.bool false) ∧ Below w.heap.size w w' := by
 have := few9_any A n cap c w; rwa [decide_eq_false h] at this
end Go.Proofs.YtalejaklggnnpaaGreatDoor.I
/- Layer 9: CodeValidIndexes. (Written by gen/cr.py.) -/
namespace Go.Proofs.YtalejaklggnnpaaGreatDoor.I
open Go.ChangeShapes Go.WideShapes Go.ChangeAt Go.RowKit Go.PlainAid
set_option linter.unusedSimpArgs false
set_option linter.unusedVariables false
/-- code as a parameter hands it over, with its stack maps and lines -/
structure Cd.rawm (w : World) (c : Cd) (ms : List SM) (ls : List (Int × Int)) : Prop where
 raw : c.raw9 w
 ml : ms.length = c.mn
 mw : SMs w c.mA ms
 ll : ls.length = c.ln
 lw : Lns w c.lA ls
theorem Cd.rawm.m9 {w : World} {c : Cd} {ms : List SM} {ls : List (Int × Int)} {n : Nat} (h : c.rawm w ms ls) (hf : fwP n c) : c.m9 w ms ls :=
 ⟨h.raw.ok hf, h.ml, h.mw, by have := hf.2.2.2.1; omega, h.ll, h.lw, by have := hf.2.2.2.2; omega⟩
/-- what code that Check accepts has -/
structure Okc (L : List Cn) (c : Cd) (ms : List SM) (ls : List (Int × Int)) : Prop where
 sz : szE L c = 0
 an : c.is.any (nzI L c) = false
 la : lastT c = true
 h32 : ¬ 32 < c.hn
 ah : c.hs.any (nhB L c) = false
 sm : (List.range c.mn).any (smP L c ms) = false
 ln : (List.range c.ln).any (lnP c ls) = false
theorem any_no {α : Type} {p : α → Bool} {l : List α} (h : l.any p = false) {x : α} (hx : x ∈ l) : p x = false := by
 rw [List.any_eq_false] at h
 have := h x hx
 simpa using this
theorem Okc.hd {L : List Cn} {c : Cd} {ms : List SM} {ls : List (Int × Int)} (h : Okc L c ms ls) {x : Hd} (hx : x ∈ c.hs) : 0 ≤ x.f ∧ x.f < x.t ∧ x.t ≤ (c.n : Int) ∧ 0 ≤ x.g ∧ x.g < (c.n : Int) := by
 have h1 := any_no h.ah hx
 unfold nhB at h1
 have h2 : hlB L c x = true := by simpa using h1
 have h3 : ¬ (x.f < 0 ∨ x.t ≤ x.f ∨ (c.n : Int) < x.t ∨ exB c.n x.g = false ∨ ¬ x.s.toList = []) := by
  intro e; rw [hl_1 e] at h2; cases h2
 have h4 : exB c.n x.g = true := by
  cases h5 : exB c.n x.g with
  | true => rfl
  | false => exact absurd (Or.inr (Or.inr (Or.inr (Or.inl h5)))) h3
 have h5 := ex_iff.1 h4
 omega
theorem okc_mp {L : List Cn} {c : Cd} {x : Int} {f : FM} (h : mpB L c x f = true) : exB c.n x = true := by
 cases h5 : exB c.n x with
 | true => rfl
 | false => rw [mp_1 (Or.inl h5)] at h; cases h
theorem Okc.s0 {L : List Cn} {c : Cd} {ms : List SM} {ls : List (Int × Int)} (h : Okc L c ms ls) {k : Nat} {m : SM} (hk : k < c.mn) (hm : ms[k]? = some m) : exB c.n m.x = true := by
 have h1 := any_no h.sm (List.mem_range.2 hk)
 cases k with
 | zero => rw [smP_0 hm] at h1; exact okc_mp (by simpa using h1)
 | succ q =>
  unfold smP at h1
  rw [hm] at h1
  simp only [Bool.or_eq_false_iff] at h1
  exact okc_mp (by simpa using h1.2)
theorem Okc.s1 {L : List Cn} {c : Cd} {ms : List SM} {ls : List (Int × Int)} (h : Okc L c ms ls) {q : Nat} {m p : SM} (hk : q + 1 < c.mn) (hm : ms[q + 1]? = some m) (hp : ms[q]? = some p) : decide (m.x ≤ p.x) = false := by
 have h1 := any_no h.sm (List.mem_range.2 hk)
 rw [smP_s hm hp, Bool.or_eq_false_iff] at h1
 exact h1.1
theorem Okc.last {L : List Cn} {c : Cd} {ms : List SM} {ls : List (Int × Int)} (h : Okc L c ms ls) : ∃ i, c.is[c.n - 1]? = some i ∧ termB i.op = true := by
 have h1 := h.la
 unfold lastT at h1
 cases h2 : c.is[c.n - 1]? with
 | none => rw [h2] at h1; cases h1
 | some i => rw [h2] at h1; exact ⟨i, rfl, h1⟩
end Go.Proofs.YtalejaklggnnpaaGreatDoor.I
/- Layer 9: the law CodeCheckReference. -/
namespace Go.Proofs.YtalejaklggnnpaaGreatDoor.I
open Go.ChangeShapes Go.WideShapes Go.ChangeAt Go.RowKit Go.PlainAid
set_option linter.unusedSimpArgs false
set_option linter.unusedVariables false
set_option maxRecDepth 100000 in
set_option maxHeartbeats 8000000 in
theorem chkref_law {A : Option Addr} {n cap : Nat} {L : List Cn} (c : Cd) (ms : List SM) (ls : List (Int × Int)) (w : World) (hS : Short L) (hn : L.length = n) (hp : Pool w w.heap.size A L) (hok : c.rawm w ms ls) : Calls Tryz.prog 3 #[.slice A n cap, (Value.agg #[Value.int IntKind.i64 (Cd.st c), Value.int IntKind.i64 (Cd.lo c), Value.slice (Cd.iA c) (Cd.n c) (Cd.ic c), Value.slice (Cd.hA c) (Cd.hn c) (Cd.hc c), Value.slice (Cd.mA c) (Cd.mn c) (Cd.mc c), Value.slice (Cd.lA c) (Cd.ln c) (Cd.lc c)])] w fun e w' => e = .returned (.bool true) ∧ Below w.heap.size w w' := by
 have hB : Below w.heap.size w w := Below.refl _ _
 have OK := Lib.hid hok
 have HP := Lib.hid hp
 have HN := Lib.hid hn
 have HS := Lib.hid hS
 clear hok hp hn hS
 by_cases hf : fwP n c
 ·
  have HF := Lib.hid hf
  have OKM := Lib.hid (OK.out.m9 hf)
  have hN : n ≤ 100000 := by have := hf.1; omega
  clear hf
  obtain ⟨E, hE⟩ : ∃ E, (ckC L c ms ls).2 = E := ⟨_, rfl⟩
  obtain ⟨K, hK⟩ : ∃ K, (ckC L c ms ls).1 = K := ⟨_, rfl⟩
  have K1 := Lib.hid (fun (W : World) (hW : Below w.heap.size w W) => by
   have := chk9_any (cap := cap) c ms ls W (short_fits HS.out) HN.out hN (HP.out.up hW) (OKM.out.up hW)
   rw [hE, hK] at this
   exact this)
  have K2 := Lib.hid (fun (W : World) (hW : Below w.heap.size w W) => by
   have := r9chk_any (cap := cap) c ms ls W HS.out HN.out hN (HP.out.up hW) (OKM.out.up hW)
   rw [hE, hK] at this
   exact this)
  clear hE hK
  go_enter Tryz.func3, Tryz.ntmps3
  go_upto_region 1 with fail
  have R := World.alloc_heap_new w (.cells #[.int .i64 c.st, .int .i64 c.lo, .slice c.iA c.n c.ic, .slice c.hA c.hn c.hc, .slice c.mA c.mn c.mc, .slice c.lA c.ln c.lc] 28)
  replace hB := below_al hB (.cells #[.int .i64 c.st, .int .i64 c.lo, .slice c.iA c.n c.ic, .slice c.hA c.hn c.hc, .slice c.mA c.mn c.mc, .slice c.lA c.ln c.lc] 28)
  generalize w.alloc (.cells #[.int .i64 c.st, .int .i64 c.lo, .slice c.iA c.n c.ic, .slice c.hA c.hn c.hc, .slice c.mA c.mn c.mc, .slice c.lA c.ln c.lc] 28) = W1 at R hB ⊢
  obtain ⟨r0, r1, r2, r3, r4, r5⟩ := six_cells R
  have y1 := lt_heap R
  replace R := Lib.hid R
  go_upto_region 3 with (go_at_call 8; refine (few9_yes _ HF.out).mono ?_; rintro e w1 ⟨rfl, hb1⟩)
  have HB1 := Lib.hid (below_on hB hb1)
  have RB := Lib.hid ((hb1.block _ y1).trans R.out)
  clear r0 r1 r2 r3 r4 r5 y1 R hb1 hB
  clear W1
  obtain ⟨r0, r1, r2, r3, r4, r5⟩ := six_cells RB.out
  have yr := lt_heap RB.out
  go_upto_region 4 with (go_at_call 10; (with_reducible refine (K1.out _ HB1.out).mono ?_); rintro e w2 ⟨rfl, hb2⟩)
  have HB2 := Lib.hid (below_on HB1.out hb2)
  have RB2 := Lib.hid ((hb2.block _ yr).trans RB.out)
  clear r0 r1 r2 r3 r4 r5 yr RB hb2 HB1
  obtain ⟨r0, r1, r2, r3, r4, r5⟩ := six_cells RB2.out
  have yr := lt_heap RB2.out
  go_upto_region 5 with (go_at_call 11; (with_reducible refine (K2.out _ HB2.out).mono ?_); rintro e w3 ⟨rfl, hb3⟩)
  have HB3 := Lib.hid (below_on HB2.out hb3)
  clear r0 r1 r2 r3 r4 r5 yr RB2 hb3 HB2
  go_wp2_with (go_at_call 9; refine (awake9_any _).mono ?_; rintro e w4 ⟨rfl, hb4⟩)
  go_ret
  exact ⟨by simp, below_on HB3.out hb4⟩
 ·
  have HF := Lib.hid hf
  clear hf
  go_enter Tryz.func3, Tryz.ntmps3
  go_upto_region 1 with fail
  have R := World.alloc_heap_new w (.cells #[.int .i64 c.st, .int .i64 c.lo, .slice c.iA c.n c.ic, .slice c.hA c.hn c.hc, .slice c.mA c.mn c.mc, .slice c.lA c.ln c.lc] 28)
  replace hB := below_al hB (.cells #[.int .i64 c.st, .int .i64 c.lo, .slice c.iA c.n c.ic, .slice c.hA c.hn c.hc, .slice c.mA c.mn c.mc, .slice c.lA c.ln c.lc] 28)
  generalize w.alloc (.cells #[.int .i64 c.st, .int .i64 c.lo, .slice c.iA c.n c.ic, .slice c.hA c.hn c.hc, .slice c.mA c.mn c.mc, .slice c.lA c.ln c.lc] 28) = W1 at R hB ⊢
  obtain ⟨r0, r1, r2, r3, r4, r5⟩ := six_cells R
  have y1 := lt_heap R
  replace R := Lib.hid R
  go_wp2_with (first | (go_at_call 8; refine (few9_no _ HF.out).mono ?_; rintro e w1 ⟨rfl, hb1⟩) | (go_at_call 9; refine (awake9_any _).mono ?_; rintro e w2 ⟨rfl, hb2⟩))
  go_ret
  exact ⟨rfl, below_on (below_on hB hb1) hb2⟩
end Go.Proofs.YtalejaklggnnpaaGreatDoor.I
