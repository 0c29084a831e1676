/- Layer 9: CodeValidIndexes. (Written by gen/cr.py.) -/
import Derived.Test.YtdppooflbjlbcaaDoorCo
import Derived.BigQuiet
namespace Go.Proofs.YtdppooflbjlbcaaDoor.I
open Go.ChangeShapes Go.WideShapes Go.ChangeAt Go.RowKit Go.PlainAid
set_option linter.unusedSimpArgs false
set_option linter.unusedVariables false

/-- code as a parameter hands it over, with its stack maps and lines -/
structure Cd.rawm (w : World) (c : Cd) (ms : List SM) (ls : List (Int × Int)) : Prop where
  raw : c.raw9 w
  ml : ms.length = c.mn
  mw : SMs w c.mA ms
  ll : ls.length = c.ln
  lw : Lns w c.lA ls
theorem Cd.rawm.m9 {w : World} {c : Cd} {ms : List SM} {ls : List (Int × Int)} {n : Nat} (h : c.rawm w ms ls) (hf : fwP n c) : c.m9 w ms ls :=
  ⟨h.raw.ok hf, h.ml, h.mw, hf.2.2.2.1, h.ll, h.lw, hf.2.2.2.2⟩
/-- what code that Check accepts has -/
structure Okc (L : List Cn) (c : Cd) (ms : List SM) (ls : List (Int × Int)) : Prop where
  sz : szE L c = 0
  an : c.is.any (nzI L c) = false
  la : lastT c = true
  h32 : ¬ 32 < c.hn
  ah : c.hs.any (nhB L c) = false
  sm : (List.range c.mn).any (smP L c ms) = false
  ln : (List.range c.ln).any (lnP c ls) = false
theorem any_no {α : Type} {p : α → Bool} {l : List α} (h : l.any p = false) {x : α} (hx : x ∈ l) : p x = false := by
  rw [List.any_eq_false] at h
  have := h x hx
  simpa using this
theorem okc_of {L : List Cn} {c : Cd} {ms : List SM} {ls : List (Int × Int)} (h : (ckC L c ms ls).2 = 0) : Okc L c ms ls := by
  by_cases h1 : szE L c = 0
  · cases h2 : c.is.any (nzI L c) with
    | true =>
      exfalso
      unfold ckC at h
      rw [if_neg (fun e => e h1), if_pos h2] at h
      have hl : c.is.findIdx (nzI L c) < c.is.length := List.findIdx_lt_length_of_exists (by simpa using List.any_eq_true.1 h2)
      have hx := List.findIdx_getElem (p := nzI L c) (xs := c.is) (w := hl)
      rw [List.getElem?_eq_getElem hl] at h
      simp only at h
      unfold nzI at hx
      rw [bne_iff_ne] at hx
      exact hx h
    | false =>
      cases h3 : lastT c with
      | false => rw [cc_3 h1 h2 h3] at h; cases h
      | true =>
        by_cases h4 : 32 < c.hn
        · rw [cc_4 h1 h2 h3 h4] at h; cases h
        · cases h5 : c.hs.any (nhB L c) with
          | true =>
            exfalso
            unfold ckC at h
            rw [if_neg (fun e => e h1), h2, if_neg (by decide), h3, if_neg (by decide), if_neg h4, if_pos h5] at h
            cases h
          | false =>
            cases h6 : (List.range c.mn).any (smP L c ms) with
            | true =>
              exfalso
              unfold ckC at h
              rw [if_neg (fun e => e h1), h2, if_neg (by decide), h3, if_neg (by decide), if_neg h4, h5, if_neg (by decide), if_pos h6] at h
              cases h
            | false =>
              cases h7 : (List.range c.ln).any (lnP c ls) with
              | true =>
                exfalso
                unfold ckC at h
                rw [if_neg (fun e => e h1), h2, if_neg (by decide), h3, if_neg (by decide), if_neg h4, h5, if_neg (by decide), h6, if_neg (by decide), if_pos h7] at h
                cases h
              | false => exact ⟨h1, h2, h3, h4, h5, h6, h7⟩
  · rw [cc_1 h1] at h; exact absurd h h1
theorem okc_in {L : List Cn} {c : Cd} {i : In} (h : inE L c i = 0) : ciE i = 0 ∧ (tgL i).any (ouB c.n) = false := by
  by_cases h1 : ciE i = 0
  · cases h2 : (tgL i).any (ouB c.n) with
    | true => rw [in_2 h1 h2] at h; cases h
    | false => exact ⟨h1, rfl⟩
  · rw [in_1 h1] at h; exact absurd h h1
theorem Okc.tg {L : List Cn} {c : Cd} {ms : List SM} {ls : List (Int × Int)} (h : Okc L c ms ls) {i : In} (hi : i ∈ c.is) {t : Int} (ht : t ∈ tgL i) : exB c.n t = true := by
  have h1 := any_no h.an hi
  unfold nzI at h1
  have h2 := any_no (okc_in (show inE L c i = 0 by simpa using h1)).2 ht
  unfold ouB at h2
  simpa using h2
theorem Okc.hd {L : List Cn} {c : Cd} {ms : List SM} {ls : List (Int × Int)} (h : Okc L c ms ls) {x : Hd} (hx : x ∈ c.hs) : 0 ≤ x.f ∧ x.f < x.t ∧ x.t ≤ (c.n : Int) ∧ 0 ≤ x.g ∧ x.g < (c.n : Int) := by
  have h1 := any_no h.ah hx
  unfold nhB at h1
  have h2 : hlB L c x = true := by simpa using h1
  have h3 : ¬ (x.f < 0 ∨ x.t ≤ x.f ∨ (c.n : Int) < x.t ∨ exB c.n x.g = false ∨ ¬ x.s.toList = []) := by
    intro e; rw [hl_1 e] at h2; cases h2
  have h4 : exB c.n x.g = true := by
    cases h5 : exB c.n x.g with
    | true => rfl
    | false => exact absurd (Or.inr (Or.inr (Or.inr (Or.inl h5)))) h3
  have h5 := ex_iff.1 h4
  omega
theorem okc_mp {L : List Cn} {c : Cd} {x : Int} {f : FM} (h : mpB L c x f = true) : exB c.n x = true := by
  cases h5 : exB c.n x with
  | true => rfl
  | false => rw [mp_1 (Or.inl h5)] at h; cases h
theorem Okc.s0 {L : List Cn} {c : Cd} {ms : List SM} {ls : List (Int × Int)} (h : Okc L c ms ls) {k : Nat} {m : SM} (hk : k < c.mn) (hm : ms[k]? = some m) : exB c.n m.x = true := by
  have h1 := any_no h.sm (List.mem_range.2 hk)
  cases k with
  | zero => rw [smP_0 hm] at h1; exact okc_mp (by simpa using h1)
  | succ q =>
    unfold smP at h1
    rw [hm] at h1
    simp only [Bool.or_eq_false_iff] at h1
    exact okc_mp (by simpa using h1.2)
theorem Okc.s1 {L : List Cn} {c : Cd} {ms : List SM} {ls : List (Int × Int)} (h : Okc L c ms ls) {q : Nat} {m p : SM} (hk : q + 1 < c.mn) (hm : ms[q + 1]? = some m) (hp : ms[q]? = some p) : decide (m.x ≤ p.x) = false := by
  have h1 := any_no h.sm (List.mem_range.2 hk)
  rw [smP_s hm hp, Bool.or_eq_false_iff] at h1
  exact h1.1
theorem Okc.l0 {L : List Cn} {c : Cd} {ms : List SM} {ls : List (Int × Int)} (h : Okc L c ms ls) {k : Nat} {m : Int × Int} (hk : k < c.ln) (hm : ls[k]? = some m) : exB c.n m.1 = true := by
  have h1 := any_no h.ln (List.mem_range.2 hk)
  cases k with
  | zero =>
    rw [lnP_0 hm, Bool.or_eq_false_iff] at h1
    simpa using h1.1
  | succ q =>
    unfold lnP at h1
    rw [hm] at h1
    simp only [Bool.or_eq_false_iff] at h1
    simpa using h1.2.1
theorem Okc.last {L : List Cn} {c : Cd} {ms : List SM} {ls : List (Int × Int)} (h : Okc L c ms ls) : ∃ i, c.is[c.n - 1]? = some i ∧ termB i.op = true := by
  have h1 := h.la
  unfold lastT at h1
  cases h2 : c.is[c.n - 1]? with
  | none => rw [h2] at h1; cases h1
  | some i => rw [h2] at h1; exact ⟨i, rfl, h1⟩
theorem below_dr9 {w W : World} (h : Below w.heap.size w W) (q : Nat) : Below w.heap.size w (W.drewN q) := ⟨h.os, h.tape, h.output, h.size, h.block⟩
/-- inside answers true -/
theorem is_yes {x n : Int} (h0 : 0 ≤ x) (h1 : x < n) (w : World) : Calls Tryd.prog 19 #[.int .i64 x, .int .i64 n] w fun e w' => e = .returned (.bool true) ∧ w = w' := by
  go_enter Tryd.func19, Tryd.ntmps19
  go_wp2
  go_ret
  exact ⟨rfl, rfl⟩

set_option maxRecDepth 100000 in
set_option maxHeartbeats 16000000 in
theorem vi_law {A : Option Addr} {n cap : Nat} {L : List Cn} (c : Cd) (ms : List SM) (ls : List (Int × Int)) (w : World) (hS : Fits L) (hn : L.length = n) (hp : Pool w w.heap.size A L) (hok : c.rawm w ms ls) : Calls Tryd.prog 4 #[.slice A n cap, (Value.agg #[Value.int IntKind.i64 (Cd.st c), Value.int IntKind.i64 (Cd.lo c), Value.slice (Cd.iA c) (Cd.n c) (Cd.ic c), Value.slice (Cd.hA c) (Cd.hn c) (Cd.hc c), Value.slice (Cd.mA c) (Cd.mn c) (Cd.mc c), Value.slice (Cd.lA c) (Cd.ln c) (Cd.lc c)])] w fun e w' => e = .returned (.bool true) ∧ Below w.heap.size w w' := by
  have hB : Below w.heap.size w w := Below.refl _ _
  have OK := Lib.hid hok
  have HP := Lib.hid hp
  have HN := Lib.hid hn
  have HS := Lib.hid hS
  clear hok hp hn hS
  by_cases hf : fwP n c
  · have HF := Lib.hid hf
    have OKM := Lib.hid (OK.out.m9 hf)
    have hcn : c.n ≤ 1100 := hf.2.1
    have hch : c.hn ≤ 100 := hf.2.2.1
    have hcm : c.mn ≤ 200 := hf.2.2.2.1
    have hcl : c.ln ≤ 200 := hf.2.2.2.2
    have hN : n ≤ 100000 := by have := hf.1; omega
    clear hf
    obtain ⟨A9, hA9⟩ : ∃ A, c.iA = A := ⟨_, rfl⟩
    obtain ⟨A8, hA8⟩ : ∃ A, c.hA = A := ⟨_, rfl⟩
    obtain ⟨A7, hA7⟩ : ∃ A, c.mA = A := ⟨_, rfl⟩
    obtain ⟨A6, hA6⟩ : ∃ A, c.lA = A := ⟨_, rfl⟩
    have HA9 := Lib.hid hA9
    have HA8 := Lib.hid hA8
    have HA7 := Lib.hid hA7
    have HA6 := Lib.hid hA6
    clear hA9 hA8 hA7 hA6
    go_enter Tryd.func4, Tryd.ntmps4
    go_upto_region 1 with fail
    have R := World.alloc_heap_new w (.cells #[.int .i64 c.st, .int .i64 c.lo, .slice c.iA c.n c.ic, .slice c.hA c.hn c.hc, .slice c.mA c.mn c.mc, .slice c.lA c.ln c.lc] 27)
    replace hB := below_al hB (.cells #[.int .i64 c.st, .int .i64 c.lo, .slice c.iA c.n c.ic, .slice c.hA c.hn c.hc, .slice c.mA c.mn c.mc, .slice c.lA c.ln c.lc] 27)
    generalize w.alloc (.cells #[.int .i64 c.st, .int .i64 c.lo, .slice c.iA c.n c.ic, .slice c.hA c.hn c.hc, .slice c.mA c.mn c.mc, .slice c.lA c.ln c.lc] 27) = W1 at R hB ⊢
    obtain ⟨r0, r1, r2, r3, r4, r5⟩ := six_cells R
    have y1 := lt_heap R
    replace R := Lib.hid R
    go_upto_region 3 with (go_at_call 11; refine (few9_yes _ HF.out).mono ?_; rintro e w1 ⟨rfl, hb1⟩)
    have HB := Lib.hid (below_on hB hb1)
    have OKA := Lib.hid (OKM.out.up HB.out)
    have HPA := Lib.hid (HP.out.up HB.out)
    have RB := Lib.hid ((hb1.block _ y1).trans R.out)
    clear r0 r1 r2 r3 r4 r5 y1 R hb1 hB
    clear W1
    obtain ⟨r0, r1, r2, r3, r4, r5⟩ := six_cells RB.out
    have yr := lt_heap RB.out
    generalize hw1 : w1 = wA at HB OKA HPA RB r0 r1 r2 r3 r4 r5 yr ⊢
    clear hw1 w1
    obtain ⟨E, hE⟩ : ∃ E, (ckC L c ms ls).2 = E := ⟨_, rfl⟩
    obtain ⟨K, hK⟩ : ∃ K, (ckC L c ms ls).1 = K := ⟨_, rfl⟩
    have HC0 := chk9_any (cap := cap) c ms ls wA HS.out HN.out hN HPA.out OKA.out
    rw [hE, hK] at HC0
    have HC := Lib.hid HC0
    clear HC0 hK
    by_cases h0 : E = 0
    · subst h0
      have OC := Lib.hid (okc_of hE)
      clear hE
      go_upto_region 6 with (go_at_call 17; (with_reducible refine HC.out.mono ?_); rintro e w2 ⟨rfl, hb2⟩)
      have HB2 := Lib.hid (below_on HB.out hb2)
      have OKB := Lib.hid (OKA.out.up hb2)
      have RB2 := Lib.hid ((hb2.block _ yr).trans RB.out)
      clear r0 r1 r2 r3 r4 r5 yr RB OKA HPA HB HC hb2
      generalize hw2 : w2 = wB at RB2 HB2 OKB ⊢
      clear hw2
      obtain ⟨r0, r1, r2, r3, r4, r5⟩ := six_cells RB2.out
      have yr := lt_heap RB2.out
      go_upto_region 8 with fail
      clear r0 r1 r2 r3 r4 r5 yr
      go_loopw [8] (fun z wr => ∃ j : Nat, j ≤ c.n ∧ z = .int .i64 j ∧ Below wB.heap.size wB wr) (fun z _ => c.n - (intOf z).toNat)
      case atStart => exact ⟨0, Nat.zero_le _, rfl, Below.refl _ _⟩
      case round =>
        obtain ⟨j, hj, rfl, hbr⟩ := hrel
        have HBR := Lib.hid hbr
        have OKr := Lib.hid (OKB.out.up hbr)
        have RBr := Lib.hid ((hbr.block _ (lt_heap RB2.out)).trans RB2.out)
        clear hbr
        obtain ⟨r0, r1, r2, r3, r4, r5⟩ := six_cells RBr.out
        have yr := lt_heap RBr.out
        by_cases hlt : j < c.n
        · obtain ⟨i, hi⟩ := get_someF (l := c.is) (k := j) (by rw [OKr.out.c9.il]; exact hlt)
          have hiw := OKr.out.c9.iw
          rw [HA9.out] at hiw r2
          rcases hiw with h0 | ⟨g, o, rfl, hg, hcell⟩
          · rw [h0] at hi; simp at hi
          · obtain ⟨iok, a0, a1, a2, a3, a4, a5, a6, a7, a8, a9⟩ := hcell j _ hi
            have HIM := Lib.hid (List.mem_of_getElem? hi)
            have IOK := Lib.hid iok
            have hk0 : (0 : Int) ≤ (j : Int) := by omega
            have hk1 : (j : Int) < (c.n : Int) := by omega
            clear hcell iok hi
            go_upto_region 11 with (go_at_call 18; refine (tg_any i _ IOK.out (OKr.out.c9.nz i HIM.out) (OKr.out.c9.tn i HIM.out)).mono ?_; rintro e W3 ⟨A3, c3, rfl, hl3, hm3, hn3, hr3, hb3⟩)
            have HBR3 := Lib.hid (below_on HBR.out hb3)
            have HR3 := Lib.hid hr3
            clear hr3 a0 a1 a2 a3 a4 a5 a6 a7 a8 a9 hg r0 r1 r2 r3 r4 r5 yr IOK hb3
            obtain ⟨T, hT⟩ : ∃ T, tgL i = T := ⟨_, rfl⟩
            have HTT := Lib.hid (fun t (ht : t ∈ T) => OC.out.tg HIM.out (show t ∈ tgL i by rw [hT]; exact ht))
            rw [hT] at HR3 hl3
            rw [hT]
            obtain ⟨tn, htn⟩ : ∃ tn, T.length = tn := ⟨_, rfl⟩
            have HTN := Lib.hid htn
            rw [htn] at hl3 ⊢
            have htb : tn ≤ 9223372036854775807 := by have := hm3; unfold maxLen at this; omega
            clear hT htn
            go_wp2
            go_loopw [10] (fun z wr => ∃ k : Nat, k ≤ tn ∧ z = .int .i64 k ∧ Below W3.heap.size W3 wr) (fun z _ => tn - (intOf z).toNat)
            case atStart => exact ⟨0, Nat.zero_le _, rfl, Below.refl _ _⟩
            case round =>
              obtain ⟨k, hk, rfl, hbr3⟩ := hrel
              have HBK := Lib.hid hbr3
              have hrow := HR3.out.up hbr3
              clear hbr3
              by_cases hkt : k < tn
              · obtain ⟨t, ht⟩ := get_someF (l := T) (k := k) (by rw [HTN.out]; exact hkt)
                obtain ⟨gt, ot, rfl, hgt, hct⟩ := row_get hrow ht
                have htx := ex_iff.1 (HTT.out t (List.mem_of_getElem? ht))
                have hj0 : (0 : Int) ≤ (k : Int) := by omega
                have hj1 : (k : Int) < (tn : Int) := by omega
                clear ht hrow
                go_wp2_with (go_at_call 19; refine (is_yes htx.1 htx.2 _).mono ?_; rintro e w' ⟨rfl, rfl⟩)
                exact ⟨⟨k + 1, hkt, by go_num, HBK.out⟩, by simp [intOf]; omega⟩
              · obtain rfl : tn = k := by omega
                clear hrow
                go_wp2
                exact ⟨⟨j + 1, hlt, by go_num, below_on HBR3.out HBK.out⟩, by simp [intOf]; omega⟩
        · obtain ⟨hnj⟩ : c.n = j := by omega
          go_upto_region 17 with fail
          have HB3 := Lib.hid (below_on HB2.out HBR.out)
          have OK3 := Lib.hid OKr.out
          have RB3 := Lib.hid RBr.out
          clear r0 r1 r2 r3 r4 r5 yr HBR OKr RBr OKB RB2 HB2
          obtain ⟨wC, hwC⟩ : ∃ wC, wC = wr := ⟨_, rfl⟩
          subst hwC
          go_loopw [11] (fun z wr => ∃ j : Nat, j ≤ c.hn ∧ z = .int .i64 j ∧ Below wC.heap.size wC wr) (fun z _ => c.hn - (intOf z).toNat)
          case atStart => exact ⟨0, Nat.zero_le _, rfl, Below.refl _ _⟩
          case round =>
            obtain ⟨j, hj, rfl, hbr⟩ := hrel
            have HBR := Lib.hid hbr
            have OKr := Lib.hid (OK3.out.up hbr)
            have RBr := Lib.hid ((hbr.block _ (lt_heap RB3.out)).trans RB3.out)
            clear hbr
            obtain ⟨r0, r1, r2, r3, r4, r5⟩ := six_cells RBr.out
            have yr := lt_heap RBr.out
            by_cases hlt : j < c.hn
            · obtain ⟨h, hh⟩ := get_someF (l := c.hs) (k := j) (by rw [OKr.out.c9.hl]; exact hlt)
              have hhw := OKr.out.c9.hw
              rw [HA8.out] at hhw r3
              rcases hhw with h0 | ⟨g, o, rfl, hg, hcell⟩
              · rw [h0] at hh; simp at hh
              · obtain ⟨a0, a1, a2, a3, a4⟩ := hcell j _ hh
                obtain ⟨f0, f1, f2, f3, f4⟩ := OC.out.hd (List.mem_of_getElem? hh)
                have e3 : ¬ (c.n : Int) < h.t := by omega
                have hk0 : (0 : Int) ≤ (j : Int) := by omega
                have hk1 : (j : Int) < (c.hn : Int) := by omega
                have F0 := Lib.hid (fun W => is_yes f0 f1 W)
                have F1 := Lib.hid (fun W => is_yes f3 f4 W)
                clear hcell hh f0 f1 f2 f3 f4
                go_wp2_with (go_at_call 19; (first | (with_reducible refine (F0.out _).mono ?_) | (with_reducible refine (F1.out _).mono ?_)); rintro e w' ⟨rfl, rfl⟩)
                exact ⟨⟨j + 1, hlt, by go_num, below_al HBR.out _⟩, by simp [intOf]; omega⟩
            · obtain ⟨hnj⟩ : c.hn = j := by omega
              go_upto_region 23 with fail
              have HB4 := Lib.hid (below_on HB3.out HBR.out)
              have OK4 := Lib.hid OKr.out
              have RB4 := Lib.hid RBr.out
              clear r0 r1 r2 r3 r4 r5 yr HBR OKr RBr OK3 RB3 HB3
              obtain ⟨wD, hwD⟩ : ∃ wD, wD = wr := ⟨_, rfl⟩
              subst hwD
              go_loopw [13] (fun z wr => ∃ j : Nat, j ≤ c.mn ∧ z = .int .i64 j ∧ Below wD.heap.size wD wr) (fun z _ => c.mn - (intOf z).toNat)
              case atStart => exact ⟨0, Nat.zero_le _, rfl, Below.refl _ _⟩
              case round =>
                obtain ⟨j, hj, rfl, hbr⟩ := hrel
                have HBR := Lib.hid hbr
                have OKr := Lib.hid (OK4.out.up hbr)
                have RBr := Lib.hid ((hbr.block _ (lt_heap RB4.out)).trans RB4.out)
                clear hbr
                obtain ⟨r0, r1, r2, r3, r4, r5⟩ := six_cells RBr.out
                have yr := lt_heap RBr.out
                by_cases hlt : j < c.mn
                · obtain ⟨m, hm⟩ := get_someF (l := ms) (k := j) (by rw [OKr.out.ml]; exact hlt)
                  have hmw := OKr.out.mw
                  rw [HA7.out] at hmw r4
                  rcases hmw with h0 | ⟨g, o, rfl, hg, hcell⟩
                  · rw [h0] at hm; simp at hm
                  · obtain ⟨_, a0, _⟩ := hcell j _ hm
                    have f0 := ex_iff.1 (OC.out.s0 hlt hm)
                    have F0 := Lib.hid (show ∀ W : World, Calls Tryd.prog 19 #[.int .i64 m.x, .int .i64 c.n] W fun e w' => e = .returned (.bool true) ∧ w' = W from fun W => (is_yes f0.1 f0.2 W).mono fun _ _ h => ⟨h.1, h.2.symm⟩)
                    have hk0 : (0 : Int) ≤ (j : Int) := by omega
                    have hk1 : (j : Int) < (c.mn : Int) := by omega
                    clear f0
                    cases j with
                    | zero =>
                      clear hcell hm
                      rw [Nat.zero_mul, Nat.add_zero] at a0
                      rw [Int.natCast_zero] at hk0 hk1 ⊢
                      go_upto_region 25 with fail
                      go_quiet ((go_at_call 19; exact Calls.quiet_of_same (F0.out _)))
                      go_wp2
                      exact ⟨⟨0 + 1, hlt, by go_num, below_dr9 HBR.out _⟩, by simp [intOf]; omega⟩
                    | succ q =>
                      obtain ⟨p, hpp⟩ := get_someF (l := ms) (k := q) (by rw [OKr.out.ml]; omega)
                      obtain ⟨_, e0, _⟩ := hcell q _ hpp
                      have hle := OC.out.s1 hlt hm hpp
                      have hw1 : IntKind.i64.wrap (q : Int) = (q : Int) := by simp [IntKind.wrap, IntKind.bits, IntKind.signed]; omega
                      have hq0 : (0 : Int) ≤ (q : Int) := by omega
                      have hq1 : (q : Int) < (c.mn : Int) := by omega
                      have hgt : (0 : Int) < (q : Int) + 1 := by omega
                      rw [Int.natCast_add, Int.natCast_one] at hk0 hk1 ⊢
                      clear hcell hm hpp
                      go_upto_region 25 with fail
                      go_quiet ((go_at_call 19; exact Calls.quiet_of_same (F0.out _)))
                      go_wp2
                      exact ⟨⟨q + 1 + 1, hlt, by go_num, below_dr9 HBR.out _⟩, by simp [intOf]; omega⟩
                · obtain ⟨hnj⟩ : c.mn = j := by omega
                  go_upto_region 28 with fail
                  have HB5 := Lib.hid (below_on HB4.out HBR.out)
                  have OK5 := Lib.hid OKr.out
                  have RB5 := Lib.hid RBr.out
                  clear r0 r1 r2 r3 r4 r5 yr HBR OKr RBr OK4 RB4 HB4
                  obtain ⟨wE, hwE⟩ : ∃ wE, wE = wr := ⟨_, rfl⟩
                  subst hwE
                  go_loopw [14] (fun z wr => ∃ j : Nat, j ≤ c.ln ∧ z = .int .i64 j ∧ Below wE.heap.size wE wr) (fun z _ => c.ln - (intOf z).toNat)
                  case atStart => exact ⟨0, Nat.zero_le _, rfl, Below.refl _ _⟩
                  case round =>
                    obtain ⟨j, hj, rfl, hbr⟩ := hrel
                    have HBR := Lib.hid hbr
                    have OKr := Lib.hid (OK5.out.up hbr)
                    have RBr := Lib.hid ((hbr.block _ (lt_heap RB5.out)).trans RB5.out)
                    clear hbr
                    obtain ⟨r0, r1, r2, r3, r4, r5⟩ := six_cells RBr.out
                    have yr := lt_heap RBr.out
                    by_cases hlt : j < c.ln
                    · obtain ⟨m, hm⟩ := get_someF (l := ls) (k := j) (by rw [OKr.out.ll]; exact hlt)
                      have hmw := OKr.out.lw
                      rw [HA6.out] at hmw r5
                      rcases hmw with h0 | ⟨g, o, rfl, hg, hcell⟩
                      · rw [h0] at hm; simp at hm
                      · obtain ⟨a0, _⟩ := hcell j _ hm
                        have f0 := ex_iff.1 (OC.out.l0 hlt hm)
                        have F0 := Lib.hid (fun W => is_yes f0.1 f0.2 W)
                        have hk0 : (0 : Int) ≤ (j : Int) := by omega
                        have hk1 : (j : Int) < (c.ln : Int) := by omega
                        clear f0 hcell hm
                        go_wp2_with (go_at_call 19; (with_reducible refine (F0.out _).mono ?_); rintro e w' ⟨rfl, rfl⟩)
                        exact ⟨⟨j + 1, hlt, by go_num, HBR.out⟩, by simp [intOf]; omega⟩
                    · obtain ⟨hnj⟩ : c.ln = j := by omega
                      obtain ⟨i, hi, hti⟩ := OC.out.last
                      have HTI := Lib.hid hti
                      have hsn := szn OC.out.sz
                      obtain ⟨q, hq⟩ : ∃ q, c.n = q + 1 := ⟨c.n - 1, by omega⟩
                      rw [show c.n - 1 = q by omega] at hi
                      have hiw := OKr.out.c9.iw
                      rw [HA9.out] at hiw r2
                      rcases hiw with h0 | ⟨g, o, rfl, hg, hcell⟩
                      · rw [h0] at hi; simp at hi
                      · obtain ⟨_, a0, _⟩ := hcell q _ hi
                        have hw1 : IntKind.i64.wrap ((c.n : Int) - 1) = (q : Int) := by simp [IntKind.wrap, IntKind.bits, IntKind.signed]; omega
                        have hq0 : (0 : Int) ≤ (q : Int) := by omega
                        have hq1 : (q : Int) < (c.n : Int) := by omega
                        clear hcell hi hti hsn hq
                        go_wp2_with (first | (go_at_call 12; (with_reducible refine (awake9_any _).mono ?_); rintro e w8 ⟨rfl, hb8⟩; have HB8 := Lib.hid hb8; have i0 := (hb8.cell (p := ⟨g, o + q * 10, none⟩) hg).trans a0; have R8 := (hb8.block _ yr).trans RBr.out; clear r0 r1 r2 r3 r4 r5 a0 hb8; obtain ⟨r0, r1, r2, r3, r4, r5⟩ := six_cells R8; have y8 := lt_heap R8; rw [HA9.out] at r2; clear R8) | (go_at_call 20; refine (term_any _ _).mono ?_; rintro e w' ⟨rfl, rfl⟩; rw [HTI.out]))
                        go_ret
                        exact ⟨rfl, below_on HB5.out (below_on HBR.out HB8.out)⟩
    · have hx : (E != 0) = true := by simpa using h0
      clear h0 hE
      go_wp2_with (first | (go_at_call 17; (with_reducible refine HC.out.mono ?_); rintro e w2 ⟨rfl, hb2⟩) | (go_at_call 12; (with_reducible refine (awake9_any _).mono ?_); rintro e w8 ⟨rfl, hb8⟩))
      go_ret
      exact ⟨rfl, below_on HB.out (below_on hb2 hb8)⟩
  · have HF := Lib.hid hf
    clear hf
    go_enter Tryd.func4, Tryd.ntmps4
    go_upto_region 1 with fail
    have R := World.alloc_heap_new w (.cells #[.int .i64 c.st, .int .i64 c.lo, .slice c.iA c.n c.ic, .slice c.hA c.hn c.hc, .slice c.mA c.mn c.mc, .slice c.lA c.ln c.lc] 27)
    replace hB := below_al hB (.cells #[.int .i64 c.st, .int .i64 c.lo, .slice c.iA c.n c.ic, .slice c.hA c.hn c.hc, .slice c.mA c.mn c.mc, .slice c.lA c.ln c.lc] 27)
    generalize w.alloc (.cells #[.int .i64 c.st, .int .i64 c.lo, .slice c.iA c.n c.ic, .slice c.hA c.hn c.hc, .slice c.mA c.mn c.mc, .slice c.lA c.ln c.lc] 27) = W1 at R hB ⊢
    obtain ⟨r0, r1, r2, r3, r4, r5⟩ := six_cells R
    have y1 := lt_heap R
    replace R := Lib.hid R
    go_wp2_with (first | (go_at_call 11; refine (few9_no _ HF.out).mono ?_; rintro e w1 ⟨rfl, hb1⟩) | (go_at_call 12; refine (awake9_any _).mono ?_; rintro e w2 ⟨rfl, hb2⟩))
    go_ret
    exact ⟨rfl, below_on (below_on hB hb1) hb2⟩

end Go.Proofs.YtdppooflbjlbcaaDoor.I
