import Derived.Test.YtalejaklggnnpaaGreatDoorFoS
/- Layer 9: code of any size; BranchTargets, in the package and in its reference. -/
namespace Go.Proofs.YtalejaklggnnpaaGreatDoor.I
open Go.ChangeShapes Go.WideShapes Go.ChangeAt Go.RowKit Go.PlainAid
set_option linter.unusedSimpArgs false
set_option linter.unusedVariables false
/-- code in memory, with at most 1000000 instructions and handlers -/
structure Cd.c9 (w : World) (c : Cd) : Prop where
 il : c.is.length = c.n
 iw : Ins w w.heap.size c.iA c.is
 ib : c.n ≤ 1000000
 hl : c.hs.length = c.hn
 hw : Hds w w.heap.size c.hA c.hs
 hb : c.hn ≤ 1000000
 nz : ∀ i ∈ c.is, i.nz
 tn : ∀ i ∈ c.is, i.tn ≤ 17592186043904
theorem Cd.c9.up {w w' : World} {c : Cd} (h : c.c9 w) (hb : Below w.heap.size w w') : c.c9 w' := ⟨h.il, h.iw.up hb, h.ib, h.hl, h.hw.up hb, h.hb, h.nz, h.tn⟩
theorem cex_gen {st lo : Int} {iA hA mA lA : Option Addr} {n ic hn hc mn mc ln lc : Nat} (x : Int) (w : World) : Calls Tryz.prog 28 #[.agg #[.int .i64 st, .int .i64 lo, .slice iA n ic, .slice hA hn hc, .slice mA mn mc, .slice lA ln lc], .int .i64 x] w fun e w' => e = .returned (.bool (exB n x)) ∧ Below w.heap.size w w' := by
 have hB : Below w.heap.size w w := Below.refl _ _
 by_cases h1 : 0 ≤ x
 ·
  by_cases h2 : x < n
  ·
   rw [show exB n x = true from ex_iff.2 ⟨h1, h2⟩]
   go_enter Tryz.func28, Tryz.ntmps28
   go_wp2
   go_ret
   exact ⟨rfl, (by repeat (first | with_reducible exact hB | with_reducible exact Below.refl _ _ | with_reducible refine below_al ?_ _ | with_reducible refine below_st ?_ (by first | exact Nat.le_refl _ | exact Nat.le_add_right _ _ | (simp; omega)) _))⟩
  ·
   rw [show exB n x = false from by unfold exB; exact decide_eq_false (fun e => h2 e.2)]
   go_enter Tryz.func28, Tryz.ntmps28
   go_wp2
   go_ret
   exact ⟨rfl, (by repeat (first | with_reducible exact hB | with_reducible exact Below.refl _ _ | with_reducible refine below_al ?_ _ | with_reducible refine below_st ?_ (by first | exact Nat.le_refl _ | exact Nat.le_add_right _ _ | (simp; omega)) _))⟩
 ·
  rw [show exB n x = false from by unfold exB; exact decide_eq_false (fun e => h1 e.1)]
  go_enter Tryz.func28, Tryz.ntmps28
  go_wp2
  go_ret
  exact ⟨rfl, (by repeat (first | with_reducible exact hB | with_reducible exact Below.refl _ _ | with_reducible refine below_al ?_ _ | with_reducible refine below_st ?_ (by first | exact Nat.le_refl _ | exact Nat.le_add_right _ _ | (simp; omega)) _))⟩
/-- marks set at the numbers of a list -/
def mkS (n : Nat) (M : List Bool) (l : List Int) : List Bool := l.foldl (fun M t => if exB n t = true then M.set t.toNat true else M) M
theorem mkS_app (n : Nat) (M : List Bool) (a b : List Int) : mkS n M (a ++ b) = mkS n (mkS n M a) b := List.foldl_append ..
theorem mkS_one (n : Nat) (M : List Bool) (t : Int) : mkS n M [t] = if exB n t = true then M.set t.toNat true else M := rfl
theorem mkS_len (n : Nat) : ∀ (l : List Int) (M : List Bool), (mkS n M l).length = M.length
 | [], M => rfl
 | t :: l, M => by
  show (mkS n (if exB n t = true then M.set t.toNat true else M) l).length = _
  rw [mkS_len n l]
  split
  ·
   exact List.length_set
  ·
   rfl
def btL (c : Cd) : List Bool := mkS c.n (List.replicate c.n false) (c.is.flatMap tgL ++ c.hs.map Hd.g)
theorem btL_len (c : Cd) : (btL c).length = c.n := by unfold btL; rw [mkS_len]; simp
theorem flat_snoc {l : List In} {k : Nat} {i : In} (h : l[k]? = some i) : (l.take (k + 1)).flatMap tgL = (l.take k).flatMap tgL ++ tgL i := by
 rw [take_snocF h, List.flatMap_append]; simp
theorem mapg_snoc {l : List Hd} {k : Nat} {x : Hd} (h : l[k]? = some x) : (l.take (k + 1)).map Hd.g = (l.take k).map Hd.g ++ [x.g] := by
 rw [take_snocF h, List.map_append]; rfl
theorem mkR {w W1 w2 : World} {n : Nat} {M : List Bool} (h : Mk W1 w2 n M) (hb : Below w.heap.size w W1) : MarksRet w n M (.returned (.slice (some ⟨W1.heap.size, 0, none⟩) n n)) w2 := ⟨W1, rfl, h, hb⟩
theorem Mk.bool {W wr : World} {n : Nat} {M : List Bool} (h : Mk W wr n M) {j : Nat} {v : Value} (hv : wr.cell? ⟨W.heap.size, j, none⟩ = some v) : ∃ b, v = .bool b := by
 rcases h.own.2 with ⟨h0, _⟩ | ⟨g, cap, cur, hs, hbg, hg, hnc, hcm, hcs, htake⟩
 ·
  cases h0
 ·
  have e1 : W.heap.size = g := by injection hs with h1 _ _; injection h1 with h1; injection h1
  have e2 : n = cap := by injection hs
  subst e1 e2
  have hcur : cur.toList = Rb M := by rw [← htake, List.take_of_length_le (by rw [Array.length_toList]; omega)]
  have h1 : cur[j]? = some v := by simpa [World.cell?, hg] using hv
  rw [← Array.getElem?_toList, hcur] at h1
  unfold Rb at h1
  rw [List.getElem?_map] at h1
  cases hm : M[j]? with
  | none => rw [hm] at h1; cases h1
  | some b => rw [hm] at h1; exact ⟨b, (Option.some.inj h1).symm⟩
theorem Row.mkput {W wr : World} {n B : Nat} {M : List Bool} {A : Option Addr} {L : List Int} (hr : Row wr B A L) (h : Mk W wr n M) (j : Nat) (b : Bool) : Row (wr.setCell ⟨W.heap.size, j, none⟩ (.bool b)) B A L := by
 rcases hr with h0 | ⟨g, o, hA, hg, hc⟩
 ·
  exact Or.inl h0
 ·
  cases L with
  | nil => exact Or.inl rfl
  | cons x L =>
   refine Or.inr ⟨g, o, hA, hg, fun k y hk => ?_⟩
   have h1 := hc k y hk
   by_cases hgW : g = W.heap.size
   ·
    subst hgW
    obtain ⟨b', hb'⟩ := h.bool h1
    cases hb'
   ·
    rw [World.cell?_setCell_other _ _ _ _ (fun e => hgW (by injection e with e; exact e.symm))]
    exact h1
set_option maxRecDepth 100000 in
set_option maxHeartbeats 4000000 in
theorem bt_any (c : Cd) (w : World) (hok : c.c9 w) : Calls Tryz.prog 21 #[(Value.agg #[Value.int IntKind.i64 (Cd.st c), Value.int IntKind.i64 (Cd.lo c), Value.slice (Cd.iA c) (Cd.n c) (Cd.ic c), Value.slice (Cd.hA c) (Cd.hn c) (Cd.hc c), Value.slice (Cd.mA c) (Cd.mn c) (Cd.mc c), Value.slice (Cd.lA c) (Cd.ln c) (Cd.lc c)])] w (MarksRet w c.n (btL c)) := by
 have hB : Below w.heap.size w w := Below.refl _ _
 have OK := Lib.hid hok
 have hcn := hok.ib
 have hhb := hok.hb
 have HBT := Lib.hid (show btL c = mkS c.n (List.replicate c.n false) (c.is.flatMap tgL ++ c.hs.map Hd.g) from rfl)
 clear hok
 go_enter Tryz.func21, Tryz.ntmps21
 go_upto_region 1 with fail
 have R := World.alloc_heap_new w (.cells #[.int .i64 c.st, .int .i64 c.lo, .slice c.iA c.n c.ic, .slice c.hA c.hn c.hc, .slice c.mA c.mn c.mc, .slice c.lA c.ln c.lc] 28)
 replace hB := below_al hB (.cells #[.int .i64 c.st, .int .i64 c.lo, .slice c.iA c.n c.ic, .slice c.hA c.hn c.hc, .slice c.mA c.mn c.mc, .slice c.lA c.ln c.lc] 28)
 generalize w.alloc (.cells #[.int .i64 c.st, .int .i64 c.lo, .slice c.iA c.n c.ic, .slice c.hA c.hn c.hc, .slice c.mA c.mn c.mc, .slice c.lA c.ln c.lc] 28) = W1 at R hB ⊢
 obtain ⟨r0, r1, r2, r3, r4, r5⟩ := six_cells R
 have y1 := lt_heap R
 replace R := Lib.hid R
 have OK1 := Lib.hid (OK.out.up hB)
 have HB := Lib.hid hB
 clear hB
 obtain ⟨i0, hi, hz0, hz1, hz2⟩ := info_parts infoB
 obtain ⟨Wm, hmk, hown, hgr⟩ := run_makeSlice_full (P := Tryz.prog) W1 W1.heap.size 51 4 i0 (.bool false) 1 Tryz.underlying51 hi hz0 hz1 .i64 .i64 c.n (by omega) (by rw [hz2]; omega) (by unfold maxLen; omega) (Nat.le_refl _)
 rw [made_rb] at hown
 have hbm := grown_below hgr (fun k hk => by cases hk) (Nat.le_refl W1.heap.size)
 have HM0 := Lib.hid (show Mk W1 Wm c.n (List.replicate c.n false) from ⟨hown, hbm⟩)
 clear hown hgr hi hz0 hz1 hz2
 obtain ⟨A, hA⟩ : ∃ A, c.iA = A := ⟨_, rfl⟩
 have HA := Lib.hid hA
 obtain ⟨A9, hA9⟩ : ∃ A, c.hA = A := ⟨_, rfl⟩
 have HA9 := Lib.hid hA9
 rw [hA] at r2
 clear hA hA9
 go_upto_region 2 with fail
 clear hmk r0 r1 r2 r3 r4 r5
 have RBm := Lib.hid ((hbm.block _ y1).trans R.out)
 clear hbm
 obtain ⟨r0, r1, r2, r3, r4, r5⟩ := six_cells RBm.out
 have ym := lt_heap RBm.out
 rw [HA.out] at r2
 go_upto_region 3 with fail
 clear r0 r1 r2 r3 r4 r5 ym RBm
 go_loopw [17] (fun z wr => ∃ (k : Nat) (M : List Bool), k ≤ c.n ∧ z = .int .i64 k ∧ Mk W1 wr c.n M ∧ M = mkS c.n (List.replicate c.n false) ((c.is.take k).flatMap tgL)) (fun z _ => c.n - (intOf z).toNat)
 case atStart => exact ⟨0, _, Nat.zero_le _, rfl, HM0.out, rfl⟩
 case round =>
  clear HM0
  obtain ⟨k, M, hk, rfl, hm, hM⟩ := hrel
  have HM := Lib.hid hm
  have HME := Lib.hid hM
  have OKr := Lib.hid (OK1.out.up hm.bel)
  have hiw := OKr.out.iw
  rw [HA.out] at hiw
  have RBr := Lib.hid ((hm.bel.block _ y1).trans R.out)
  obtain ⟨r0, r1, r2, r3, r4, r5⟩ := six_cells RBr.out
  have yr := lt_heap RBr.out
  clear hm hM
  by_cases hlt : k < c.n
  ·
   obtain ⟨i, hi⟩ := get_someF (l := c.is) (k := k) (by rw [OKr.out.il]; exact hlt)
   rcases hiw with h0 | ⟨g, o, rfl, hg, hcell⟩
   ·
    rw [h0] at hi; simp at hi
   ·
    obtain ⟨iok, a0, a1, a2, a3, a4, a5, a6, a7, a8, a9⟩ := hcell k _ hi
    have HFS := Lib.hid (flat_snoc hi)
    have HIM := Lib.hid (List.mem_of_getElem? hi)
    have hk0 : (0 : Int) ≤ (k : Int) := by omega
    have hk1 : (k : Int) < (c.n : Int) := by omega
    have IOK2 := Lib.hid (iok.up (below_al (Below.refl _ wr) (.cells #[.int .i64 i.op, .int .i64 i.a, .int .i64 i.b, .int .i64 i.t, .slice i.kA i.kn i.kc, .slice i.tA i.tn i.tc, .string i.r1, .string i.r2, .string i.r3, .string i.s] 50)))
    clear hcell iok hi
    go_upto_region 5 with fail
    have hX2 := World.alloc_heap_new wr (.cells #[.int .i64 i.op, .int .i64 i.a, .int .i64 i.b, .int .i64 i.t, .slice i.kA i.kn i.kc, .slice i.tA i.tn i.tc, .string i.r1, .string i.r2, .string i.r3, .string i.s] 50)
    have hbl := below_al (Below.refl _ wr) (.cells #[.int .i64 i.op, .int .i64 i.a, .int .i64 i.b, .int .i64 i.t, .slice i.kA i.kn i.kc, .slice i.tA i.tn i.tc, .string i.r1, .string i.r2, .string i.r3, .string i.s] 50)
    generalize hbb : wr.heap.size = b at hX2 ⊢
    generalize wr.alloc (.cells #[.int .i64 i.op, .int .i64 i.a, .int .i64 i.b, .int .i64 i.t, .slice i.kA i.kn i.kc, .slice i.tA i.tn i.tc, .string i.r1, .string i.r2, .string i.r3, .string i.s] 50) = W2 at hX2 IOK2 hbl ⊢
    have XB := Lib.hid hX2
    clear hX2 hbb a0 a1 a2 a3 a4 a5 a6 a7 a8 a9 hg r0 r1 r2 r3 r4 r5 yr
    obtain ⟨b0, b1, b2, b3, b4, b5, b6, b7, b8, b9⟩ := ten_cells XB.out
    have yb := lt_heap XB.out
    go_upto_region 6 with (go_at_call 55; refine (tg_any i _ IOK2.out (OK.out.nz i HIM.out) (OK.out.tn i HIM.out)).mono ?_; rintro e W3 ⟨A3, c3, rfl, hl3, hm3, hn3, hr3, hb3⟩)
    have HM3 := Lib.hid (HM.out.up (below_on hbl hb3))
    have HR3 := Lib.hid hr3
    clear hr3 b0 b1 b2 b3 b4 b5 b6 b7 b8 b9 yb XB IOK2 hb3 hbl HM
    obtain ⟨T, hT⟩ : ∃ T, tgL i = T := ⟨_, rfl⟩
    have HT := Lib.hid hT
    rw [hT] at HR3 hl3 HFS
    rw [hT]
    obtain ⟨tn, htn⟩ : ∃ tn, T.length = tn := ⟨_, rfl⟩
    have HTN := Lib.hid htn
    rw [htn] at hl3 ⊢
    have htb : tn ≤ 9223372036854775807 := by have := hm3; unfold maxLen at this; omega
    clear hT htn
    go_loopw [24] (fun z wr => ∃ (j : Nat) (M' : List Bool), j ≤ tn ∧ z = .int .i64 j ∧ Mk W1 wr c.n M' ∧ M' = mkS c.n M (T.take j) ∧ Row wr wr.heap.size A3 T) (fun z _ => tn - (intOf z).toNat)
    case atStart => exact ⟨0, _, Nat.zero_le _, rfl, HM3.out, rfl, HR3.out⟩
    case round =>
     clear HM3 HR3
     obtain ⟨j, M', hj, rfl, hm, hM', hrow⟩ := hrel
     have HM := Lib.hid hm
     have HME' := Lib.hid hM'
     have HROW := Lib.hid hrow
     have RBr2 := Lib.hid ((hm.bel.block _ y1).trans R.out)
     obtain ⟨r0, r1, r2, r3, r4, r5⟩ := six_cells RBr2.out
     have yr := lt_heap RBr2.out
     clear hm hM'
     by_cases hjt : j < tn
     ·
      obtain ⟨t, ht⟩ := get_someF (l := T) (k := j) (by rw [HTN.out]; exact hjt)
      obtain ⟨gt, ot, rfl, hgt, hct⟩ := row_get hrow ht
      have hj0 : (0 : Int) ≤ (j : Int) := by omega
      have hj1 : (j : Int) < (tn : Int) := by omega
      have HTJ := Lib.hid (take_snocF ht)
      clear ht hrow
      cases hex : exB c.n t with
      | false =>
       have HET := Lib.hid hex
       clear hex
       go_wp2_with (go_at_call 28; (with_reducible refine (cex_gen _ _).mono ?_); rintro e w2 ⟨rfl, hb2⟩; rw [HET.out])
       exact ⟨⟨j + 1, M', hjt, by go_num, HM.out.up hb2, by rw [HTJ.out, mkS_app, ← HME'.out, mkS_one, HET.out]; rfl, HROW.out.up hb2⟩, by simp [intOf]; omega⟩
      | true =>
       obtain ⟨ht0, ht1⟩ := ex_iff.1 hex
       obtain ⟨tt, rfl⟩ : ∃ tt : Nat, t = (tt : Int) := ⟨t.toNat, by omega⟩
       have HET := Lib.hid hex
       clear hex
       obtain ⟨bb, hbb⟩ := get_someF (l := M') (k := tt) (by rw [HM.out.len]; omega)
       go_upto_region 9 with (go_at_call 28; (with_reducible refine (cex_gen _ _).mono ?_); rintro e w2 ⟨rfl, hb2⟩; rw [HET.out])
       have HM2 := Lib.hid (HM.out.up hb2)
       have HROW2 := Lib.hid (HROW.out.up hb2)
       have hcb := HM2.out.cell hbb
       have hfz := HM2.out.own.frozenAt tt
       have hsz := HM2.out.sz
       clear r0 r1 r2 r3 r4 r5 yr hct hgt hbb hb2
       go_wp2
       refine ⟨⟨j + 1, _, hjt, by go_num, HM2.out.put tt true, by rw [HTJ.out, mkS_app, ← HME'.out, mkS_one, HET.out, if_pos rfl, Int.toNat_natCast], ?_⟩, by simp [intOf]; omega⟩
       have := HROW2.out.mkput HM2.out tt true
       exact this.more (by simp)
     ·
      obtain ⟨rfl⟩ : tn = j := by omega
      have hMM : M' = mkS c.n (List.replicate c.n false) ((c.is.take (k + 1)).flatMap tgL) := by
       rw [HFS.out, mkS_app, ← HME.out, HME'.out, List.take_of_length_le (by rw [HTN.out]; exact Nat.le_refl _)]
      clear r0 r1 r2 r3 r4 r5 yr hrow
      go_wp2
      exact ⟨⟨k + 1, M', hlt, by go_num, HM.out, hMM⟩, by simp [intOf]; omega⟩
  ·
   obtain ⟨hnk⟩ : c.n = k := by omega
   have HME2 := Lib.hid (show M = mkS c.n (List.replicate c.n false) (c.is.flatMap tgL) by rw [HME.out, List.take_of_length_le (by rw [OK.out.il]; exact Nat.le_refl _)])
   rw [HA9.out] at r3
   clear hiw
   go_upto_region 13 with fail
   clear r0 r1 r2 r3 r4 r5 yr RBr
   go_loopw [39] (fun z wr => ∃ (j : Nat) (M' : List Bool), j ≤ c.hn ∧ z = .int .i64 j ∧ Mk W1 wr c.n M' ∧ M' = mkS c.n M ((c.hs.take j).map Hd.g)) (fun z _ => c.hn - (intOf z).toNat)
   case atStart => exact ⟨0, _, Nat.zero_le _, rfl, HM.out, rfl⟩
   case round =>
    clear HM
    obtain ⟨j, M', hj, rfl, hm, hM'⟩ := hrel
    have HM := Lib.hid hm
    have HME' := Lib.hid hM'
    have hhw := OK1.out.hw.up hm.bel
    rw [HA9.out] at hhw
    have RBr := Lib.hid ((hm.bel.block _ y1).trans R.out)
    obtain ⟨r0, r1, r2, r3, r4, r5⟩ := six_cells RBr.out
    have yr := lt_heap RBr.out
    clear hm hM'
    by_cases hlt : j < c.hn
    ·
     obtain ⟨h, hh⟩ := get_someF (l := c.hs) (k := j) (by rw [OK1.out.hl]; exact hlt)
     rcases hhw with h0 | ⟨g, o, rfl, hg, hcell⟩
     ·
      rw [h0] at hh; simp at hh
     ·
      obtain ⟨a0, a1, a2, a3, a4⟩ := hcell j h hh
      have HTJ := Lib.hid (mapg_snoc hh)
      have hj0 : (0 : Int) ≤ (j : Int) := by omega
      have hj1 : (j : Int) < (c.hn : Int) := by omega
      clear hcell hh
      go_upto_region 15 with fail
      have hX2 := World.alloc_heap_new wr (.cells #[.int .i64 h.f, .int .i64 h.t, .int .i64 h.g, .int .i64 h.k, .string h.s] 58)
      have hbl := below_al (Below.refl _ wr) (.cells #[.int .i64 h.f, .int .i64 h.t, .int .i64 h.g, .int .i64 h.k, .string h.s] 58)
      generalize hbb : wr.heap.size = b at hX2 ⊢
      generalize wr.alloc (.cells #[.int .i64 h.f, .int .i64 h.t, .int .i64 h.g, .int .i64 h.k, .string h.s] 58) = W2 at hX2 hbl ⊢
      have XB := Lib.hid hX2
      have RB2 := Lib.hid ((hbl.block _ yr).trans RBr.out)
      have HM2 := Lib.hid (HM.out.up hbl)
      clear hX2 hbb a0 a1 a2 a3 a4 hg r0 r1 r2 r3 r4 r5 yr hbl HM RBr
      obtain ⟨b0, b1, b2, b3, b4, _⟩ := five_cells XB.out
      obtain ⟨r0, r1, r2, r3, r4, r5⟩ := six_cells RB2.out
      have yb := lt_heap XB.out
      have yr := lt_heap RB2.out
      obtain ⟨t, ht⟩ : ∃ t, h.g = t := ⟨_, rfl⟩
      have HT := Lib.hid ht
      rw [ht] at b2
      clear ht
      cases hex : exB c.n t with
      | false =>
       have HET := Lib.hid hex
       clear hex
       go_wp2_with (go_at_call 28; (with_reducible refine (cex_gen _ _).mono ?_); rintro e w2 ⟨rfl, hb2⟩; rw [HET.out])
       exact ⟨⟨j + 1, M', hlt, by go_num, HM2.out.up hb2, by rw [HTJ.out, mkS_app, ← HME'.out, mkS_one, HT.out, HET.out]; rfl⟩, by simp [intOf]; omega⟩
      | true =>
       obtain ⟨ht0, ht1⟩ := ex_iff.1 hex
       obtain ⟨tt, rfl⟩ : ∃ tt : Nat, t = (tt : Int) := ⟨t.toNat, by omega⟩
       have HET := Lib.hid hex
       clear hex
       obtain ⟨bb, hbb⟩ := get_someF (l := M') (k := tt) (by rw [HM2.out.len]; omega)
       go_upto_region 16 with (go_at_call 28; (with_reducible refine (cex_gen _ _).mono ?_); rintro e w2 ⟨rfl, hb2⟩; rw [HET.out])
       have HM3 := Lib.hid (HM2.out.up hb2)
       have XB3 := Lib.hid ((hb2.block _ yb).trans XB.out)
       have hcb := HM3.out.cell hbb
       have hfz := HM3.out.own.frozenAt tt
       have hsz := HM3.out.sz
       clear r0 r1 r2 r3 r4 r5 yr hbb hb2 b0 b1 b2 b3 b4 yb
       obtain ⟨b0, b1, b2, b3, b4, _⟩ := five_cells XB3.out
       rw [HT.out] at b2
       go_wp2
       exact ⟨⟨j + 1, _, hlt, by go_num, HM3.out.put tt true, by rw [HTJ.out, mkS_app, ← HME'.out, mkS_one, HT.out, HET.out, if_pos rfl, Int.toNat_natCast]⟩, by simp [intOf]; omega⟩
    ·
     obtain ⟨hnj⟩ : c.hn = j := by omega
     have hfin : M' = btL c := by
      rw [HBT.out, mkS_app, ← HME2.out, HME'.out, List.take_of_length_le (by rw [OK.out.hl]; exact Nat.le_refl _)]
     go_wp2
     go_ret
     rw [← hfin]
     exact mkR HM.out HB.out
end Go.Proofs.YtalejaklggnnpaaGreatDoor.I
