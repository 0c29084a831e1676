/- Layer 19: Distances. -/
import Derived.Test.YtpghkdmljanncaaFp
import Derived.Laws.OwnMore
import Derived.Deep.LoopGhost
namespace Go.Proofs.Ytpghkdmljanncaa
open Go.ChangeShapes Go.WideShapes Go.ChangeAt Go.RowKit Go.PlainAid
set_option linter.unusedSimpArgs false
set_option linter.unusedVariables false

theorem made_ri (n : Nat) : (madeCells (Value.int .i64 0).cells (n * 1)).toList = Ri (List.replicate n 0) := by
  unfold madeCells Ri
  rw [Nat.mul_one]
  apply List.ext_getElem
  · simp
  · intro i h1 h2
    simp [Value.cells, Nat.mod_one]
/-- the distances' row while the call runs -/
structure Fr (W wr : World) (n : Nat) (F : List Int) : Prop where
  own : wr.ownsRow W.heap.size 3 1 (.slice (some ⟨W.heap.size, 0, none⟩) n n) n (Ri F)
  bel : Below W.heap.size W wr
theorem Fr.len {W wr : World} {n : Nat} {F : List Int} (h : Fr W wr n F) : F.length = n := by have := h.own.1; rw [ri_len] at this; omega
theorem Fr.cell {W wr : World} {n : Nat} {F : List Int} (h : Fr W wr n F) {j : Nat} (hj : j < n) : wr.cell? ⟨W.heap.size, j, none⟩ = some (.int .i64 (F.getD j 0)) := by
  rw [h.own.cellAt j (by omega)]
  unfold Ri
  have hl := h.len
  rw [List.getElem?_map, List.getD_eq_getElem?_getD, List.getElem?_eq_getElem (by omega)]; rfl
theorem Fr.put {W wr : World} {n : Nat} {F : List Int} (h : Fr W wr n F) (j : Nat) (x : Int) : Fr W (wr.setCell ⟨W.heap.size, j, none⟩ (.int .i64 x)) n (F.set j x) := by
  have hs := h.own.stored j (.int .i64 x)
  refine ⟨by unfold Ri; rw [List.map_set]; exact hs.1, below_st (p := ⟨W.heap.size, j, none⟩) h.bel (Nat.le_refl _) _⟩
theorem Fr.up {W wr w2 : World} {n : Nat} {F : List Int} (h : Fr W wr n F) (hb : Below wr.heap.size wr w2) : Fr W w2 n F := ⟨own_below h.own hb, below_on h.bel hb⟩
theorem Fr.sz {W wr : World} {n : Nat} {F : List Int} (h : Fr W wr n F) (h0 : 0 < n) : W.heap.size < wr.heap.size := (h.own.lt W.heap.size rfl).2
theorem edL_bd {c : Cd} {w : World} (h : c.ok w) (x : Int) : ∀ t ∈ edL c x, 0 ≤ t ∧ t < c.n := by
  intro t ht
  unfold edL at ht
  rw [(ordL_spec _).2, List.mem_append] at ht
  rcases ht with ht | ht
  · unfold scL at ht
    cases hi : c.is[x.toNat]? with
    | none => rw [hi] at ht; cases ht
    | some i =>
      rw [hi] at ht
      change t ∈ (if _ then _ else _ : List Int) at ht
      split at ht
      · rw [(ordL_spec _).2] at ht
        unfold nxL at ht
        rcases List.mem_append.1 ht with ht | ht
        · exact ex_iff.1 (List.mem_filter.1 ht).2
        · split at ht
          · rename_i hh
            obtain rfl := List.mem_singleton.1 ht
            exact ex_iff.1 hh.1
          · cases ht
      · cases ht
  · obtain ⟨r, hr, rfl⟩ := List.mem_map.1 ht
    obtain ⟨j, y, rfl, _, hy, hb⟩ := hdL_mem h hr
    unfold tgtV
    rw [Int.toNat_natCast, hy]
    unfold hdB at hb
    rw [Bool.and_eq_true] at hb
    exact ex_iff.1 hb.2
theorem edL_few {c : Cd} {w : World} (h : c.ok w) (hf : c.few) (x : Int) : (edL c x).length ≤ 142 := by
  unfold edL
  refine Nat.le_trans (ordL_len _) ?_
  rw [List.length_append, List.length_map]
  have h1 := scL_few h hf x
  have h2 := hdL_len c x
  have h3 := hf.hn
  omega
/-- no distance is too large -/
def Bdd (n : Nat) (f : List Int) : Prop := ∀ (j : Nat) (x : Int), f[j]? = some x → x + ((f.filter (· < 0)).length : Nat) ≤ n
theorem Bdd.put {n : Nat} {f : List Int} (h : Bdd n f) {k a : Nat} (hk : f.getD k 0 < 0) (ha : 0 ≤ f.getD a 0) (hal : a < f.length) : Bdd n (f.set k (f.getD a 0 + 1)) := by
  have hn := neg_set f k (f.getD a 0 + 1) hk (by omega)
  have hfa := h a (f.getD a 0) (by rw [List.getD_eq_getElem?_getD, List.getElem?_eq_getElem hal]; rfl)
  intro j x hx
  rw [List.getElem?_set] at hx
  split at hx
  · split at hx
    · obtain rfl := Option.some.inj hx
      omega
    · cases hx
  · have := h j x hx
    omega
theorem getD_setF {f : List Int} {k a : Nat} {y : Int} (hne : k ≠ a) : (f.set k y).getD a 0 = f.getD a 0 := by
  rw [List.getD_eq_getElem?_getD, List.getElem?_set, if_neg hne, ← List.getD_eq_getElem?_getD]
theorem getD_selfF {f : List Int} {k : Nat} {y : Int} (hk : k < f.length) : (f.set k y).getD k 0 = y := by
  rw [List.getD_eq_getElem?_getD, List.getElem?_set, if_pos rfl, if_pos hk]; rfl
/-- the queue holds instructions that have a distance -/
def Qok (n : Nat) (f q : List Int) : Prop := ∀ x ∈ q, 0 ≤ x ∧ x < n ∧ 0 ≤ f.getD x.toNat 0
theorem Qok.put {n : Nat} {f q : List Int} (h : Qok n f q) {t : Int} {y : Int} (h0 : 0 ≤ t) (h1 : t < n) (hl : f.length = n) (hy : 0 ≤ y) : Qok n (f.set t.toNat y) (q ++ [t]) := by
  intro x hx
  rcases List.mem_append.1 hx with hx | hx
  · obtain ⟨a, b, c⟩ := h x hx
    refine ⟨a, b, ?_⟩
    by_cases e : t.toNat = x.toNat
    · rw [← e, getD_selfF (by omega)]; exact hy
    · rw [getD_setF e]; exact c
  · obtain rfl := List.mem_singleton.1 hx
    exact ⟨h0, h1, by rw [getD_selfF (by omega)]; exact hy⟩
set_option maxRecDepth 100000 in
set_option maxHeartbeats 4000000 in
theorem ds_any (c : Cd) (w : World) (hok : c.ok w) (hf : c.few) : Calls Try.prog 43 #[(Value.agg #[Value.int IntKind.i64 (Cd.st c), Value.int IntKind.i64 (Cd.lo c), Value.slice (Cd.iA c) (Cd.n c) (Cd.ic c), Value.slice (Cd.hA c) (Cd.hn c) (Cd.hc c), Value.slice (Cd.mA c) (Cd.mn c) (Cd.mc c), Value.slice (Cd.lA c) (Cd.ln c) (Cd.lc c)])] w (IntsOwn w (distL c)) := by
  have hB : Below w.heap.size w w := Below.refl _ _
  have OK := Lib.hid hok
  have hcn := hf.n
  clear hok
  go_enter Try.func43, Try.ntmps43
  go_upto_region 1 with fail
  have R := World.alloc_heap_new w (.cells #[.int .i64 c.st, .int .i64 c.lo, .slice c.iA c.n c.ic, .slice c.hA c.hn c.hc, .slice c.mA c.mn c.mc, .slice c.lA c.ln c.lc] 50)
  replace hB := below_al hB (.cells #[.int .i64 c.st, .int .i64 c.lo, .slice c.iA c.n c.ic, .slice c.hA c.hn c.hc, .slice c.mA c.mn c.mc, .slice c.lA c.ln c.lc] 50)
  generalize w.alloc (.cells #[.int .i64 c.st, .int .i64 c.lo, .slice c.iA c.n c.ic, .slice c.hA c.hn c.hc, .slice c.mA c.mn c.mc, .slice c.lA c.ln c.lc] 50) = W1 at R hB ⊢
  obtain ⟨r0, r1, r2, r3, r4, r5⟩ := six_cells R
  have y1 := lt_heap R
  replace R := Lib.hid R
  have OK1 := Lib.hid (OK.out.up hB)
  have HB := Lib.hid hB
  obtain ⟨i0, hi, hz0, hz1, hz2⟩ := info_parts infoI
  obtain ⟨Wm, hmk, hown, hgr⟩ := run_makeSlice_full (P := Try.prog) W1 W1.heap.size 22 3 i0 (.int .i64 0) 1 Try.underlying22 hi hz0 hz1 .i64 .i64 c.n (by omega) (by rw [hz2]; omega) (by unfold maxLen; omega) (Nat.le_refl _)
  rw [made_ri] at hown
  have HF0 := Lib.hid (show Fr W1 Wm c.n (List.replicate c.n 0) from ⟨hown, grown_below hgr (fun k hk => by cases hk) (Nat.le_refl _)⟩)
  clear hown hgr hB hi hz0 hz1 hz2
  go_upto_region 2 with fail
  clear r0 r1 r2 r3 r4 r5 hmk
  go_wp2
  go_loopw [15] (fun z wr => ∃ (j : Nat) (F : List Int), j ≤ c.n ∧ z = .int .i64 j ∧ Fr W1 wr c.n F ∧ ∀ i, i < j → F[i]? = some (-1)) (fun z _ => c.n - (intOf z).toNat)
  case atStart => exact ⟨0, _, Nat.zero_le _, rfl, HF0.out, fun i hi => absurd hi (Nat.not_lt_zero _)⟩
  case round =>
    clear HF0
    obtain ⟨j, F, hj, rfl, hfr, hall⟩ := hrel
    have HFR := Lib.hid hfr
    have HALL := Lib.hid hall
    clear hall
    by_cases hlt : j < c.n
    · have hsz := hfr.sz (by omega)
      have hcl := hfr.cell hlt
      have hfz := hfr.own.frozenAt j
      have hj0 : (0 : Int) ≤ (j : Int) := by omega
      have hj1 : (j : Int) < (c.n : Int) := by omega
      clear hfr
      go_wp2
      refine ⟨⟨j + 1, F.set j (-1), hlt, by go_num, HFR.out.put j (-1), fun i hi => ?_⟩, by simp [intOf]; omega⟩
      have hl := HFR.out.len
      rw [List.getElem?_set]
      by_cases hij : j = i
      · subst hij
        rw [if_pos rfl, if_pos (by omega)]
      · rw [if_neg hij]; exact HALL.out i (by omega)
    · have hF : F = List.replicate c.n (-1) := by
        apply List.ext_getElem?
        intro i
        have hl := HFR.out.len
        rcases Nat.lt_or_ge i c.n with h | h
        · rw [HALL.out i (by omega), List.getElem?_replicate, if_pos h]
        · rw [List.getElem?_eq_none (by omega), List.getElem?_eq_none (by simpa using h)]
      subst hF
      by_cases hn0 : c.n = 0
      · have HD := Lib.hid (show distL c = [] from if_pos hn0)
        have hbe : ((c.n : Int) == 0) = true := by simp [hn0]
        clear hfr
        have HN0 := Lib.hid hn0
        clear hn0
        go_wp2
        go_ret
        rw [HD.out]
        exact own_nil _ _ (below_on HB.out HFR.out.bel)
      · have hpos : 0 < c.n := by omega
        have HD := Lib.hid (show distL c = dsOut c (c.n + 1) ((List.replicate c.n (-1)).set 0 0) [0] from if_neg hn0)
        have hsz := hfr.sz hpos
        have hcl := hfr.cell hpos
        have hfz := hfr.own.frozenAt 0
        have hn1 : (0 : Int) < (c.n : Int) := by omega
        have hbe : ((c.n : Int) == 0) = false := by simp [hn0]
        clear hfr
        go_upto_region 10 with fail
        have HFP := Lib.hid (HFR.out.put 0 0)
        clear hcl hfz hsz HFR HALL
        generalize wr.setCell ⟨W1.heap.size, 0, none⟩ (.int .i64 0) = W3 at HFP ⊢
        have HQ0 := Lib.hid (Tl.of_own (L := [0]) (own_one (w := W3) 0 HFP.out.bel.size))
        have HF1 := Lib.hid (HFP.out.up (below_al (Below.refl W3.heap.size W3) (.cells #[.int .i64 0] 3)))
        have hz3 := HFP.out.sz hpos
        have HAP0 := Lib.hid (show (Value.slice (some ⟨W3.heap.size, 0, none⟩) 1 1).ownBlock ≠ some W1.heap.size from fun e => by have e2 : W3.heap.size = W1.heap.size := Option.some.inj e; omega)
        clear HFP hz3
        go_wp2
        clear hj hlt hbe
        go_loopg [5] c.n (fun k v wr => ∃ (f q : List Int), k ≤ c.n ∧ mu f q ≤ k ∧ dsOut c (k + 1) f q = distL c ∧ Fr W1 wr c.n f ∧ Tl W1.heap.size wr q v ∧ v.ownBlock ≠ some W1.heap.size ∧ Qok c.n f q ∧ Bdd c.n f)
        case atStart =>
          refine ⟨_, [0], Nat.le_refl _, by rw [mu_start hpos]; exact Nat.le_refl _, HD.out.symm, HF1.out, HQ0.out, HAP0.out, fun x hx => ?_, ?_⟩
          · obtain rfl := List.mem_singleton.1 hx
            exact ⟨Int.le_refl _, hn1, by rw [show (0 : Int).toNat = 0 from rfl, getD_selfF (by simpa using hpos)]; exact Int.le_refl _⟩
          · intro j x hx
            have hn := neg_set (List.replicate c.n (-1)) 0 0 (by rw [List.getD_eq_getElem?_getD, List.getElem?_replicate, if_pos hpos]; decide) (Int.le_refl _)
            have h2 := List.length_filter_le (fun (x : Int) => decide (x < 0)) (List.replicate c.n (-1))
            rw [List.length_replicate] at h2
            rw [List.getElem?_set] at hx
            split at hx
            · split at hx
              · obtain rfl := Option.some.inj hx; omega
              · cases hx
            · rw [List.getElem?_replicate] at hx
              split at hx
              · obtain rfl := Option.some.inj hx; omega
              · cases hx
        case round =>
          clear HQ0 HF1 HAP0
          obtain ⟨f, q, hkn, hmu, hds, hfr, htl, hap, hq, hbd⟩ := hrel
          have HFR := Lib.hid hfr
          have HDS := Lib.hid hds
          have hbw := hfr.bel.size
          have RBr := Lib.hid ((hfr.bel.block _ y1).trans R.out)
          have OKr := Lib.hid (OK1.out.up hfr.bel)
          clear hds hfr
          cases q with
          | nil =>
            obtain ⟨g, o, cap, cur, rfl, _, _, _, _, _, _⟩ := htl
            clear hap
            go_wp2
            go_ret
            have hl := HFR.out.len
            rw [← HDS.out]
            show IntsOwn w f _ _
            exact own_up HB.out (by rw [hl]; exact HFR.out.own) HFR.out.bel
          | cons a q' =>
            obtain ⟨ha0, ha1, ha2⟩ := hq a List.mem_cons_self
            obtain ⟨ka, rfl⟩ : ∃ ka : Nat, a = (ka : Int) := ⟨a.toNat, by omega⟩
            rw [Int.toNat_natCast] at ha2
            have hmq : mu f q' + 1 = mu f ((ka : Int) :: q') := by unfold mu; rw [List.length_cons]; omega
            have hql : q'.length ≤ 300 := by unfold mu at hmq hmu; omega
            obtain ⟨g, o, cap, cur, rfl, hBg, hgh, hcap, hoc, hcm, hat⟩ := htl
            have htl : Tl W1.heap.size wr ((ka : Int) :: q') (.slice (some ⟨g, o, none⟩) (q'.length + 1) cap) := ⟨g, o, cap, cur, rfl, hBg, hgh, hcap, hoc, hcm, hat⟩
            have hc0 := htl.cell (j := 0) rfl
            rw [Nat.add_zero] at hc0
            have hgw := lt_heap hgh
            have hT2 := htl.tail
            rw [Nat.add_sub_cancel] at hT2
            have hap2 : g ≠ W1.heap.size := fun e => hap (by rw [e]; rfl)
            simp only [List.length_cons] at hcap ⊢
            have hl1 : (1 : Int) ≤ (q'.length : Int) + 1 := by omega
            have hl2 : (q'.length : Int) + 1 ≤ (cap : Int) := by omega
            have hl3 : (0 : Int) < (q'.length : Int) + 1 := by omega
            have hl4 : (1 : Int) ≤ (cap : Int) := by omega
            clear hgh hoc hcm hat hap htl cur
            go_upto_region 14 with fail
            have hap5 : (Value.slice (if cap = 1 then some ⟨g, o, none⟩ else some ⟨g, o + 1, none⟩) q'.length (cap - 1)).ownBlock ≠ some W1.heap.size := by
              split
              · exact fun e => hap2 (Option.some.inj e)
              · exact fun e => hap2 (Option.some.inj e)
            generalize Value.slice (if cap = 1 then some ⟨g, o, none⟩ else some ⟨g, o + 1, none⟩) q'.length (cap - 1) = v5 at hT2 hap5 ⊢
            have HT5 := Lib.hid hT2
            have HAP5 := Lib.hid hap5
            have HQ := Lib.hid (show Qok c.n f q' from fun x hx => hq x (List.mem_cons_of_mem _ hx))
            have HBD := Lib.hid hbd
            have HMQ := Lib.hid (And.intro hmu hmq)
            have HA2 := Lib.hid ha2
            clear hT2 hap5 hq hbd hc0 hgw hap2 hcap hl1 hl2 hl3 hl4 hmu hmq ha2
            obtain ⟨r0, r1, r2, r3, r4, r5⟩ := six_cells RBr.out
            have yr := lt_heap RBr.out
            obtain ⟨S, hS⟩ : ∃ S, edL c ka = S := ⟨_, rfl⟩
            have HS := Lib.hid hS
            have hm1 : S.length ≤ 142 := by rw [← hS]; exact edL_few OKr.out hf ka
            have HSB := Lib.hid (show ∀ t ∈ S, 0 ≤ t ∧ t < c.n by rw [← hS]; exact edL_bd OKr.out ka)
            obtain ⟨m, hm⟩ : ∃ m, S.length = m := ⟨_, rfl⟩
            have HM := Lib.hid hm
            rw [hm] at hm1
            clear hS hm
            go_upto_region 15 with (go_at_call 76; (with_reducible refine (eds_any c _ _ OKr.out).mono ?_); rintro e w2 ⟨v2, rfl, ho2, hb2⟩; rw [HS.out, HM.out] at ho2; obtain ⟨A3, c3, rfl, hc3, hm3, _⟩ := own_form ho2)
            have HO2 := Lib.hid ho2
            have HF2 := Lib.hid (HFR.out.up hb2)
            have HT2 := Lib.hid (HT5.out.below hb2)
            have HX2 := Lib.hid (show Apt v5 (.slice A3 m c3) by
              cases hv : v5.ownBlock with
              | none => exact Or.inl hv
              | some b =>
                refine Or.inr (fun e => ?_)
                rw [hv] at e
                have h1 := (HT5.out.lt b hv).2
                have h2 := (ho2.lt b e.symm).1
                omega)
            have HS2 := Lib.hid (show (Value.slice A3 m c3).ownBlock ≠ some W1.heap.size from fun e => by have h2 := (ho2.lt _ e).1; have h3 := HFR.out.sz hpos; omega)
            obtain ⟨Bo, hBo⟩ : ∃ Bo, wr.heap.size = Bo := ⟨_, rfl⟩
            rw [hBo] at HO2
            clear r0 r1 r2 r3 r4 r5 yr ho2 hb2 HT5 hBo RBr OKr HFR
            go_loopw [5, 40] (fun v z wx => ∃ (j : Nat) (f2 q2 : List Int), j ≤ m ∧ z = .int .i64 j ∧ dsIn ka f q' S = dsIn ka f2 q2 (S.drop j) ∧ mu f2 q2 = mu f q' ∧ Fr W1 wx c.n f2 ∧ Tl W1.heap.size wx q2 v ∧ v.ownBlock ≠ some W1.heap.size ∧ Qok c.n f2 q2 ∧ Bdd c.n f2 ∧ 0 ≤ f2.getD ka 0 ∧ wx.ownsRow Bo 3 1 (.slice A3 m c3) m (Ri S) ∧ Apt v (.slice A3 m c3)) (fun _ z _ => m - (intOf z).toNat)
            case atStart => exact ⟨0, f, q', Nat.zero_le _, rfl, rfl, rfl, HF2.out, HT2.out, HAP5.out, HQ.out, HBD.out, HA2.out, HO2.out, HX2.out⟩
            case round =>
              clear HF2 HT2 HAP5 HQ HBD HA2 HO2 HX2
              obtain ⟨j, f2, q2, hj, rfl, hst, hmu2, hfr, htl, hap, hq, hbd, ha2, hrow, hax⟩ := hrel
              have HST := Lib.hid hst
              have HMU := Lib.hid hmu2
              have HFR := Lib.hid hfr
              have HTL := Lib.hid htl
              have HAP := Lib.hid hap
              have HQ := Lib.hid hq
              have HBD := Lib.hid hbd
              have HROW := Lib.hid hrow
              have HAX := Lib.hid hax
              have hq2 : q2.length ≤ 300 := by have h1 := HMQ.out; unfold mu at hmu2 h1; omega
              have hsz := hfr.sz hpos
              have hfl := hfr.len
              clear hst hmu2 htl hap hq hbd hax
              by_cases hjt : j < m
              · obtain ⟨t, ht⟩ := get_someF (l := S) (k := j) (by rw [HM.out]; exact hjt)
                obtain ⟨ht0, ht1⟩ := HSB.out t (List.mem_of_getElem? ht)
                obtain ⟨kt, rfl⟩ : ∃ kt : Nat, t = (kt : Int) := ⟨t.toNat, by omega⟩
                obtain ⟨gs, os, rfl, hgs, hcs⟩ := row_get (Row.of_own hrow).1 ht
                have HDR := Lib.hid (show S.drop j = (kt : Int) :: S.drop (j + 1) by
                  have hjl := get_ltF ht
                  rw [List.drop_eq_getElem_cons hjl]
                  congr 1
                  rw [List.getElem?_eq_getElem hjl] at ht
                  exact Option.some.inj ht)
                have hct := hfr.cell (j := kt) (by omega)
                have hca := hfr.cell (j := ka) (by omega)
                have hfz := hfr.own.frozenAt kt
                have hj0 : (0 : Int) ≤ (j : Int) := by omega
                have hj1 : (j : Int) < (m : Int) := by omega
                obtain ⟨ft, hft⟩ : ∃ ft, f2.getD kt 0 = ft := ⟨_, rfl⟩
                obtain ⟨fa, hfa⟩ : ∃ fa, f2.getD ka 0 = fa := ⟨_, rfl⟩
                have hfab : fa ≤ 300 := by
                  have := HBD.out ka fa (by rw [← hfa, List.getD_eq_getElem?_getD, List.getElem?_eq_getElem (by omega)]; rfl)
                  omega
                have HFT := Lib.hid (And.intro hft (And.intro hfa ha2))
                rw [hft] at hct
                rw [hfa] at hca
                clear ht hrow hfr ha2 hft hfa
                by_cases hlt0 : ft < 0
                · have hw1 : IntKind.i64.wrap (fa + 1) = fa + 1 := by have := HFT.out.2.2; rw [HFT.out.2.1] at this; simp [IntKind.wrap, IntKind.bits, IntKind.signed]; omega
                  have hlt1 : f2.getD kt 0 < 0 := by rw [HFT.out.1]; exact hlt0
                  have hge : 0 ≤ f2.getD ka 0 := HFT.out.2.2
                  have HSTN := Lib.hid (show dsIn ka f q' S = dsIn ka (f2.set kt (fa + 1)) (q2 ++ [(kt : Int)]) (S.drop (j + 1)) by
                    rw [HST.out, HDR.out]
                    show (if f2.getD (kt : Int).toNat 0 < 0 then _ else _) = _
                    rw [Int.toNat_natCast, if_pos hlt1, Int.toNat_natCast, HFT.out.2.1])
                  have HMUN := Lib.hid (show mu (f2.set kt (fa + 1)) (q2 ++ [(kt : Int)]) = mu f q' by
                    rw [← HMU.out]
                    have hn := neg_set f2 kt (fa + 1) hlt1 (by rw [HFT.out.2.1] at hge; omega)
                    unfold mu
                    rw [List.length_append]
                    simp only [List.length_cons, List.length_nil]
                    omega)
                  have HQN := Lib.hid (show Qok c.n (f2.set kt (fa + 1)) (q2 ++ [(kt : Int)]) by
                    have := HQ.out.put (t := (kt : Int)) (y := fa + 1) (by omega) ht1 hfl (by rw [HFT.out.2.1] at hge; omega)
                    rw [Int.toNat_natCast] at this
                    exact this)
                  have HBN := Lib.hid (show Bdd c.n (f2.set kt (fa + 1)) by
                    have := HBD.out.put (k := kt) (a := ka) hlt1 hge (by omega)
                    rw [HFT.out.2.1] at this
                    exact this)
                  have HAN := Lib.hid (show 0 ≤ (f2.set kt (fa + 1)).getD ka 0 by
                    rw [getD_setF (fun e => by rw [e] at hlt1; omega)]
                    exact hge)
                  have HFN := Lib.hid (HFR.out.put kt (fa + 1))
                  have HTN := Lib.hid (HTL.out.kept (grown_set (w := wr) (g := W1.heap.size) (j := kt) (u := .int .i64 (fa + 1))) HAP.out)
                  have HRN := Lib.hid (HROW.out.kept (grown_set (w := wr) (g := W1.heap.size) (j := kt) (u := .int .i64 (fa + 1))) (Or.inr HS2.out))
                  clear hlt1 hge
                  go_upto_region 19 with fail
                  clear hct hca hfz hcs hgs HFR HTL HROW hsz
                  generalize wr.setCell ⟨W1.heap.size, kt, none⟩ (.int .i64 (fa + 1)) = W6 at HFN HTN HRN ⊢
                  have hs6 := HFN.out.bel.size
                  go_wp2_with (at_builtin; refine wpList_append_tl (by rfl) _ _ (by rfl) W1.heap.size q2 (kt : Int) _ _ _ (by rfl) (HTN.out.below (below_al (Below.refl _ _) _)) (by rfl) (Row.one (ten_cell0 (new_at rfl)) (by simp)) (by omega) (by simp; omega) ?_; intro v7 w7 ht7 hg7 hl7)
                  have hfr7 : Fr W1 w7 c.n (f2.set kt (fa + 1)) := ⟨(HFN.out.own.alloc _).kept hg7 (Or.inr (fun e => HAP.out e.symm)), (below_al HFN.out.bel _).trans (grown_below hg7 (fun k hk => (HTN.out.lt k hk).1) (below_al HFN.out.bel _).size)⟩
                  have hap7 : v7.ownBlock ≠ some W1.heap.size := by
                    rcases hl7 with h | ⟨g7, h, hge7⟩
                    · rw [h]; exact HAP.out
                    · rw [h]; intro e
                      have e2 : g7 = W1.heap.size := Option.some.inj e
                      have := HFN.out.sz hpos
                      simp at hge7
                      omega
                  exact ⟨⟨j + 1, _, _, hjt, by go_num, HSTN.out, HMUN.out, hfr7, ht7, hap7, HQN.out, HBN.out, HAN.out, HAX.out.kept (HRN.out.alloc _) hg7, HAX.out.grow (HRN.out.alloc _) hl7⟩, by simp [intOf]; omega⟩
                · have HSTN := Lib.hid (show dsIn ka f q' S = dsIn ka f2 q2 (S.drop (j + 1)) by
                    rw [HST.out, HDR.out]
                    show (if f2.getD (kt : Int).toNat 0 < 0 then _ else _) = _
                    rw [Int.toNat_natCast, if_neg (by rw [HFT.out.1]; exact hlt0)])
                  go_wp2
                  exact ⟨⟨j + 1, f2, q2, hjt, by go_num, HSTN.out, HMU.out, HFR.out, HTL.out, HAP.out, HQ.out, HBD.out, HFT.out.2.2, HROW.out, HAX.out⟩, by simp [intOf]; omega⟩
              · obtain ⟨rfl⟩ : m = j := by omega
                have hst2 := HST.out
                rw [List.drop_eq_nil_of_le (by rw [HM.out]; exact Nat.le_refl _)] at hst2
                have hgk : 1 ≤ gk := by have := HMQ.out; omega
                have hds2 := HDS.out
                have hds3 : dsOut c (gk - 1 + 1) f2 q2 = distL c := by
                  rw [← hds2, show gk - 1 + 1 = gk by omega]
                  show _ = dsOut c gk (dsIn ka f q' (edL c ka)).1 (dsIn ka f q' (edL c ka)).2
                  rw [HS.out, hst2]; rfl
                have HD3 := Lib.hid hds3
                clear hst2 hds2 hds3
                go_wp2
                go_roundg (gk - 1)
                case measure => omega
                case rel => exact ⟨f2, q2, by omega, by have := HMQ.out; have := HMU.out; omega, HD3.out, HFR.out, HTL.out, HAP.out, HQ.out, HBD.out⟩

end Go.Proofs.Ytpghkdmljanncaa
