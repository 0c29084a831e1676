/- Layer 19: Predecessors. -/
import Derived.Test.YtpghkdmljanncaaFi
namespace Go.Proofs.Ytpghkdmljanncaa
open Go.ChangeShapes Go.WideShapes Go.ChangeAt Go.RowKit Go.PlainAid
set_option linter.unusedSimpArgs false
set_option linter.unusedVariables false

/-- what leads to t among the first k -/
def pdR (c : Cd) (t k : Nat) : List Int := rowsI (fun a => decide ((t : Int) ∈ edL c a)) k
/-- the rows when k is at work and T of its edges are done -/
def pdJ (c : Cd) (k : Nat) (T : List Int) : List (List Int) := (List.range c.n).map fun (t : Nat) => pdR c t k ++ (if (t : Int) ∈ T then [(k : Int)] else [])
theorem pdJ_len (c : Cd) (k : Nat) (T : List Int) : (pdJ c k T).length = c.n := by simp [pdJ]
theorem pdJ_at {c : Cd} {k t : Nat} {T : List Int} (ht : t < c.n) : (pdJ c k T)[t]? = some (pdR c t k ++ (if (t : Int) ∈ T then [(k : Int)] else [])) := by
  unfold pdJ
  rw [List.getElem?_map, List.getElem?_range ht]; rfl
theorem pdJ_next (c : Cd) (k : Nat) : pdJ c k (edL c k) = pdJ c (k + 1) [] := by
  unfold pdJ
  refine List.map_congr_left fun t _ => ?_
  unfold pdR
  rw [rowsI_succ, List.append_assoc]
  congr 1
  by_cases h : (t : Int) ∈ edL c k
  · simp [h]
  · simp [h]
theorem pdJ_step {c : Cd} {k j t : Nat} {S : List Int} (hs : S.Pairwise (· < ·)) (ht : S[j]? = some (t : Int)) (htn : t < c.n) : pdJ c k (S.take (j + 1)) = (pdJ c k (S.take j)).set t (pdR c t k ++ (if (t : Int) ∈ S.take j then [(k : Int)] else []) ++ [(k : Int)]) := by
  have hno : (t : Int) ∉ S.take j := by
    intro hm
    obtain ⟨i, hi, he⟩ := List.getElem_of_mem hm
    rw [List.length_take] at hi
    rw [List.getElem_take] at he
    have hj := get_ltF ht
    have h1 := List.pairwise_iff_getElem.1 hs i j (by omega) hj (by omega)
    rw [List.getElem?_eq_getElem hj] at ht
    have := Option.some.inj ht
    omega
  apply List.ext_getElem?
  intro r
  rcases Nat.lt_or_ge r c.n with hr | hr
  · rw [pdJ_at hr, List.getElem?_set]
    by_cases e : t = r
    · subst e
      have hin : (t : Int) ∈ S.take (j + 1) := by rw [take_snocF ht]; exact List.mem_append_right _ List.mem_cons_self
      rw [if_pos rfl, if_pos hin, if_neg hno, if_pos (by rw [pdJ_len]; exact hr), List.append_nil]
    · rw [if_neg e, pdJ_at hr, take_snocF ht]
      have : ((r : Int) ∈ S.take j ++ [(t : Int)]) ↔ (r : Int) ∈ S.take j := by
        rw [List.mem_append, List.mem_singleton]
        constructor
        · rintro (h | h)
          · exact h
          · omega
        · exact Or.inl
      simp only [this]
  · rw [List.getElem?_eq_none (by rw [pdJ_len]; exact hr), List.getElem?_eq_none (by rw [List.length_set, pdJ_len]; exact hr)]
theorem pdR_len (c : Cd) (t k : Nat) : (pdR c t k).length ≤ k := rowsI_len _ _
/-- rows of rows -/
structure Pd (W wr : World) (n : Nat) (vs : List Value) (Ls : List (List Int)) : Prop where
  out : wr.ownsRow W.heap.size 22 1 (.slice (some ⟨W.heap.size, 0, none⟩) n n) n vs
  ll : Ls.length = n
  own : ∀ (i : Nat) (v : Value) (L : List Int), vs[i]? = some v → Ls[i]? = some L → wr.ownsRow W.heap.size 3 1 v L.length (Ri L)
  ap : ∀ (i j : Nat) (v v' : Value), i ≠ j → vs[i]? = some v → vs[j]? = some v' → Apt v v'
  bel : Below W.heap.size W wr
theorem Pd.vl {W wr : World} {n : Nat} {vs : List Value} {Ls : List (List Int)} (h : Pd W wr n vs Ls) : vs.length = n := by have := h.out.1; omega
theorem neL : 3 ≠ 22 := by decide
theorem Pd.up {W wr w2 : World} {n : Nat} {vs : List Value} {Ls : List (List Int)} (h : Pd W wr n vs Ls) (hb : Below wr.heap.size wr w2) : Pd W w2 n vs Ls :=
  ⟨own_below h.out hb, h.ll, fun i v L h1 h2 => own_below (h.own i v L h1 h2) hb, h.ap, below_on h.bel hb⟩
/-- one of the rows grows, and its place is stored -/
theorem Pd.grow {W wr w4 : World} {n t : Nat} {vs : List Value} {Ls : List (List Int)} {v v' : Value} {L : List Int} {x : Int} {o : Obj} (h : Pd W wr n vs Ls) (hv : vs[t]? = some v) (hL : Ls[t]? = some L)
    (ho : w4.ownsRow W.heap.size 3 1 v' (L.length + 1) (Ri (L ++ [x]))) (hg : (wr.alloc o).grownBy w4 v.ownBlock) (hl : Lies (wr.alloc o) v v') :
    w4.ownsRow W.heap.size 22 1 (.slice (some ⟨W.heap.size, 0, none⟩) n n) n vs ∧ Pd W (w4.setCell ⟨W.heap.size, t, none⟩ v') n (vs.set t v') (Ls.set t (L ++ [x])) := by
  have hown := h.own t v L hv hL
  have hout4 := own_keptF (hown.alloc o) (h.out.alloc o) neL hg
  refine ⟨hout4, ?_⟩
  have hst := hout4.stored t v'
  have hbel4 : Below W.heap.size W w4 := grown_own (below_al h.bel o) (hown.alloc o) hg
  have nout : ∀ (u : Value) (k : Nat) (xs : List Value), w4.ownsRow W.heap.size 3 1 u k xs → u.ownBlock ≠ some W.heap.size := fun u k xs hu e => own_typesF hu hout4 neL e rfl
  refine ⟨hst.1, by rw [List.length_set]; exact h.ll, ?_, ?_, below_st (p := ⟨W.heap.size, t, none⟩) hbel4 (Nat.le_refl _) _⟩
  · intro i u M hu hM
    rw [List.getElem?_set] at hu hM
    by_cases e : t = i
    · subst e
      rw [if_pos rfl] at hu hM
      split at hu
      · split at hM
        · obtain rfl := Option.some.inj hu
          obtain rfl := Option.some.inj hM
          rw [List.length_append]
          exact ho.kept hst.2 (Or.inr (nout _ _ _ ho))
        · cases hM
      · cases hu
    · rw [if_neg e] at hu hM
      have h1 := h.own i u M hu hM
      have hap := h.ap t i v u e hv hu
      have h4 := hap.kept (h1.alloc o) hg
      exact h4.kept hst.2 (Or.inr (nout _ _ _ h4))
  · intro i j u u' hij hu hu'
    rw [List.getElem?_set] at hu hu'
    have sym : ∀ a b : Value, Apt a b → Apt b a := fun a b hab => by
      rcases hab with hab | hab
      · cases hb : b.ownBlock with
        | none => exact Or.inl hb
        | some y => exact Or.inr (by rw [hab, hb]; exact fun e => by cases e)
      · exact Or.inr (fun e => hab e.symm)
    by_cases e : t = i
    · subst e
      rw [if_pos rfl] at hu
      rw [if_neg hij] at hu'
      split at hu
      · obtain rfl := Option.some.inj hu
        obtain ⟨M, hM⟩ := get_someF (l := Ls) (k := j) (by have := get_ltF hu'; have := h.vl; have := h.ll; omega)
        exact (h.ap t j v u' hij hv hu').grow ((h.own j u' M hu' hM).alloc o) hl
      · cases hu
    · rw [if_neg e] at hu
      by_cases e2 : t = j
      · subst e2
        rw [if_pos rfl] at hu'
        split at hu'
        · obtain rfl := Option.some.inj hu'
          obtain ⟨M, hM⟩ := get_someF (l := Ls) (k := i) (by have := get_ltF hu; have := h.vl; have := h.ll; omega)
          exact sym _ _ ((h.ap t i v u (fun e => hij e.symm) hv hu).grow ((h.own i u M hu hM).alloc o) hl)
        · cases hu'
      · rw [if_neg e2] at hu'
        exact h.ap i j u u' hij hu hu'

theorem made_nil (n : Nat) : (madeCells (Value.slice none 0 0).cells (n * 1)).toList = List.replicate n (Value.slice none 0 0) := by
  unfold madeCells
  rw [Nat.mul_one]
  apply List.ext_getElem
  · simp
  · intro i h1 h2
    simp [Value.cells, Nat.mod_one]
theorem infoL : (Try.prog.info? 22).map (fun i => (i.zero, i.size, i.bytes)) = some (some (.slice none 0 0), 1, 24) := by kernel_rfl
/-- what Predecessors hands back -/
def PdRet (w : World) (n : Nat) (Ls : List (List Int)) (e : Ending) (w' : World) : Prop :=
  ∃ (W : World) (vs : List Value), e = .returned (.slice (some ⟨W.heap.size, 0, none⟩) n n) ∧ Pd W w' n vs Ls ∧ Below w.heap.size w W
set_option maxRecDepth 100000 in
set_option maxHeartbeats 4000000 in
theorem pd_any (c : Cd) (w : World) (hok : c.ok w) (hf : c.few) : Calls Try.prog 39 #[(Value.agg #[Value.int IntKind.i64 (Cd.st c), Value.int IntKind.i64 (Cd.lo c), Value.slice (Cd.iA c) (Cd.n c) (Cd.ic c), Value.slice (Cd.hA c) (Cd.hn c) (Cd.hc c), Value.slice (Cd.mA c) (Cd.mn c) (Cd.mc c), Value.slice (Cd.lA c) (Cd.ln c) (Cd.lc c)])] w (PdRet w c.n (pdJ c c.n [])) := by
  have hB : Below w.heap.size w w := Below.refl _ _
  have OK := Lib.hid hok
  have hcn := hf.n
  clear hok
  go_enter Try.func39, Try.ntmps39
  go_upto_region 1 with fail
  have R := World.alloc_heap_new w (.cells #[.int .i64 c.st, .int .i64 c.lo, .slice c.iA c.n c.ic, .slice c.hA c.hn c.hc, .slice c.mA c.mn c.mc, .slice c.lA c.ln c.lc] 50)
  replace hB := below_al hB (.cells #[.int .i64 c.st, .int .i64 c.lo, .slice c.iA c.n c.ic, .slice c.hA c.hn c.hc, .slice c.mA c.mn c.mc, .slice c.lA c.ln c.lc] 50)
  generalize w.alloc (.cells #[.int .i64 c.st, .int .i64 c.lo, .slice c.iA c.n c.ic, .slice c.hA c.hn c.hc, .slice c.mA c.mn c.mc, .slice c.lA c.ln c.lc] 50) = W1 at R hB ⊢
  obtain ⟨r0, r1, r2, r3, r4, r5⟩ := six_cells R
  have y1 := lt_heap R
  replace R := Lib.hid R
  have OK1 := Lib.hid (OK.out.up hB)
  have HB := Lib.hid hB
  obtain ⟨i0, hi, hz0, hz1, hz2⟩ := info_parts infoL
  obtain ⟨Wm, hmk, hown, hgr⟩ := run_makeSlice_full (P := Try.prog) W1 W1.heap.size 56 22 i0 (.slice none 0 0) 1 Try.underlying56 hi hz0 hz1 .i64 .i64 c.n (by omega) (by rw [hz2]; omega) (by unfold maxLen; omega) (Nat.le_refl _)
  rw [made_nil] at hown
  have hbm : Below W1.heap.size W1 Wm := grown_below hgr (fun k hk => by cases hk) (Nat.le_refl _)
  have HP0 := Lib.hid (show Pd W1 Wm c.n (List.replicate c.n (.slice none 0 0)) (pdJ c 0 []) from by
    refine ⟨hown, pdJ_len _ _ _, fun i v L h1 h2 => ?_, fun i j v v' _ h1 _ => ?_, hbm⟩
    · have hic : i < c.n := by have := get_ltF h2; rw [pdJ_len] at this; exact this
      rw [pdJ_at hic] at h2
      rw [List.getElem?_replicate, if_pos hic] at h1
      obtain rfl := Option.some.inj h1
      obtain rfl : L = [] := by rw [← Option.some.inj h2]; simp [pdR, rowsI]
      exact World.ownsRow_nil _ _ _ _
    · rw [List.getElem?_replicate] at h1
      split at h1
      · obtain rfl := Option.some.inj h1; exact Or.inl rfl
      · cases h1)
  have hRm := Lib.hid ((hbm.block _ y1).trans R.out)
  clear hown hgr hB hi hz0 hz1 hz2 hbm
  go_upto_region 2 with fail
  clear r0 r1 r2 r3 r4 r5 hmk
  obtain ⟨r0, r1, r2, r3, r4, r5⟩ := six_cells hRm.out
  have yrm := lt_heap hRm.out
  go_wp2
  clear r0 r1 r2 r3 r4 r5 yrm
  go_loopw [14] (fun z wr => ∃ (k : Nat) (vs : List Value), k ≤ c.n ∧ z = .int .i64 k ∧ Pd W1 wr c.n vs (pdJ c k [])) (fun z _ => c.n - (intOf z).toNat)
  case atStart => exact ⟨0, _, Nat.zero_le _, rfl, HP0.out⟩
  case round =>
    clear HP0
    obtain ⟨k, vs, hk, rfl, hp⟩ := hrel
    have HP := Lib.hid hp
    have RBr := Lib.hid ((hp.bel.block _ y1).trans R.out)
    have OKr := Lib.hid (OK1.out.up hp.bel)
    clear hp
    by_cases hlt : k < c.n
    · obtain ⟨r0, r1, r2, r3, r4, r5⟩ := six_cells RBr.out
      have yr := lt_heap RBr.out
      obtain ⟨S, hS⟩ : ∃ S, edL c k = S := ⟨_, rfl⟩
      have HS := Lib.hid hS
      have hm1 : S.length ≤ 142 := by rw [← hS]; exact edL_few OKr.out hf k
      have HSB := Lib.hid (show ∀ t ∈ S, 0 ≤ t ∧ t < c.n by rw [← hS]; exact edL_bd OKr.out k)
      have HSO := Lib.hid (show S.Pairwise (· < ·) by rw [← hS]; exact (ordL_spec _).1)
      obtain ⟨m, hm⟩ : ∃ m, S.length = m := ⟨_, rfl⟩
      have HM := Lib.hid hm
      rw [hm] at hm1
      clear hS hm
      go_upto_region 6 with (go_at_call 76; (with_reducible refine (eds_any c _ _ OKr.out).mono ?_); rintro e w2 ⟨v2, rfl, ho2, hb2⟩; rw [HS.out, HM.out] at ho2; obtain ⟨A3, c3, rfl, hc3, hm3, _⟩ := own_form ho2)
      have HO2 := Lib.hid ho2
      have HP2 := Lib.hid (HP.out.up hb2)
      have HX2 := Lib.hid (show ∀ (i : Nat) (v : Value), vs[i]? = some v → Apt v (.slice A3 m c3) from fun i v hv => by
        obtain ⟨L, hL⟩ := get_someF (l := pdJ c k []) (k := i) (by have := get_ltF hv; have := HP.out.vl; rw [pdJ_len]; omega)
        exact apt_of (HP.out.own i v L hv hL) ho2)
      obtain ⟨Bo, hBo⟩ : ∃ Bo, wr.heap.size = Bo := ⟨_, rfl⟩
      rw [hBo] at HO2
      clear r0 r1 r2 r3 r4 r5 yr ho2 hb2 hBo RBr OKr HP
      go_loopw [21] (fun z wx => ∃ (j : Nat) (vs : List Value), j ≤ m ∧ z = .int .i64 j ∧ Pd W1 wx c.n vs (pdJ c k (S.take j)) ∧ wx.ownsRow Bo 3 1 (.slice A3 m c3) m (Ri S) ∧ ∀ (i : Nat) (v : Value), vs[i]? = some v → Apt v (.slice A3 m c3)) (fun z _ => m - (intOf z).toNat)
      case atStart => exact ⟨0, vs, Nat.zero_le _, rfl, by rw [List.take_zero]; exact HP2.out, HO2.out, HX2.out⟩
      case round =>
        clear HP2 HO2 HX2
        obtain ⟨j, vs, hj, rfl, hp, hrow, hax⟩ := hrel
        have HP := Lib.hid hp
        have HROW := Lib.hid hrow
        have HAX := Lib.hid hax
        clear hax
        by_cases hjt : j < m
        · obtain ⟨t, ht⟩ := get_someF (l := S) (k := j) (by rw [HM.out]; exact hjt)
          obtain ⟨ht0, ht1⟩ := HSB.out t (List.mem_of_getElem? ht)
          obtain ⟨kt, rfl⟩ : ∃ kt : Nat, t = (kt : Int) := ⟨t.toNat, by omega⟩
          obtain ⟨gs, os, rfl, hgs, hcs⟩ := row_get (Row.of_own hrow).1 ht
          have HST := Lib.hid (pdJ_step (c := c) (k := k) HSO.out ht (by omega))
          obtain ⟨v, hv⟩ := get_someF (l := vs) (k := kt) (by have := hp.vl; omega)
          have HPA := Lib.hid (pdJ_at (c := c) (k := k) (t := kt) (T := S.take j) (by omega))
          obtain ⟨L, hL⟩ : ∃ L, pdR c kt k ++ (if (kt : Int) ∈ S.take j then [(k : Int)] else []) = L := ⟨_, rfl⟩
          rw [hL] at HST HPA
          have hLl : L.length ≤ 301 := by
            rw [← hL, List.length_append]
            have := pdR_len c kt k
            split <;> simp <;> omega
          have HOW := Lib.hid (hp.own kt v L hv HPA.out)
          have HV := Lib.hid hv
          obtain ⟨q, hq⟩ : ∃ q, L.length = q := ⟨_, rfl⟩
          have HQ := Lib.hid hq
          rw [hq] at hLl HOW
          have hcv : wr.cell? ⟨W1.heap.size, kt, none⟩ = some v := by rw [hp.out.cellAt kt (by omega), hv]
          have hgw := (hp.out.lt W1.heap.size rfl).2
          have hbl := hp.bel.size
          obtain ⟨vA, vc, rfl, _, _, _⟩ := own_form HOW.out
          have hj0 : (0 : Int) ≤ (j : Int) := by omega
          have hj1 : (j : Int) < (m : Int) := by omega
          clear ht hrow hp hv hL hq
          go_upto_region 8 with fail
          go_wp2_with (at_builtin; refine wpList_append_liesF (by rfl) _ _ (by rfl) W1.heap.size q 1 L (k : Int) _ _ (by rfl) (HOW.out.alloc _) (by rfl) (Row.one (ten_cell0 (new_at rfl)) (by simp)) (by omega) (by simp; omega) ?_; intro A7 c7 w4 ho4 hg4 hl4; have HG := Lib.hid (HP.out.grow HV.out HPA.out (by rw [HQ.out]; exact ho4) hg4 hl4); have hcs4 := (HG.out.1.cellAt kt (by omega)); rw [HV.out] at hcs4; have hfz4 := HG.out.1.frozenAt kt; have hgw4 := (HG.out.1.lt W1.heap.size rfl).2)
          have hk4 := (HAX.out kt _ HV.out).kept (HROW.out.alloc _) hg4
          have hk5 := own_keptF (w' := w4.setCell ⟨W1.heap.size, kt, none⟩ (.slice A7 (q + 1) c7)) HG.out.1 hk4 (fun e => neL e.symm) grown_set
          have hpd : Pd W1 (w4.setCell ⟨W1.heap.size, kt, none⟩ (.slice A7 (q + 1) c7)) c.n (vs.set kt (.slice A7 (q + 1) c7)) (pdJ c k (S.take (j + 1))) := by rw [HST.out]; exact HG.out.2
          refine ⟨⟨j + 1, _, hjt, by go_num, hpd, hk5, fun i u hu => ?_⟩, by simp [intOf]; omega⟩
          rw [List.getElem?_set] at hu
          split at hu
          · split at hu
            · obtain rfl := Option.some.inj hu
              exact (HAX.out kt _ HV.out).grow (HROW.out.alloc _) hl4
            · cases hu
          · exact HAX.out i u hu
        · obtain ⟨rfl⟩ : m = j := by omega
          go_wp2
          exact ⟨⟨k + 1, vs, hlt, by go_num, by rw [← pdJ_next, HS.out]; have := HP.out; rw [List.take_of_length_le (by rw [HM.out]; exact Nat.le_refl _)] at this; exact this⟩, by simp [intOf]; omega⟩
    · obtain ⟨hkn⟩ : c.n = k := by omega
      go_wp2
      go_ret
      exact ⟨W1, vs, rfl, HP.out, HB.out⟩

end Go.Proofs.Ytpghkdmljanncaa
