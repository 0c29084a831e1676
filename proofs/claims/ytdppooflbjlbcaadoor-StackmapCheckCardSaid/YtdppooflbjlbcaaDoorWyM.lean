import Derived.Test.YtdppooflbjlbcaaDoorWsM
import Derived.Test.YtdppooflbjlbcaaDoorWwM

/- Wwc -/
/- Layer 22: the reference's Attach where it refuses. (Written by gen/wwc.py.) -/
namespace Go.Proofs.YtdppooflbjlbcaaDoor.I
open Go.ChangeShapes Go.WideShapes Go.ChangeAt Go.RowKit Go.PlainAid
set_option linter.unusedSimpArgs false
set_option linter.unusedVariables false

set_option maxRecDepth 100000 in
set_option maxHeartbeats 8000000 in
theorem rat_out (u : CM) (x : Int) (l : Value) (w : World) (h : x < 0 ∨ (0 ≤ x ∧ (u.mn : Int) ≤ x)) : Calls Tryd.prog 34 #[.agg #[.int .i64 u.fl, .string u.nm, .string u.su, .slice u.iA u.inn u.ic, .slice u.fA u.fn u.fc, .slice u.mA u.mn u.mc, .string u.so], .int .i64 x, l] w (AtNo 1 w) := by
  obtain ⟨Q, hQ⟩ : ∃ Q, AtNo 1 w = Q := ⟨_, rfl⟩
  have HQ := Lib.hid hQ
  rw [hQ]
  clear hQ
  obtain ⟨fl, nm, su, iA, inn, ic, is, fA, fn, fc, fs, mA, mn, mc, mm, so⟩ := u
  simp only at h ⊢
  rcases h with h | ⟨h0, h⟩
  · go_enter Tryd.func34, Tryd.ntmps34
    go_wp2
    obtain ⟨H0, H1, hB⟩ := two_laidS w (.cells #[.int .i64 fl, .string nm, .string su, .slice iA inn ic, .slice fA fn fc, .slice mA mn mc, .string so] 69) (.cells #[.int .i64 0, .string ⟨#[]⟩, .string ⟨#[]⟩, .slice none 0 0, .slice none 0 0, .slice none 0 0, .string ⟨#[]⟩] 69)
    refine bodyPost_ret (cm_ret rfl rfl H1) rfl ?_
    rw [← HQ.out]
    exact ⟨rfl, hB⟩
  · have h0' : ¬ x < 0 := by omega
    go_enter Tryd.func34, Tryd.ntmps34
    go_wp2
    obtain ⟨H0, H1, hB⟩ := two_laidS w (.cells #[.int .i64 fl, .string nm, .string su, .slice iA inn ic, .slice fA fn fc, .slice mA mn mc, .string so] 69) (.cells #[.int .i64 0, .string ⟨#[]⟩, .string ⟨#[]⟩, .slice none 0 0, .slice none 0 0, .slice none 0 0, .string ⟨#[]⟩] 69)
    refine bodyPost_ret (cm_ret rfl rfl H1) rfl ?_
    rw [← HQ.out]
    exact ⟨rfl, hB⟩

set_option maxRecDepth 100000 in
set_option maxHeartbeats 8000000 in
theorem rat_nocode (u : CM) (i : Nat) (m : Me) (l : Value) (w : World) (hl : u.mm.length = u.mn) (hw : Mes w u.mA u.mm) (hm : u.mm[i]? = some m) (hc : m.hc = false) : Calls Tryd.prog 34 #[.agg #[.int .i64 u.fl, .string u.nm, .string u.su, .slice u.iA u.inn u.ic, .slice u.fA u.fn u.fc, .slice u.mA u.mn u.mc, .string u.so], .int .i64 i, l] w (AtNo 1 w) := by
  obtain ⟨Q, hQ⟩ : ∃ Q, AtNo 1 w = Q := ⟨_, rfl⟩
  have HQ := Lib.hid hQ
  rw [hQ]
  clear hQ
  obtain ⟨fl, nm, su, iA, inn, ic, is, fA, fn, fc, fs, mA, mn, mc, mm, so⟩ := u
  simp only at hl hw hm ⊢
  have hi := get_ltF hm
  have hk0 : (0 : Int) ≤ (i : Int) := by omega
  have hk1 : (i : Int) < (mn : Int) := by omega
  rcases hw with h0 | ⟨g, o, rfl, hg, hcell⟩
  · rw [h0] at hm; simp at hm
  obtain ⟨_, _, _, _, m3, _⟩ := hcell i m hm
  rw [hc] at m3
  clear hcell hm hl
  go_enter Tryd.func34, Tryd.ntmps34
  go_wp2
  obtain ⟨H0, H1, hB⟩ := two_laidS w (.cells #[.int .i64 fl, .string nm, .string su, .slice iA inn ic, .slice fA fn fc, .slice (some ⟨g, o, none⟩) mn mc, .string so] 69) (.cells #[.int .i64 0, .string ⟨#[]⟩, .string ⟨#[]⟩, .slice none 0 0, .slice none 0 0, .slice none 0 0, .string ⟨#[]⟩] 69)
  refine bodyPost_ret (cm_ret rfl rfl H1) rfl ?_
  rw [← HQ.out]
  exact ⟨rfl, hB⟩

end Go.Proofs.YtdppooflbjlbcaaDoor.I

/- Wwd -/
/- Layer 22: the reference's Attach where it refuses. (Written by gen/wwc.py.) -/
namespace Go.Proofs.YtdppooflbjlbcaaDoor.I
open Go.ChangeShapes Go.WideShapes Go.ChangeAt Go.RowKit Go.PlainAid
set_option linter.unusedSimpArgs false
set_option linter.unusedVariables false

set_option maxRecDepth 100000 in
set_option maxHeartbeats 16000000 in
theorem rat_wrong (u : CM) (i : Nat) (m : Me) {A0 : Option Addr} {n cap : Nat} {ms : List SM} (w : World) (hl : u.mm.length = u.mn) (hmn : u.mn ≤ 764877654105) (hw : Mes w u.mA u.mm) (hm : u.mm[i]? = some m) (hc : m.hc = true) (hn : ms.length = n) (hN : n ≤ 9223372036854775807) (hz : A0 = none → n = 0 ∧ cap = 0) (hs : SMs w A0 ms) (hq : ckQ m.c ms = 25) : Calls Tryd.prog 34 #[.agg #[.int .i64 u.fl, .string u.nm, .string u.su, .slice u.iA u.inn u.ic, .slice u.fA u.fn u.fc, .slice u.mA u.mn u.mc, .string u.so], .int .i64 i, .slice A0 n cap] w (AtNo 25 w) := by
  obtain ⟨Q, hQ⟩ : ∃ Q, AtNo 25 w = Q := ⟨_, rfl⟩
  have HQ := Lib.hid hQ
  rw [hQ]
  clear hQ
  obtain ⟨fl, nm, su, iA, inn, ic, is, fA, fn, fc, fs, mA, mn, mc, mm, so⟩ := u
  simp only at hl hw hm hmn ⊢
  have hi := get_ltF hm
  have hk0 : (0 : Int) ≤ (i : Int) := by omega
  have hk1 : (i : Int) < (mn : Int) := by omega
  rcases hw with h0 | ⟨g0, o0, rfl, hg0, hcell⟩
  · rw [h0] at hm; simp at hm
  have HCL := Lib.hid hcell
  have HLM := Lib.hid hm
  have HLL := Lib.hid hl
  obtain ⟨mok, _, _, _, m3, m4, m5, m6, m7, m8, m9, _⟩ := hcell i m hm
  rw [hc] at m3
  have HL := Lib.hid hs
  have HN := Lib.hid hn
  clear hcell hm hl hs hn mok hi
  go_enter Tryd.func34, Tryd.ntmps34
  go_upto_region 1 with fail
  obtain ⟨H0, H1, hB⟩ := two_laidS w (.cells #[.int .i64 fl, .string nm, .string su, .slice iA inn ic, .slice fA fn fc, .slice (some ⟨g0, o0, none⟩) mn mc, .string so] 69) (.cells #[.int .i64 0, .string ⟨#[]⟩, .string ⟨#[]⟩, .slice none 0 0, .slice none 0 0, .slice none 0 0, .string ⟨#[]⟩] 69)
  generalize (w.alloc (.cells #[.int .i64 fl, .string nm, .string su, .slice iA inn ic, .slice fA fn fc, .slice (some ⟨g0, o0, none⟩) mn mc, .string so] 69)).alloc (.cells #[.int .i64 0, .string ⟨#[]⟩, .string ⟨#[]⟩, .slice none 0 0, .slice none 0 0, .slice none 0 0, .string ⟨#[]⟩] 69) = W at H0 H1 hB ⊢
  have HB := Lib.hid hB
  have HU := Lib.hid H0
  have HZ := Lib.hid H1
  replace m3 := (hB.cell (p := ⟨g0, o0 + i * 11 + 3, none⟩) hg0).trans m3
  replace m4 := (hB.cell (p := ⟨g0, o0 + i * 11 + 4, none⟩) hg0).trans m4
  replace m5 := (hB.cell (p := ⟨g0, o0 + i * 11 + 5, none⟩) hg0).trans m5
  replace m6 := (hB.cell (p := ⟨g0, o0 + i * 11 + 6, none⟩) hg0).trans m6
  replace m7 := (hB.cell (p := ⟨g0, o0 + i * 11 + 7, none⟩) hg0).trans m7
  replace m8 := (hB.cell (p := ⟨g0, o0 + i * 11 + 8, none⟩) hg0).trans m8
  replace m9 := (hB.cell (p := ⟨g0, o0 + i * 11 + 9, none⟩) hg0).trans m9
  obtain ⟨u0, u1, u2, u3, u4, u5, u6⟩ := seven_cellsR H0
  have yu := lt_heap H0
  have ym := Nat.lt_of_lt_of_le hg0 hB.size
  have KC0 := rck_any (cap := cap) m.c W HN.out (by omega) (HL.out.up hB)
  rw [hq] at KC0
  have KC := Lib.hid KC0
  clear KC0 H0 H1 hB
  go_upto_region 5 with (go_at_call 36; (with_reducible refine KC.out.mono ?_); rintro e w1 ⟨rfl, hb1⟩)
  have HB1 := Lib.hid (below_on HB.out hb1)
  have HZ1 := Lib.hid ((hb1.block _ (lt_heap HZ.out)).trans HZ.out)
  clear u0 u1 u2 u3 u4 u5 u6 m3 m4 m5 m6 m7 m8 m9 yu ym KC hb1 HU HZ
  obtain ⟨z0, z1, z2, z3, z4, z5, z6⟩ := seven_cellsR HZ1.out
  have yz := lt_heap HZ1.out
  have fz0 := frozenS HZ1.out 0
  have fz1 := frozenS HZ1.out 1
  have fz2 := frozenS HZ1.out 2
  have fz3 := frozenS HZ1.out 3
  have fz4 := frozenS HZ1.out 4
  have fz5 := frozenS HZ1.out 5
  have fz6 := frozenS HZ1.out 6
  rename_i K1 a1 K2 a2
  have HA2 := Lib.hid a2
  clear a1 a2
  go_wp2
  refine HA2.out _ _ ?_
  clear HA2
  refine wp_ret ?_
  refine bodyPost_ret (cm_ret rfl rfl (set_seven HZ1.out)) rfl ?_
  rw [← HQ.out]
  refine ⟨rfl, ?_⟩
  iterate 7 refine below_st ?_ (Nat.le_succ _) _
  exact HB1.out

end Go.Proofs.YtdppooflbjlbcaaDoor.I

/- Wwe -/
/- Layer 22: the reference's Attach where it answers. (Written by gen/wwe.py.) -/
namespace Go.Proofs.YtdppooflbjlbcaaDoor.I
open Go.ChangeShapes Go.WideShapes Go.ChangeAt Go.RowKit Go.PlainAid
set_option linter.unusedSimpArgs false
set_option linter.unusedVariables false

theorem step_append_sms {w : World} {ops : Array Oper} {o : Oper} {a : Act} {K : Act → World → Prop} {Q : Exit → Act → World → Prop} {E : Prop} (hg : o.guard = none) (s x : Operand)
    (hop : o.op = Op.call { callee := Callee.builtin Builtin.append, args := #[s, x], argTypes := #[24, 24] })
    (base m c : Nat) (L : List SM) (v : Value) (A : Option Addr) (hs : a.eval s = v) (hown : w.ownsRow base 51 4 v 0 (smrow [])) (hx : a.eval x = .slice A m c)
    (hp : SMs w A L) (hm : L.length = m) (hz : A = none → m = 0 ∧ c = 0) (hb : m ≤ 2199023255552) (hbase : base ≤ w.heap.size)
    (h : ∀ v' w', w'.ownsRow base 51 4 v' m (smrow L) → w.grownBy w' v.ownBlock → K (a.put o.dst v') w') : if Region.wanted o (yielded ops a.tmps) = true then Oper.wp Tryd.prog o a w K Q else E := by
  have hw : Region.wanted o (yielded ops a.tmps) = true := by simp [Region.wanted, hg]
  rw [if_pos hw]
  obtain ⟨i0, hi, hz0, hz1, hz2⟩ := info_parts infoSM
  cases A with
  | some ad =>
    exact wp_append_own w s x 24 hop base 51 i0 _ 4 64 Tryd.underlying24 hi hz0 hz1 hz2 rfl (by decide) v 0 (smrow []) hs hown ad m c (smrow L) hx (by rw [smrow_len, hm]) (sms_cell rfl hp) (smrow_cell _) (by unfold maxLen; omega) (by omega) hbase fun v' w' h1 h2 _ => h v' w' (by rw [Nat.zero_add] at h1; simpa [smrow] using h1) h2
  | none =>
    obtain ⟨rfl, rfl⟩ := hz rfl
    obtain rfl : L = [] := List.eq_nil_of_length_eq_zero hm
    have hrun := run_append_owned_none (P := Tryd.prog) (w := w) base 24 o.type 51 i0 4 Tryd.underlying24 hi v 0 (smrow []) hown
    unfold Oper.wp
    simp [execOp, hop, resolve, invoke, builtin, hs, hx, hrun, Result.andThen]
    exact h v w hown (World.grownBy.refl _ _)
set_option maxRecDepth 100000 in
set_option maxHeartbeats 16000000 in
theorem rat_right (u : CM) (i : Nat) (m : Me) {A0 : Option Addr} {n cap : Nat} {ms : List SM} (w : World) (hl : u.mm.length = u.mn) (hmn : u.mn ≤ 764877654105) (hw : Mes w u.mA u.mm) (hm : u.mm[i]? = some m) (hc : m.hc = true) (hn : ms.length = n) (hN : n ≤ 2199023255552) (hz : A0 = none → n = 0 ∧ cap = 0) (hs : SMs w A0 ms) (hq : ckQ m.c ms = 0) : Calls Tryd.prog 34 #[.agg #[.int .i64 u.fl, .string u.nm, .string u.su, .slice u.iA u.inn u.ic, .slice u.fA u.fn u.fc, .slice u.mA u.mn u.mc, .string u.so], .int .i64 i, .slice A0 n cap] w (AtRight u i m n ms w) := by
  obtain ⟨Q, hQ⟩ : ∃ Q, AtRight u i m n ms w = Q := ⟨_, rfl⟩
  have HQ := Lib.hid hQ
  rw [hQ]
  clear hQ
  obtain ⟨fl, nm, su, iA, inn, ic, is, fA, fn, fc, fs, mA, mn, mc, mm, so⟩ := u
  simp only at hl hw hm hmn ⊢
  have hi := get_ltF hm
  have hk0 : (0 : Int) ≤ (i : Int) := by omega
  have hk1 : (i : Int) < (mn : Int) := by omega
  rcases hw with h0 | ⟨g0, o0, rfl, hg0, hcell⟩
  · rw [h0] at hm; simp at hm
  have HCL := Lib.hid hcell
  have HLM := Lib.hid hm
  have HLL := Lib.hid hl
  obtain ⟨mok, _, _, _, m3, m4, m5, m6, m7, m8, m9, _⟩ := hcell i m hm
  rw [hc] at m3
  have HL := Lib.hid hs
  have HN := Lib.hid hn
  clear hcell hm hl hs hn mok hi
  go_enter Tryd.func34, Tryd.ntmps34
  go_upto_region 1 with fail
  obtain ⟨H0, H1, hB⟩ := two_laidS w (.cells #[.int .i64 fl, .string nm, .string su, .slice iA inn ic, .slice fA fn fc, .slice (some ⟨g0, o0, none⟩) mn mc, .string so] 69) (.cells #[.int .i64 0, .string ⟨#[]⟩, .string ⟨#[]⟩, .slice none 0 0, .slice none 0 0, .slice none 0 0, .string ⟨#[]⟩] 69)
  generalize (w.alloc (.cells #[.int .i64 fl, .string nm, .string su, .slice iA inn ic, .slice fA fn fc, .slice (some ⟨g0, o0, none⟩) mn mc, .string so] 69)).alloc (.cells #[.int .i64 0, .string ⟨#[]⟩, .string ⟨#[]⟩, .slice none 0 0, .slice none 0 0, .slice none 0 0, .string ⟨#[]⟩] 69) = W at H0 H1 hB ⊢
  have HB := Lib.hid hB
  have HU := Lib.hid H0
  have HZ := Lib.hid H1
  replace m3 := (hB.cell (p := ⟨g0, o0 + i * 11 + 3, none⟩) hg0).trans m3
  replace m4 := (hB.cell (p := ⟨g0, o0 + i * 11 + 4, none⟩) hg0).trans m4
  replace m5 := (hB.cell (p := ⟨g0, o0 + i * 11 + 5, none⟩) hg0).trans m5
  replace m6 := (hB.cell (p := ⟨g0, o0 + i * 11 + 6, none⟩) hg0).trans m6
  replace m7 := (hB.cell (p := ⟨g0, o0 + i * 11 + 7, none⟩) hg0).trans m7
  replace m8 := (hB.cell (p := ⟨g0, o0 + i * 11 + 8, none⟩) hg0).trans m8
  replace m9 := (hB.cell (p := ⟨g0, o0 + i * 11 + 9, none⟩) hg0).trans m9
  obtain ⟨u0, u1, u2, u3, u4, u5, u6⟩ := seven_cellsR H0
  have yu := lt_heap H0
  have ym := Nat.lt_of_lt_of_le hg0 hB.size
  have KC0 := rck_any (cap := cap) m.c W HN.out (by omega) (HL.out.up hB)
  rw [hq] at KC0
  have KC := Lib.hid KC0
  clear KC0 H0 H1 hB
  have HXO := Lib.hid (show ∀ x ∈ mm, x.ok w from fun x hx => by obtain ⟨k, hk⟩ := List.mem_iff_getElem?.1 hx; exact (HCL.out k x hk).1)
  go_upto_region 6 with (go_at_call 36; (with_reducible refine KC.out.mono ?_); rintro e w1 ⟨rfl, hb1⟩)
  have HB1 := Lib.hid (below_on HB.out hb1)
  have HU1 := Lib.hid ((hb1.block _ yu).trans HU.out)
  have HZ1 := Lib.hid ((hb1.block _ (lt_heap HZ.out)).trans HZ.out)
  have HMW := Lib.hid (show Mes w1 (some ⟨g0, o0, none⟩) mm from Or.inr ⟨g0, o0, rfl, Nat.lt_of_lt_of_le hg0 HB1.out.size, fun k x hx => ⟨(HCL.out k x hx).1.up HB1.out, (HCL.out k x hx).2.up hg0 HB1.out⟩⟩)
  clear u0 u1 u2 u3 u4 u5 u6 m3 m4 m5 m6 m7 m8 m9 yu ym KC hb1 HU HZ
  obtain ⟨u0, u1, u2, u3, u4, u5, u6⟩ := seven_cellsR HU1.out
  have yu := lt_heap HU1.out
  have hmp : 0 < mn := by omega
  go_upto_region 7 with fail
  have h0v := World.alloc_heap_new w1 (.cells #[.int .i64 fl, .string nm, .string su, .slice iA inn ic, .slice fA fn fc, .slice (some ⟨g0, o0, none⟩) mn mc, .string so] 69)
  have hbl := below_al (Below.refl _ w1) (.cells #[.int .i64 fl, .string nm, .string su, .slice iA inn ic, .slice fA fn fc, .slice (some ⟨g0, o0, none⟩) mn mc, .string so] 69)
  have HW1S := Lib.hid (lt_heap HZ1.out)
  generalize hbo : w1.heap.size = bo at h0v HW1S ⊢
  generalize w1.alloc (.cells #[.int .i64 fl, .string nm, .string su, .slice iA inn ic, .slice fA fn fc, .slice (some ⟨g0, o0, none⟩) mn mc, .string so] 69) = W2 at h0v hbl ⊢
  have HB2 := Lib.hid (below_on HB1.out hbl)
  have HU2 := Lib.hid ((hbl.block _ yu).trans HU1.out)
  have HZ2 := Lib.hid ((hbl.block _ (lt_heap HZ1.out)).trans HZ1.out)
  have HO2 := Lib.hid h0v
  have hbz := below_al (Below.refl _ W2) (.cells #[] 77)
  have HCS := Lib.hid (show ∀ j u, (mesrow mm)[j]? = some u → (W2.alloc (.cells #[] 77)).cell? ⟨g0, o0 + j, none⟩ = some u from fun j u hu => by
    have hbx := below_on HB2.out hbz
    exact mes_cell (w := W2.alloc (.cells #[] 77)) (g := g0) (o := o0) (fun k x hx => ⟨(HCL.out k x hx).1.up hbx, (HCL.out k x hx).2.up hg0 hbx⟩) j u hu)
  have hown0 := own_lit0Me (w := W2) (B := W2.heap.size) (Nat.le_refl _)
  clear u0 u1 u2 u3 u4 u5 u6 yu HU1 HZ1 HB1 HMW h0v hbl hbo
  obtain ⟨u0, u1, u2, u3, u4, u5, u6⟩ := seven_cellsR HU2.out
  have yu := lt_heap HU2.out
  have yo := lt_heap HO2.out
  have hza := Nat.lt_of_lt_of_le (lt_heap HZ2.out) (Nat.le_refl _)
  go_upto_region 8 with (at_builtin; refine wpList_append_mes (by rfl) _ _ (by rfl) W2.heap.size mn mc mm _ (by rfl) hown0 (by rfl) HCS.out HLL.out hmn (by simp) ?_; intro v1 wE ho1 hg1; have hbE := grown_own hbz hown0 hg1; obtain ⟨g, cp, hv1, _, _⟩ := ho1.form hmp; obtain rfl := hv1; have hoE := (hbE.block _ yo).trans HO2.out; have HOE := Lib.hid hoE; obtain ⟨v0, v1, v2, v3, v4, v5, v6⟩ := seven_cellsR hoE; have yv := lt_heap hoE; have fv := frozenS hoE 5; clear hoE)
  have h0 := heap_setCell_same wE bo 5 _ _ (.slice (some ⟨g, 0, none⟩) mn cp) HOE.out
  have HO5b := Lib.hid (show (wE.setCell ⟨bo, 5, none⟩ (.slice (some ⟨g, 0, none⟩) mn cp)).heap[bo]? = some (.cells #[.int .i64 fl, .string nm, .string su, .slice iA inn ic, .slice fA fn fc, .slice (some ⟨g, 0, none⟩) mn cp, .string so] 69) from h0)
  have HZ5 := Lib.hid (show (wE.setCell ⟨bo, 5, none⟩ (.slice (some ⟨g, 0, none⟩) mn cp)).heap[w.heap.size + 1]? = some (.cells #[.int .i64 0, .string ⟨#[]⟩, .string ⟨#[]⟩, .slice none 0 0, .slice none 0 0, .slice none 0 0, .string ⟨#[]⟩] 69) from (heap_setCell_other wE ⟨bo, 5, none⟩ (w.heap.size + 1) _ (by show w.heap.size + 1 ≠ bo; have := HW1S.out; omega)).trans ((hbE.block _ (lt_heap HZ2.out)).trans HZ2.out))
  have HB5 := Lib.hid (show Below w.heap.size w (wE.setCell ⟨bo, 5, none⟩ (.slice (some ⟨g, 0, none⟩) mn cp)) from below_st (below_on HB2.out hbE) (show w.heap.size ≤ bo by have := HW1S.out; omega) _)
  have ho5 := ownsRow_setCell_below ho1 (a := ⟨bo, 5, none⟩) yo (.slice (some ⟨g, 0, none⟩) mn cp)
  have hgE : W2.heap.size ≤ g := (ho1.lt g rfl).1
  have hwz := HW1S.out
  have HGW := Lib.hid (show w.heap.size ≤ g by omega)
  have HNE := Lib.hid (show bo ≠ g by omega)
  have HNE2 := Lib.hid (show w.heap.size + 1 ≠ g by omega)
  have hw1 : w.heap.size + 1 < W2.heap.size := by omega
  generalize W2.heap.size = w1s at ho5 hw1
  have HWQ := Lib.hid hw1
  clear h0 v0 v1 v2 v3 v4 v5 v6 yv fv u0 u1 u2 u3 u4 u5 u6 yu yo hbE ho1 hg1 hown0 hbz HCS HZ2 HU2 HB2 HO2 HOE hgE hwz hw1 hza
  generalize (wE.setCell ⟨bo, 5, none⟩ (.slice (some ⟨g, 0, none⟩) mn cp)) = W5 at HO5b HZ5 HB5 ho5 ⊢
  have cg5 : W5.cell? ⟨g, i * 11 + 8, none⟩ = some (.slice m.c.mA m.c.mn m.c.mc) := by
    rw [ho5.cellAt _ (by omega), mesrow_at mm i 8 m (by decide) HLM.out]; rfl
  have fg5 : W5.frozen? ⟨g, i * 11 + 8, none⟩ = false := ho5.frozenAt _
  have hg5 : g < W5.heap.size := (ho5.lt g rfl).2
  have cu5 : W5.cell? ⟨bo, 5, none⟩ = some (.slice (some ⟨g, 0, none⟩) mn cp) := (seven_cellsR HO5b.out).2.2.2.2.2.1
  have yu5 := lt_heap HO5b.out
  have HO5 := Lib.hid ho5
  have HSL := Lib.hid (fun (W' : World) (hW : Below W5.heap.size W5 W') => HL.out.up (below_on HB5.out hW))
  clear ho5
  refine regN_start (N := 9) (S := (fun W' : World => W'.cell? ⟨bo, 5, none⟩ = some (.slice (some ⟨g, 0, none⟩) mn cp) ∧ Below W5.heap.size W5 W')) (by kernel_rfl) ?_
  change wpAnyN _ _ _ _ _ _ _ #[false, false, false, false, false, false, false, false, false, false] _ (World.drew _)
  have hS0 := (show (fun W' : World => W'.cell? ⟨bo, 5, none⟩ = some (.slice (some ⟨g, 0, none⟩) mn cp) ∧ Below W5.heap.size W5 W') W5.drew from ⟨cu5, (Below.refl _ _).drew⟩)
  refine regN_take (i := 0) (d := (some 47)) (v := ?v8x1) (l2 := #[true, false, false, false, false, false, false, false, false, false]) rfl rfl rfl (by kernel_rfl) (by kernel_rfl) (by kernel_rfl) (by kernel_rfl) (fun _ _ _ h => h) (by rfl) ?hv8x1 hS0 ?h8x1
  case hv8x1 => intro u hSu; clear hSu; go_simp; (try with_reducible rfl)
  (try simp only [Act.put, List.setIfInBounds_toArray, List.set_cons_zero, List.set_cons_succ])
  refine regN_take (i := 1) (d := (some 48)) (v := ?v8x2) (l2 := #[true, true, false, false, false, false, false, false, false, false]) rfl rfl rfl (by kernel_rfl) (by kernel_rfl) (by kernel_rfl) (by kernel_rfl) (fun _ _ _ h => h) (by rfl) ?hv8x2 hS0 ?h8x2
  case hv8x2 => intro u hSu; (try dsimp only at hSu); (try go_split_ands); go_simp; (try with_reducible rfl)
  (try simp only [Act.put, List.setIfInBounds_toArray, List.set_cons_zero, List.set_cons_succ])
  refine regN_take (i := 2) (d := (some 49)) (v := ?v8x3) (l2 := #[true, true, true, false, false, false, false, false, false, false]) rfl rfl rfl (by kernel_rfl) (by kernel_rfl) (by kernel_rfl) (by kernel_rfl) (fun _ _ _ h => h) (by rfl) ?hv8x3 hS0 ?h8x3
  case hv8x3 => intro u hSu; clear hSu; go_simp; (try with_reducible rfl)
  (try simp only [Act.put, List.setIfInBounds_toArray, List.set_cons_zero, List.set_cons_succ])
  refine regN_take (i := 4) (d := (some 51)) (v := ?v8x4) (l2 := #[true, true, true, false, true, false, false, false, false, false]) rfl rfl rfl (by kernel_rfl) (by kernel_rfl) (by kernel_rfl) (by kernel_rfl) (fun _ _ _ h => h) (by rfl) ?hv8x4 hS0 ?h8x4
  case hv8x4 => intro u hSu; clear hSu; go_simp; (try with_reducible rfl)
  (try simp only [Act.put, List.setIfInBounds_toArray, List.set_cons_zero, List.set_cons_succ])
  refine regN_ready (rs := [3]) (by kernel_rfl) (by simp) ?_
  refine (AllN.cons (i := 3) (l2 := #[true, true, true, true, true, false, false, false, false, false]) rfl rfl (fun K hK => ?_) AllN.nil)
  go_simp
  have hS1 : ((fun W' : World => W'.cell? ⟨bo, 5, none⟩ = some (.slice (some ⟨g, 0, none⟩) mn cp) ∧ Below W5.heap.size W5 W') : World → Prop) _ := (show (fun W' : World => W'.cell? ⟨bo, 5, none⟩ = some (.slice (some ⟨g, 0, none⟩) mn cp) ∧ Below W5.heap.size W5 W') _ from ⟨(((below_al (Below.refl W5.heap.size W5).drew (.cells #[] 51))).cell (p := ⟨bo, 5, none⟩) yu5).trans cu5, (below_al (Below.refl W5.heap.size W5).drew (.cells #[] 51))⟩)
  refine hK _ _ (fun _ => hS1) ?_
  clear hK K
  (try simp only [Act.put, List.setIfInBounds_toArray, List.set_cons_zero, List.set_cons_succ])
  refine regN_ready (rs := [5]) (by kernel_rfl) (by simp) ?_
  refine (AllN.cons (i := 5) (l2 := #[true, true, true, true, true, true, false, false, false, false]) rfl rfl (fun K hK => ?_) AllN.nil)
  refine step_append_sms (by rfl) _ _ (by rfl) W5.heap.size n cap ms _ _ (by rfl) (own_lit0M (w := W5.drew) (B := W5.heap.size) (Nat.le_refl _)) (by rfl) (HSL.out _ (below_al (Below.refl W5.heap.size W5).drew (.cells #[] 51))) HN.out hz hN ((below_al (Below.refl W5.heap.size W5).drew (.cells #[] 51))).size ?_
  intro v10 w10 ho10 hg10
  have hb11 : Below W5.heap.size W5 w10 := grown_own (below_al (Below.refl W5.heap.size W5).drew (.cells #[] 51)) (own_lit0M (w := W5.drew) (B := W5.heap.size) (Nat.le_refl _)) hg10
  obtain ⟨A10, c10, rfl, _, _, _⟩ := own_form ho10
  have cg := (hb11.cell (p := ⟨g, i * 11 + 8, none⟩) hg5).trans cg5
  have fg := (hb11.frozen (p := ⟨g, i * 11 + 8, none⟩) hg5).trans fg5
  have yg := Nat.lt_of_lt_of_le hg5 hb11.size
  have HBN := Lib.hid hb11
  have HO10 := Lib.hid (show OwnOr w10 W5.heap.size A10 n c10 ms from Or.inr ho10)
  clear hb11 ho10 hg10
  have hS2 : ((fun W' : World => W'.cell? ⟨bo, 5, none⟩ = some (.slice (some ⟨g, 0, none⟩) mn cp) ∧ Below W5.heap.size W5 W') : World → Prop) _ := (show (fun W' : World => W'.cell? ⟨bo, 5, none⟩ = some (.slice (some ⟨g, 0, none⟩) mn cp) ∧ Below W5.heap.size W5 W') _ from ⟨(HBN.out.cell (p := ⟨bo, 5, none⟩) yu5).trans cu5, HBN.out⟩)
  refine hK _ _ (fun _ => hS2) ?_
  clear hK K
  (try simp only [Act.put, List.setIfInBounds_toArray, List.set_cons_zero, List.set_cons_succ])
  refine regN_takeC [8, 7] (i := 6) (d := (some 53)) (v := ?v8x5) (l2 := #[true, true, true, true, true, true, true, false, false, false]) rfl rfl rfl (by kernel_rfl) (by kernel_rfl) (by kernel_rfl) (by kernel_rfl) (fun _ _ _ h => h) (by rfl) ?hv8x5 hS2 ?h8x5
  case hv8x5 => intro u hSu; clear hSu; go_simp; (try with_reducible rfl)
  (try simp only [Act.put, List.setIfInBounds_toArray, List.set_cons_zero, List.set_cons_succ])
  refine regN_takeC [8] (i := 7) (d := (some 54)) (v := ?v8x6) (l2 := #[true, true, true, true, true, true, true, true, false, false]) rfl rfl rfl (by kernel_rfl) (by kernel_rfl) (by kernel_rfl) (by kernel_rfl) (fun _ _ _ h => h) (by rfl) ?hv8x6 hS2 ?h8x6
  case hv8x6 => intro u hSu; clear hSu; go_simp; (try with_reducible rfl)
  (try simp only [Act.put, List.setIfInBounds_toArray, List.set_cons_zero, List.set_cons_succ])
  refine regN_take (i := 8) (d := (some 55)) (v := ?v8x7) (l2 := #[true, true, true, true, true, true, true, true, true, false]) rfl rfl rfl (by kernel_rfl) (by kernel_rfl) (by kernel_rfl) (by kernel_rfl) (fun _ _ _ h => h) (by rfl) ?hv8x7 hS2 ?h8x7
  case hv8x7 => intro u hSu; clear hSu; go_simp; (try with_reducible rfl)
  (try simp only [Act.put, List.setIfInBounds_toArray, List.set_cons_zero, List.set_cons_succ])
  refine regN_ready (rs := [9]) (by kernel_rfl) (by simp) ?_
  refine (AllN.cons (i := 9) (l2 := #[true, true, true, true, true, true, true, true, true, true]) rfl rfl (fun K hK => ?_) AllN.nil)
  go_simp
  refine hK _ _ (fun h => absurd rfl h) ?_
  clear hK K
  (try simp only [Act.put, List.setIfInBounds_toArray, List.set_cons_zero, List.set_cons_succ])
  refine regN_done (by kernel_rfl) ?_ _
  have HO6 := Lib.hid ((heap_setCell_other w10 ⟨g, i * 11 + 8, none⟩ bo (.slice A10 n c10) HNE.out).trans ((HBN.out.block _ yu5).trans HO5b.out))
  have HZ6 := Lib.hid ((heap_setCell_other w10 ⟨g, i * 11 + 8, none⟩ (w.heap.size + 1) (.slice A10 n c10) HNE2.out).trans ((HBN.out.block _ (lt_heap HZ5.out)).trans HZ5.out))
  have hP6 : AtQ w g mn cp i n c10 w1s W5.heap.size mm A10 ms (w10.setCell ⟨g, i * 11 + 8, none⟩ (.slice A10 n c10)) := ⟨((own_below HO5.out HBN.out).stored (i * 11 + 8) _).1, HO10.out.set (a := ⟨g, i * 11 + 8, none⟩) hg5 _, below_st (below_on HB5.out HBN.out) (show w.heap.size ≤ g by have := HGW.out; omega) _⟩
  have HP6 := Lib.hid hP6
  have HZ5L := Lib.hid (lt_heap HZ5.out)
  clear hP6 cg fg yg cg5 fg5 cu5
  generalize w10.setCell ⟨g, i * 11 + 8, none⟩ (.slice A10 n c10) = W6 at HO6 HZ6 HP6 ⊢
  obtain ⟨u0, u1, u2, u3, u4, u5, u6⟩ := seven_cellsR HO6.out
  obtain ⟨z0, z1, z2, z3, z4, z5, z6⟩ := seven_cellsR HZ6.out
  have yu6 := lt_heap HO6.out
  have yz6 := lt_heap HZ6.out
  have fz0 := frozenS HZ6.out 0
  have fz1 := frozenS HZ6.out 1
  have fz2 := frozenS HZ6.out 2
  have fz3 := frozenS HZ6.out 3
  have fz4 := frozenS HZ6.out 4
  have fz5 := frozenS HZ6.out 5
  have fz6 := frozenS HZ6.out 6
  go_wp2
  refine bodyPost_ret (cm_ret rfl rfl (set_seven HZ6.out)) rfl ?_
  rw [← HQ.out]
  have hl1 : w.heap.size + 1 < w1s := HWQ.out
  have hl2 : w.heap.size + 1 < W5.heap.size := HZ5L.out
  refine ⟨g, cp, A10, c10, rfl, AtQ.fin (cp := cp) (nn := n) (b1 := w1s) (b2 := W5.heap.size) (m := m) ?_ HLL.out HLM.out HN.out (by omega) HXO.out (HL.out.fok)⟩
  refine AtQ.stp ?_ hl1 hl2 (Nat.le_succ _) 6 _
  refine AtQ.stp ?_ hl1 hl2 (Nat.le_succ _) 5 _
  refine AtQ.stp ?_ hl1 hl2 (Nat.le_succ _) 4 _
  refine AtQ.stp ?_ hl1 hl2 (Nat.le_succ _) 3 _
  refine AtQ.stp ?_ hl1 hl2 (Nat.le_succ _) 2 _
  refine AtQ.stp ?_ hl1 hl2 (Nat.le_succ _) 1 _
  refine AtQ.stp ?_ hl1 hl2 (Nat.le_succ _) 0 _
  exact HP6.out
end Go.Proofs.YtdppooflbjlbcaaDoor.I
