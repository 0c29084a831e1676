/- Layer 53: scan: operators. -/
import Derived.Test.YtfpdnhbbbadegaaGreatDoorYm
import Derived.Test.YtfpdnhbbbadegaaGreatDoorNameCls
namespace Go.Proofs.YtfpdnhbbbadegaaGreatDoor
open Go.ChangeShapes Go.WideShapes Go.ChangeAt Go.RowKit Go.PlainAid Go.Shelf
set_option linter.unusedSimpArgs false
set_option linter.unusedVariables false
attribute [local go_sem] Oper.semAt_some

theorem fseq_any (s : ByteArray) (w : World) :
    Calls Tryz.prog 41 #[.string s] w fun e w' =>
      e = .returned (.func (.func 70) #[] #[.pointer (some ⟨w.heap.size, 0, none⟩)]) ∧ w' = w.alloc (.cells #[.string s] 9) := by
  go_enter Tryz.func41, Tryz.ntmps41
  go_wp2
  go_ret
  exact ⟨rfl, rfl⟩

theorem put_heap {W : World} {l k : Nat} {o o2 : Obj} (hk : k ≠ l) (h : W.heap[k]? = some o2) : (W.putObj l o).heap[k]? = some o2 := (World.putObj_heap_other hk).trans h
/-- scan's boxes while the operators still to be tried are ws -/
structure OpJ (w : World) (s : ByteArray) (ws : List (List UInt8)) (W : World) : Prop where
  cs : W.heap[w.heap.size]? = some (.cells #[.string s] 9)
  ct : W.heap[w.heap.size + 1]? = some (.cells #[.int .i64 0, .string ⟨#[]⟩, .int .i64 0, .int .i64 0] 27)
  ci : W.heap[w.heap.size + 1 + 1]? = some (.cells #[.int .i64 0] 3)
  cx : W.heap[w.heap.size + 1 + 1 + 1]? = some (.cells #[.string opT] 9)
  bl : Below w.heap.size w W
  fd : opL.find? (·.isPrefixOf s.data.toList) = ws.find? (·.isPrefixOf s.data.toList)
theorem OpJ.put {w : World} {s : ByteArray} {ws : List (List UInt8)} {W : World} {l : Nat} {o : Obj} (h : OpJ w s ws W) (hl : w.heap.size + 1 + 1 + 1 < l) : OpJ w s ws (W.putObj l o) :=
  ⟨put_heap (by omega) h.cs, put_heap (by omega) h.ct, put_heap (by omega) h.ci, put_heap (by omega) h.cx, put_below h.bl (Nat.le_refl _) (by omega), h.fd⟩
/-- .. when one has been found -/
structure OpX (w : World) (s : ByteArray) (W : World) : Prop where
  bl : Below w.heap.size w W
  fd : ∃ o, opL.find? (·.isPrefixOf s.data.toList) = some o ∧ W.heap[w.heap.size + 1]? = some (.cells #[.int .i64 6, .string (bsB o), .int .i64 0, .int .i64 0] 27) ∧ W.heap[w.heap.size + 1 + 1]? = some (.cells #[.int .i64 (o.length : Nat)] 3)
theorem OpX.put {w : World} {s : ByteArray} {W : World} {l : Nat} {o : Obj} (h : OpX w s W) (hl : w.heap.size + 1 + 1 + 1 < l) : OpX w s (W.putObj l o) := by
  obtain ⟨hb, x, h1, h2, h3⟩ := h
  exact ⟨put_below hb (Nat.le_refl _) (by omega), x, h1, put_heap (by omega) h2, put_heap (by omega) h3⟩
theorem opj_start (w : World) (s : ByteArray) : OpJ w s (fsq [] opT.data.toList) ((((w.alloc (.cells #[.string s] 9)).alloc (.cells #[.int .i64 0, .string ⟨#[]⟩, .int .i64 0, .int .i64 0] 27)).alloc (.cells #[.int .i64 0] 3)).alloc (.cells #[.string opT] 9)) := by
  have hb := box_below w s
  have g := fun k o (h : (boxS w s).heap[k]? = some o) => (Below.heap_alloc (boxS w s) (.cells #[.string opT] 9) k (lt_heap h)).trans h
  refine ⟨g _ _ (box_str w s), g _ _ (box_tok w s), g _ _ (box_int w s), ?_, below_al hb _, by rw [op_fsq]⟩
  have := World.alloc_heap_new (boxS w s) (.cells #[.string opT] 9)
  rwa [show (boxS w s).heap.size = w.heap.size + 1 + 1 + 1 by unfold boxS; simp only [World.size_alloc]] at this
theorem op_yes {s : ByteArray} {o : List UInt8} (h : opL.find? (·.isPrefixOf s.data.toList) = some o) : scV (scOp s.data.toList) = .tuple #[.agg #[.int .i64 6, .string (bsB o), .int .i64 0, .int .i64 0], .int .i64 (o.length : Nat)] := by unfold scOp; rw [h]; rfl
theorem op_no {s : ByteArray} (h : opL.find? (·.isPrefixOf s.data.toList) = none) : scV (scOp s.data.toList) = .tuple #[.agg #[.int .i64 0, .string ⟨#[]⟩, .int .i64 0, .int .i64 0], .int .i64 0] := by unfold scOp; rw [h]; rfl

set_option maxRecDepth 100000 in
set_option maxHeartbeats 2000000 in
theorem scan_op_in (s : ByteArray) (hs : s.size ≤ 5000000) (h0 : 0 < s.size) (w : World) (hL : Laid w) (h1 : letB (bt s 0) = false) (h2 : digB (bt s 0) = false) (h3 : bt s 0 ≠ 34) :
    CallsIn Fence.wide 3 Tryz.prog 18 #[.string s] w fun e w' => e = .returned (scV (scOp s.data.toList)) ∧ Below w.heap.size w w' := by
  have hb := get_bt s
  have hb0 := bt_nonneg s 0
  have hb1 := bt_le s 0
  have e3 : (bt s 0 == 34) = false := by simpa using h3
  have K1 := Lib.hid (fun W => fseq_any opT W)
  unfold opT at K1
  have HLD := Lib.hid hL
  clear h3 hL
  refine callsIn_of_wp_marks Tryz.func18 rfl trivial ?_ rfl
  simp only [Tryz.ntmps18, List.size_toArray, List.length_cons, List.length_nil, Nat.reduceAdd, Nat.reduceSub, Array.replicate_succ, Array.replicate_zero, List.push_toArray, List.append_toArray, List.nil_append, List.cons_append]
  gi_wp2_with (first | (refine ⟨trivial, ?_⟩; gi_at_call 36; refine (callsIn_wide.2 (llet_any _ _)).mono ?_; rintro e w' ⟨rfl, rfl⟩; rw [h1]) | (refine ⟨trivial, ?_⟩; gi_at_call 38; refine (callsIn_wide.2 (ldig_any _ _)).mono ?_; rintro e w' ⟨rfl, rfl⟩; rw [h2]) | (refine ⟨trivial, ?_⟩; gi_at_call 41; refine (callsIn_wide.2 (K1.out _)).mono ?_; rintro e w' ⟨rfl, rfl⟩))
  have hJ0 := opj_start w s
  have hL0 := HLD.out.up hJ0.bl
  have hs0 : (((((w.alloc (.cells #[.string s] 9)).alloc (.cells #[.int .i64 0, .string ⟨#[]⟩, .int .i64 0, .int .i64 0] 27)).alloc (.cells #[.int .i64 0] 3)).alloc (.cells #[.string opT] 9))).heap.size = w.heap.size + 4 := by simp
  unfold opT at hJ0 hL0 hs0
  generalize ((((w.alloc (.cells #[.string s] 9)).alloc (.cells #[.int .i64 0, .string ⟨#[]⟩, .int .i64 0, .int .i64 0] 27)).alloc (.cells #[.int .i64 0] 3)).alloc (.cells #[.string ⟨#[62, 62, 62, 32, 60, 60, 32, 62, 62, 32, 61, 61, 32, 33, 61, 32, 60, 61, 32, 62, 61, 32, 38, 38, 32, 124, 124, 32, 123, 32, 125, 32, 40, 32, 41, 32, 91, 32, 93, 32, 59, 32, 44, 32, 46, 32, 61, 32, 43, 32, 45, 32, 42, 32, 47, 32, 37, 32, 38, 32, 124, 32, 94, 32, 33, 32, 60, 32, 62]⟩] 9)) = W0 at hJ0 hL0 hs0 ⊢
  refine range_by (F := Fence.wide) rfl (by omega) (gf := 70) (lb := #[.pointer (some ⟨w.heap.size + 1 + 1 + 1, 0, none⟩)]) rfl trivial (enters_of Tryz.func70 (by kernel_rfl) rfl)
    (fun x : ByteArray => #[.string x]) (fun _ => rfl)
    (fun x => { tmps := #[.string s, .pointer (some ⟨w.heap.size, 0, none⟩), .pointer (some ⟨w.heap.size + 1, 0, none⟩), .pointer (some ⟨w.heap.size + 1 + 1, 0, none⟩), .int .u8 (bt s 0), .string x, .string s, .int .u8 (bt s 0), .bool false, .int .u8 (bt s 0), .bool false, undef, undef, undef, undef, .bool false, .int .u8 (bt s 0), .bool false, undef, undef, undef, undef, .bool false, .int .u8 (bt s 0), .bool false, undef, undef, undef, undef, .func (.func 70) #[] #[.pointer (some ⟨w.heap.size + 1 + 1 + 1, 0, none⟩)], .string x, undef, undef, undef, undef, undef, undef, undef, undef], defers := [] }) ?assign ?it
  case assign =>
    intro l x W K hK
    gi_wp2
    exact hK
  case it =>
    intro l D Rd Dn W1 hD hDl hl hb1 hsz hRd hRl hDnl hY hR1
    have hJ1 : OpJ w s (fsq [] opT.data.toList) W1 := by
      have up : ∀ k o, W0.heap[k]? = some o → W1.heap[k]? = some o := fun k o h => (hb1.block k (lt_heap h)).trans h
      exact ⟨up _ _ hJ0.cs, up _ _ hJ0.ct, up _ _ hJ0.ci, up _ _ hJ0.cx, hJ0.bl.trans (hb1.mono hJ0.bl.size), hJ0.fd⟩
    have HLD2 := HLD
    clear hJ0 hL0
    refine (fseq_in Fence.wide 2 trivial rfl (by omega) l (w.heap.size + 1 + 1 + 1) opT (by decide) op_ascii (fun ws W => Rd W ∧ OpJ w s ws W) (fun W => Dn W ∧ OpX w s W) ?_ ?_ W1 ⟨hR1, hJ1⟩).mono ?_
    · rintro ws W ⟨_, h⟩
      refine ⟨(one_cellT h.cx).1, fun c hc => ?_⟩
      rw [(HLD2.out.up h.bl).sp.cell rfl c (by rw [Lib.asciiSpaceTab_length]; exact hc), Lib.asciiSpaceTab_at c hc]
    · rintro x ws W hx ⟨h1, h2⟩
      refine hY x _ W h1 fun o => ?_
      have hll := hRl W h1
      have hj := h2.put (o := o) (l := l) (by omega)
      generalize W.putObj l o = V at *
      obtain ⟨s0, sf, sy⟩ := one_cellT hj.cs
      obtain ⟨⟨z0, z1, z2, z3⟩, fz, yz⟩ := four_cellsT hj.ct
      obtain ⟨i0, fi, yi⟩ := one_cellT hj.ci
      have HJ := Lib.hid hj
      clear hj h2
      cases hp : x.data.toList.isPrefixOf s.data.toList with
      | false =>
        gi_wp2_with (refine ⟨trivial, ?_⟩; gi_at_call 35; refine (CallsIn.inRound l (callsIn_wide.2 (xpfx_any s x _))).mono ?_; rintro e w' ⟨rfl, rfl⟩; rw [hp])
        refine ⟨KeepsFrom.refl _ _, fun o2 hR => .inl ⟨rfl, hR, ?_⟩⟩
        have h := HJ.out.put (o := o2) (l := l) (by omega)
        refine ⟨h.cs, h.ct, h.ci, h.cx, h.bl, ?_⟩
        rw [h.fd, List.find?_cons_of_neg (by rw [hp]; decide)]
      | true =>
        gi_wp2_with (refine ⟨trivial, ?_⟩; gi_at_call 35; refine (CallsIn.inRound l (callsIn_wide.2 (xpfx_any s x _))).mono ?_; rintro e w' ⟨rfl, rfl⟩; rw [hp])
        have K := both_cells (show w.heap.size + 1 ≠ w.heap.size + 1 + 1 by omega) HJ.out.ct HJ.out.ci (.int .i64 6) (.string x) (.int .i64 0) (.int .i64 0) (.int .i64 x.size)
        refine ⟨((KeepsOthers.setCell _ _ _).trans ((KeepsOthers.setCell _ _ _).trans ((KeepsOthers.setCell _ _ _).trans ((KeepsOthers.setCell _ _ _).trans (KeepsOthers.setCell _ _ _))))).from _, fun o2 hR => .inr ⟨rfl, hR, ?_⟩⟩
        refine OpX.put ⟨below_st (four_belowT HJ.out.bl (Nat.le_succ _)) (by show w.heap.size ≤ w.heap.size + 1 + 1; omega) _, x.data.toList, ?_, ?_, ?_⟩ (by omega)
        · rw [HJ.out.fd, List.find?_cons_of_pos (by rw [hp])]
        · rw [← bsB_of rfl]; exact K.1
        · rw [len_data]; exact K.2
    · rintro e W2 ⟨hv, ⟨h1, hj⟩ | ⟨h1, hx⟩⟩
      · refine ⟨hv, .inl ⟨h1, fun o hd => ?_⟩⟩
        have hj := hj.put (o := o) (l := l) (by omega)
        have HNO := Lib.hid (op_no (hj.fd.trans rfl))
        generalize W2.putObj l o = V at *
        obtain ⟨⟨z0, z1, z2, z3⟩, fz, yz⟩ := four_cellsT hj.ct
        obtain ⟨i0, fi, yi⟩ := one_cellT hj.ci
        have K := both_cells (show w.heap.size + 1 ≠ w.heap.size + 1 + 1 by omega) hj.ct hj.ci (.int .i64 0) (.string ⟨#[]⟩) (.int .i64 0) (.int .i64 0) (.int .i64 0)
        have KD : (((((V.setCell ⟨w.heap.size + 1, 0, none⟩ (.int .i64 0)).setCell ⟨w.heap.size + 1, 1, none⟩ (.string ⟨#[]⟩)).setCell ⟨w.heap.size + 1, 2, none⟩ (.int .i64 0)).setCell ⟨w.heap.size + 1, 3, none⟩ (.int .i64 0)).setCell ⟨w.heap.size + 1 + 1, 0, none⟩ (.int .i64 0)).heap[D]? = some (.deferred (some [])) :=
          (Below.heap_setCell _ _ _ _ (by show D ≠ w.heap.size + 1 + 1; omega)).trans ((four_otherT (by omega)).trans hd)
        have KB : Below w.heap.size w (((((V.setCell ⟨w.heap.size + 1, 0, none⟩ (.int .i64 0)).setCell ⟨w.heap.size + 1, 1, none⟩ (.string ⟨#[]⟩)).setCell ⟨w.heap.size + 1, 2, none⟩ (.int .i64 0)).setCell ⟨w.heap.size + 1, 3, none⟩ (.int .i64 0)).setCell ⟨w.heap.size + 1 + 1, 0, none⟩ (.int .i64 0)) :=
          below_st (four_belowT hj.bl (Nat.le_succ _)) (by show w.heap.size ≤ w.heap.size + 1 + 1; omega) _
        have KK := Lib.hid K
        have KKD := Lib.hid KD
        clear K KD
        gi_wp2
        refine ⟨by simp, .inl ⟨_, _, rfl, run_takeDeferred KKD.out, ?_⟩⟩
        exact ⟨_, sc_ret (a := ⟨_, []⟩) rfl rfl rfl (put_heap (by omega) KK.out.1) (put_heap (by omega) KK.out.2), by rw [HNO.out], put_below KB (Nat.le_refl _) (by omega)⟩
      · refine ⟨hv, .inr ⟨h1, fun o hd => ?_⟩⟩
        have hx := hx.put (o := o) (l := l) (by omega)
        generalize W2.putObj l o = V at *
        obtain ⟨hbl, x, f1, f2, f3⟩ := hx
        have HY := Lib.hid (op_yes f1)
        gi_wp2
        refine ⟨by simp, .inl ⟨_, _, rfl, run_takeDeferred hd, ?_⟩⟩
        exact ⟨_, sc_ret (a := ⟨_, []⟩) rfl rfl rfl (put_heap (by omega) f2) (put_heap (by omega) f3), by rw [HY.out], put_below hbl (Nat.le_refl _) (by omega)⟩

theorem scan_any (s : ByteArray) (hs : s.size ≤ 5000000) (h0 : 0 < s.size) (w : World) (hL : Laid w) : Calls Tryz.prog 18 #[.string s] w fun e w' => e = .returned (scV (scL s.data.toList)) ∧ Below w.heap.size w w' := by
  obtain ⟨c, r, hd, hc, hr⟩ := drop_bt h0
  rw [List.drop_zero] at hd
  have hsc := sc_cons c r
  rw [← hd] at hsc
  rw [hsc]
  cases h1 : letB (bt s 0) with
  | true => rw [if_pos (by unfold lt8; rw [hc, h1])]; exact scan_letter s hs h0 w hL h1
  | false =>
    rw [if_neg (by unfold lt8; rw [hc, h1]; decide)]
    cases h2 : digB (bt s 0) with
    | true => rw [if_pos (by unfold dg8; rw [hc, h2])]; exact scan_digit s hs h0 w hL h1 h2
    | false =>
      rw [if_neg (by unfold dg8; rw [hc, h2]; decide)]
      by_cases h3 : bt s 0 = 34
      · rw [if_pos (by omega)]; exact scan_quote s hs h0 w hL h1 h2 h3
      · rw [if_neg (by omega)]; exact callsIn_wide.1 (scan_op_in s hs h0 w hL h1 h2 h3)

end Go.Proofs.YtfpdnhbbbadegaaGreatDoor
