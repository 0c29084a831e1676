/- Layer 16: reached. -/
import Derived.Test.YthifmcnemeiphaaDoorHf
namespace Go.Proofs.YthifmcnemeiphaaDoor
open Go.ChangeShapes Go.WideShapes Go.ChangeAt Go.RowKit Go.PlainAid Go.Maps
set_option linter.unusedSimpArgs false
set_option linter.unusedVariables false

def RchRet (L : List CI) (f : Nat) (w : World) (e : Ending) (w' : World) : Prop := ∃ g, e = .returned (.slice (some ⟨g, 0, none⟩) L.length L.length) ∧ w'.heap[g]? = some (.cells (mks (rcL L f)) 4) ∧ w.heap.size ≤ g ∧ Below w.heap.size w w'
theorem infoB : (Tryd.prog.info? 4).map (fun i => (i.zero, i.size, i.bytes)) = some (some (.bool false), 1, 1) := by kernel_rfl
theorem own_full {w : World} {base e n g : Nat} {xs : List Value} (h : w.ownsRow base e 1 (.slice (some ⟨g, 0, none⟩) n n) n xs) : w.heap[g]? = some (.cells xs.toArray e) := by
  rcases h.2 with ⟨hv, _⟩ | ⟨g', cap, cur, hv, _, h1, _, _, h2, h3⟩
  · cases hv
  · have e1 : g = g' := by injection hv with h _ _; injection h with h; injection h
    have e2 : n = cap := by injection hv
    subst e1 e2
    rw [h1, ← h3, List.take_of_length_le (by simp; omega)]
theorem nil_or_snoc (O : List Nat) : O = [] ∨ ∃ (O' : List Nat) (i : Nat), O = O' ++ [i] := by
  rcases List.eq_nil_or_concat O with h | ⟨l, a, h⟩
  · exact Or.inl h
  · exact Or.inr ⟨l, a, by rw [h, List.concat_eq_append]⟩
theorem own_room {w : World} {base e size n c : Nat} {A : Option Addr} {xs : List Value} (h : w.ownsRow base e size (.slice A n c) n xs) : n ≤ c ∧ c ≤ maxLen := by
  obtain ⟨A', c', hv, h1, h2⟩ := own_shape h
  obtain rfl : c = c' := by injection hv
  exact ⟨h1, h2⟩
theorem RS.pop {w0 : World} {n : Nat} {F : Value} {fB mB oB mR i g cap : Nat} {M : List Bool} {O : List Nat} {W : World} (R : RS w0 n F fB mB oB mR M (O ++ [i]) W) (hv : W.heap[oB]? = some (.cells #[.slice (some ⟨g, 0, none⟩) (O.length + 1) cap] 91)) (ho : W.ownsRow w0.heap.size 3 1 (.slice (some ⟨g, 0, none⟩) (O.length + 1) cap) (O.length + 1) (ints (O ++ [i]))) :
    RS w0 n F fB mB oB mR M O (W.setCell ⟨oB, 0, none⟩ (.slice (some ⟨g, 0, none⟩) O.length cap)) := by
  have hk : ∀ k, k ≠ oB → (W.setCell ⟨oB, 0, none⟩ (.slice (some ⟨g, 0, none⟩) O.length cap)).heap[k]? = W.heap[k]? := fun k hk => heap_setCell_other W ⟨oB, 0, none⟩ k _ hk
  have ne : ∀ {k : Nat} {cs : Array Value} {t : TypeId}, W.heap[k]? = some (.cells cs t) → t ≠ 91 → k ≠ oB := by
    rintro k cs t h ht rfl
    rw [hv] at h
    injection h with h
    injection h with _ h
    exact ht h.symm
  refine ⟨(hk _ (ne R.fb (by decide))).trans R.fb, (hk _ (ne R.mb (by decide))).trans R.mb, (hk _ (ne R.mr (by decide))).trans R.mr, R.ml, ⟨_, Boxed.set _ hv, ?_⟩, below_st R.bel R.lo.2 _, R.lo⟩
  rcases ho.2 with ⟨hx, _⟩ | ⟨g', cap', cur, hx, h0, h1, h2, h3, h4, h5⟩
  · cases hx
  · obtain rfl : g = g' := by injection hx with hx _ _; injection hx with hx; injection hx
    obtain rfl : cap = cap' := by injection hx
    refine ⟨by unfold ints; simp, Or.inr ⟨g, cap, cur, rfl, h0, (hk _ (ne h1 (by decide))).trans h1, by omega, h3, h4, ?_⟩⟩
    have h6 := congrArg (List.take (O.length * 1)) h5
    rw [List.take_take, Nat.min_eq_left (by omega)] at h6
    rw [h6]
    unfold ints
    rw [List.map_append, List.take_append_of_le_length (by simp), List.take_of_length_le (by simp)]
theorem ci_below {w W : World} {A : Option Addr} {L : List CI} {i j : Nat} (h : CIs w w.heap.size A L) (hb : Below w.heap.size w W) (hi : i < L.length) (hj : j < L[i].fs.length) :
    ∃ g o, L[i].iA = some ⟨g, o, none⟩ ∧ W.cell? ⟨g, o + j, none⟩ = some (.string L[i].fs[j]) ∧ L[i].fs[j].size ≤ 9223372036854775807 := by
  have hok := h.ok (List.getElem_mem hi)
  obtain ⟨g, o, h1, h2, h3⟩ := hok.2.2.2.2.2.1.at (by omega)
  exact ⟨g, o, h1, (hb.cell (p := ⟨g, o + j, none⟩) h2).trans (h3 j hj), hok.2.2.2.2.2.2.1 _ (List.getElem_mem hj)⟩
theorem made_bools (n : Nat) : (madeCells (Value.bool false).cells (n * 1)).toList = (List.replicate n false).map Value.bool := by
  have e : madeCells (Value.bool false).cells (n * 1) = Array.replicate n (Value.bool false) := by
    apply Array.ext
    · simp [madeCells]
    · intro i h1 h2
      simp [madeCells, Value.cells, Nat.mod_one]
  rw [e]
  simp
theorem rs_start {w Wm : World} {n f : Nat} {F : Value} {L : List CI} (hn : L.length = n)
    (hown : Wm.ownsRow (w.alloc (.cells #[F] 66)).heap.size 4 1 (.slice (some ⟨(w.alloc (.cells #[F] 66)).heap.size, 0, none⟩) n n) n (madeCells (Value.bool false).cells (n * 1)).toList) (hg : (w.alloc (.cells #[F] 66)).grownBy Wm none) :
    RS w n F w.heap.size Wm.heap.size (Wm.heap.size + 1 + 1) (w.heap.size + 1) (List.replicate L.length false) [f] (((Wm.alloc (.cells #[.slice (some ⟨w.heap.size + 1, 0, none⟩) n n] 71)).alloc (.cells #[.int .i64 (f : Int)] 3)).alloc (.cells #[.slice (some ⟨Wm.heap.size + 1, 0, none⟩) 1 1] 91)) := by
  have e : (w.alloc (.cells #[F] 66)).heap.size = w.heap.size + 1 := by simp
  have hz := hg.size
  rw [e] at hz hown
  have h1 : Wm.heap[w.heap.size]? = some (.cells #[F] 66) := (hg.block _ (by rw [e]; omega) (by simp)).trans (World.alloc_heap_new w _)
  have h2 := own_full hown
  rw [made_bools] at h2
  have hm : mks (List.replicate L.length false) = ((List.replicate n false).map Value.bool).toArray := by unfold mks; rw [hn]
  have k1 := World.alloc_heap_new Wm (.cells #[.slice (some ⟨w.heap.size + 1, 0, none⟩) n n] 71)
  have e1 : (Wm.alloc (.cells #[.slice (some ⟨w.heap.size + 1, 0, none⟩) n n] 71)).heap.size = Wm.heap.size + 1 := by simp
  have k2 := World.alloc_heap_new (Wm.alloc (.cells #[.slice (some ⟨w.heap.size + 1, 0, none⟩) n n] 71)) (.cells #[.int .i64 (f : Int)] 3)
  have o2 := World.ownsRow_lit (base := w.heap.size) (size := 1) (e := 3) (Wm.alloc (.cells #[.slice (some ⟨w.heap.size + 1, 0, none⟩) n n] 71)) #[.int .i64 (f : Int)] 1 (by rw [e1]; omega) (by unfold maxLen; omega) rfl
  rw [e1] at k2 o2
  have k3 := World.alloc_heap_new ((Wm.alloc (.cells #[.slice (some ⟨w.heap.size + 1, 0, none⟩) n n] 71)).alloc (.cells #[.int .i64 (f : Int)] 3)) (.cells #[.slice (some ⟨Wm.heap.size + 1, 0, none⟩) 1 1] 91)
  rw [World.size_alloc, e1] at k3
  refine ⟨laid_old (laid_old (laid_old h1)), laid_old (laid_old k1), laid_old (laid_old (laid_old ?_)), by simp [hn], ⟨_, k3, o2.alloc _⟩, below_al (below_al (below_al ?_ _) _) _, ⟨by omega, by omega⟩⟩
  · rw [hm]; exact h2
  · exact (below_al (Below.refl w.heap.size w) _).grown hg (by rw [e]; omega) (fun q hq => by cases hq)
set_option maxRecDepth 100000 in
set_option maxHeartbeats 4000000 in
theorem reached_any (A : Option Addr) (n c : Nat) (L : List CI) (F : Value) (f : Nat) (w : World) (hn : L.length = n) (hc : n ≤ 1000000) (h : CIs w w.heap.size A L) (hF : Fd L F w) (hf : f < n) :
    Calls Tryd.prog 58 #[.slice A n c, F, .int .i64 f] w (RchRet L f w) := by
  have hmf : ∀ (fn : Fn) (first cap : Array Value) (w : World), (Instr.makeFunc fn first cap).run Tryd.prog w = .ok (.func fn first cap) w := fun _ _ _ _ => rfl
  have HF := Lib.hid hF
  have HL := Lib.hid h
  have HN := Lib.hid hn
  obtain ⟨kk, bb, rfl, _⟩ := hF
  clear h hn
  obtain ⟨i0, hi, hz0, hz1, hz2⟩ := info_parts infoB
  go_enter Tryd.func58, Tryd.ntmps58
  go_upto_region 1 with fail
  obtain ⟨Wm, hmk, hown, hgr⟩ := run_makeSlice_full (P := Tryd.prog) (w.alloc (.cells #[.func (Fn.func kk) #[] #[.pointer (some ⟨bb, 0, none⟩)]] 66)) (w.alloc (.cells #[.func (Fn.func kk) #[] #[.pointer (some ⟨bb, 0, none⟩)]] 66)).heap.size 71 4 i0 (.bool false) 1 Tryd.underlying71 hi hz0 hz1 .i64 .i64 n (by omega) (by rw [hz2]; omega) (by unfold maxLen; omega) (Nat.le_refl _)
  have RS0 := Lib.hid (rs_start (f := f) HN.out hown hgr)
  have HSZ := Lib.hid (show w.heap.size < Wm.heap.size by have := hgr.size; simp at this; omega)
  rw [World.size_alloc] at hmk
  clear hown hgr
  go_upto_region 4 with fail
  have hb0 : w.heap.size < Wm.heap.size := by
    exact HSZ.out
  clear hmk hz0 hz1 hz2 hi
  generalize ((Wm.alloc (.cells #[.slice (some ⟨w.heap.size + 1, 0, none⟩) n n] 71)).alloc (.cells #[.int .i64 (f : Int)] 3)).alloc (.cells #[.slice (some ⟨Wm.heap.size + 1, 0, none⟩) 1 1] 91) = W0 at RS0 ⊢
  generalize Wm.heap.size + 1 + 1 = bO at RS0 ⊢
  generalize Wm.heap.size = bM at RS0 hb0 ⊢
  generalize w.heap.size + 1 = mR at RS0 ⊢
  go_loopg [] (n + 1) (fun k wr => ∃ (M : List Bool) (O : List Nat), un M + O.length ≤ k ∧ k ≤ 1000001 ∧ DF L f M O none [] ∧ RS w n (.func (Fn.func kk) #[] #[.pointer (some ⟨bb, 0, none⟩)]) w.heap.size bM bO mR M O wr)
  case atStart =>
    refine ⟨_, _, ?_, by omega, DF.start (by rw [HN.out]; exact hf), RS0.out⟩
    rw [un_start, HN.out]; simp
  case round =>
    obtain ⟨M, O, hmu, hk, hdf, R⟩ := hrel
    rcases nil_or_snoc O with rfl | ⟨O', i, rfl⟩
    · obtain ⟨v, hv, ho⟩ := R.ob
      obtain ⟨A', c', rfl, _, _⟩ := own_shape ho
      have o0 := cells_one hv
      have m0 := cells_one R.mb
      simp only [List.length_nil] at o0
      have HR := Lib.hid R
      have HD := Lib.hid hdf.done
      clear hdf R hv ho
      go_wp2
      go_ret
      refine ⟨mR, by rw [HN.out]; rfl, ?_, HR.out.lo.1, HR.out.bel⟩
      rw [← HD.out]; exact HR.out.mr
    · obtain ⟨v, hv, ho⟩ := R.ob
      rw [List.length_append, List.length_singleton] at ho
      obtain ⟨g', cap, rfl⟩ := ownsRow_succ ho
      obtain ⟨hcap, hcm⟩ := own_room ho
      unfold maxLen at hcm
      rw [List.length_append, List.length_singleton] at hmu
      have hOl : O'.length ≤ 1000001 := by omega
      have o0 := cells_one hv
      have o1 := (Boxed.frozen (show Boxed wr bO _ _ from hv))
      have hci : wr.cell? ⟨g', O'.length, none⟩ = some (.int .i64 (i : Int)) := by
        rw [ho.cellAt O'.length (by omega)]
        unfold ints
        rw [List.getElem?_map, List.getElem?_append_right (Nat.le_refl _), Nat.sub_self]; rfl
      have hin : i < n := by rw [← HN.out]; exact (hdf.opn i (List.mem_append_right _ (List.mem_singleton.2 rfl))).1
      have hiL : i < L.length := by rw [HN.out]; exact hin
      obtain ⟨g, o, rfl, hg, hok, c0, c1, c2, c3⟩ := (HL.out.below R.bel).at hiL
      have HR := Lib.hid R
      have HD := Lib.hid hdf
      have HO := Lib.hid ho
      have HV := Lib.hid hv
      have HOK := Lib.hid hok
      have hl1 : ((O'.length + 1 : Nat) : Int) - 1 = O'.length := by omega
      have hbow := lt_heap hv
      clear R hdf ho hv hok
      go_upto_region 7 with fail
      have HIA := Lib.hid (fun (j : Nat) (hj : j < L[i].fs.length) (W : World) (hb : Below w.heap.size w W) => ci_below HL.out hb hiL hj)
      have R2 := ((HR.out.pop HV.out HO.out).up (below_al (Below.refl _ _) (.cells #[.string L[i].nm, .string L[i].su, .slice L[i].iA L[i].n L[i].c, .bool L[i].isI] 30)))
      have hbx := World.alloc_heap_new (wr.setCell ⟨bO, 0, none⟩ (.slice (some ⟨g', 0, none⟩) O'.length cap)) (.cells #[.string L[i].nm, .string L[i].su, .slice L[i].iA L[i].n L[i].c, .bool L[i].isI] 30)
      rw [World.size_setCell] at hbx
      have hfn : L[i].fs.length = L[i].n := HOK.out.2.2.1
      have hnn : L[i].n ≤ 9223372036854775807 := by have := HOK.out.2.2.2; omega
      have hsu : L[i].su.size ≤ 9223372036854775807 := HOK.out.2.1
      have hD2 := HD.out.pop
      generalize (wr.setCell ⟨bO, 0, none⟩ (.slice (some ⟨g', 0, none⟩) O'.length cap)).alloc (.cells #[.string L[i].nm, .string L[i].su, .slice L[i].iA L[i].n L[i].c, .bool L[i].isI] 30) = W2 at R2 hbx ⊢
      generalize wr.heap.size = B10 at hbx ⊢
      generalize L[i].iA = iA at HIA hbx ⊢
      obtain ⟨⟨x0, x1, x2, x3⟩, _⟩ := four_cells hbx
      clear HR HD HO HV HOK o0 o1 hci c0 c1 c2 c3 hbow hg hcap hcm
      have HFN := Lib.hid hfn
      clear hfn
      have HBX := Lib.hid hbx
      have HR2 := Lib.hid R2
      have HD2 := Lib.hid hD2
      clear R2 hD2 hbx
      have hO' : O'.length ≤ 2000000 := by omega
      by_cases hse : L[i].su.toList = []
      · have hse2 : L[i].su.toList.isEmpty = true := by rw [hse]; rfl
        have HN1 := Lib.hid (show [] ++ L[i].fs = nxt L[i] by unfold nxt; rw [if_pos hse])
        have HMU : un M + O'.length < gk := by omega
        have HD1 := HD2
        have HR1 := HR2
        clear HD2 HR2
        go_wp2
        obtain ⟨wo, rfl⟩ : ∃ wo : World, wo = wr := ⟨_, rfl⟩
        go_loopw [46] (fun jv ws => ∃ (j : Nat) (M : List Bool) (O : List Nat), jv = .int .i64 j ∧ j ≤ L[i].n ∧ un M + O.length < gk ∧ DF L f M O (some i) ([] ++ L[i].fs.take j) ∧ RS w n (.func (Fn.func kk) #[] #[.pointer (some ⟨bb, 0, none⟩)]) w.heap.size bM bO mR M O ws) (fun jv _ => L[i].n - (intOf jv).toNat)
        case atStart => exact ⟨0, _, _, rfl, Nat.zero_le _, HMU, by rw [List.take_zero]; exact HD1.out, HR1.out⟩
        case round =>
          obtain ⟨j, M2, O2, rfl, hj, hm2, hd2, R2⟩ := hrel
          have HD2 := Lib.hid hd2
          have HR2 := Lib.hid R2
          clear hd2 R2 HD1 HR1
          by_cases hjl : j < L[i].n
          · obtain ⟨q, p, rfl, hcj, hsz⟩ := HIA.out j (by rw [HFN.out]; exact hjl) wr HR2.out.bel
            have HV := Lib.hid (show DF L f (visM L (L[i].fs[j]'(by rw [HFN.out]; exact hjl)) M2) (visO L (L[i].fs[j]'(by rw [HFN.out]; exact hjl)) M2 O2) (some i) ([] ++ L[i].fs.take (j + 1)) by
              have h := HD2.out.visit (s := L[i].fs[j]'(by rw [HFN.out]; exact hjl)) hiL (by rw [← HN1.out]; exact List.mem_append_right _ (List.getElem_mem _))
              rwa [List.append_assoc, ← List.take_succ_eq_append_getElem] at h)
            have HMV := Lib.hid (vis_mu L (L[i].fs[j]'(by rw [HFN.out]; exact hjl)) M2 O2)
            generalize L[i].fs[j]'(by rw [HFN.out]; exact hjl) = s at hcj hsz HV HMV
            have hO2 : O2.length ≤ 2000000 := by omega
            go_wp2_with (go_at_call 93; (with_reducible refine (visit_any L s HF.out HN.out hsz hO2 HR2.out).mono ?_); rintro e w3 ⟨rfl, hR3, hS3⟩; have HR3 := Lib.hid hR3; clear hR3 hS3)
            go_roundw
            case rel => exact ⟨j + 1, _, _, by go_num, by omega, by have := HMV.out; omega, HV.out, HR3.out⟩
            case measure => simp [intOf]; omega
          · obtain rfl : j = L[i].n := by omega
            have HC := Lib.hid (DF.close hiL (by have h := HD2.out; rw [List.take_of_length_le (by rw [HFN.out]; exact Nat.le_refl _), HN1.out] at h; exact h))
            go_wp2
            go_roundg (gk - 1)
            case measure => omega
            case rel => exact ⟨M2, O2, by omega, by omega, HC.out, HR2.out⟩
      · have hse2 : L[i].su.toList.isEmpty = false := by cases h : L[i].su.toList with | nil => exact absurd h hse | cons _ _ => rfl
        have HN1 := Lib.hid (show [L[i].su] ++ L[i].fs = nxt L[i] by unfold nxt; rw [if_neg hse])
        have HD1 := Lib.hid (show DF L f (visM L L[i].su M) (visO L L[i].su M O') (some i) [L[i].su] from HD2.out.visit hiL (by rw [← HN1.out]; exact List.mem_append_left _ (List.mem_singleton.2 rfl)))
        have HMU : un (visM L L[i].su M) + (visO L L[i].su M O').length < gk := by rw [vis_mu]; omega
        clear HD2
        go_upto_region 9 with (go_at_call 93; (with_reducible refine (visit_any L _ HF.out HN.out hsu hO' HR2.out).mono ?_); rintro e w3 ⟨rfl, hR3, hS3⟩; have HR1 := Lib.hid hR3; have HB3 := Lib.hid (hS3.2 _ _ _ HBX.out (by decide) (by decide) (by decide)); clear hR3 hS3)
        clear HR2 HBX x0 x1 x2 x3 hse hse2 hsu hmu hO'
        obtain ⟨⟨x0, x1, x2, x3⟩, _⟩ := four_cells HB3.out
        go_wp2
        obtain ⟨wo, rfl⟩ : ∃ wo : World, wo = wr := ⟨_, rfl⟩
        go_loopw [46] (fun jv ws => ∃ (j : Nat) (M : List Bool) (O : List Nat), jv = .int .i64 j ∧ j ≤ L[i].n ∧ un M + O.length < gk ∧ DF L f M O (some i) ([L[i].su] ++ L[i].fs.take j) ∧ RS w n (.func (Fn.func kk) #[] #[.pointer (some ⟨bb, 0, none⟩)]) w.heap.size bM bO mR M O ws) (fun jv _ => L[i].n - (intOf jv).toNat)
        case atStart => exact ⟨0, _, _, rfl, Nat.zero_le _, HMU, by rw [List.take_zero]; exact HD1.out, HR1.out⟩
        case round =>
          obtain ⟨j, M2, O2, rfl, hj, hm2, hd2, R2⟩ := hrel
          have HD2 := Lib.hid hd2
          have HR2 := Lib.hid R2
          clear hd2 R2 HD1 HR1
          by_cases hjl : j < L[i].n
          · obtain ⟨q, p, rfl, hcj, hsz⟩ := HIA.out j (by rw [HFN.out]; exact hjl) wr HR2.out.bel
            have HV := Lib.hid (show DF L f (visM L (L[i].fs[j]'(by rw [HFN.out]; exact hjl)) M2) (visO L (L[i].fs[j]'(by rw [HFN.out]; exact hjl)) M2 O2) (some i) ([L[i].su] ++ L[i].fs.take (j + 1)) by
              have h := HD2.out.visit (s := L[i].fs[j]'(by rw [HFN.out]; exact hjl)) hiL (by rw [← HN1.out]; exact List.mem_append_right _ (List.getElem_mem _))
              rwa [List.append_assoc, ← List.take_succ_eq_append_getElem] at h)
            have HMV := Lib.hid (vis_mu L (L[i].fs[j]'(by rw [HFN.out]; exact hjl)) M2 O2)
            generalize L[i].fs[j]'(by rw [HFN.out]; exact hjl) = s at hcj hsz HV HMV
            have hO2 : O2.length ≤ 2000000 := by omega
            go_wp2_with (go_at_call 93; (with_reducible refine (visit_any L s HF.out HN.out hsz hO2 HR2.out).mono ?_); rintro e w3 ⟨rfl, hR3, hS3⟩; have HR3 := Lib.hid hR3; clear hR3 hS3)
            go_roundw
            case rel => exact ⟨j + 1, _, _, by go_num, by omega, by have := HMV.out; omega, HV.out, HR3.out⟩
            case measure => simp [intOf]; omega
          · obtain rfl : j = L[i].n := by omega
            have HC := Lib.hid (DF.close hiL (by have h := HD2.out; rw [List.take_of_length_le (by rw [HFN.out]; exact Nat.le_refl _), HN1.out] at h; exact h))
            go_wp2
            go_roundg (gk - 1)
            case measure => omega
            case rel => exact ⟨M2, O2, by omega, by omega, HC.out, HR2.out⟩
end Go.Proofs.YthifmcnemeiphaaDoor
