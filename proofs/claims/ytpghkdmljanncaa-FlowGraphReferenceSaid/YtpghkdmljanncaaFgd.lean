/- Layer 19: the reference's Reachable. -/
import Derived.Test.YtpghkdmljanncaaFgc
namespace Go.Proofs.Ytpghkdmljanncaa
open Go.ChangeShapes Go.WideShapes Go.ChangeAt Go.RowKit Go.PlainAid
set_option linter.unusedSimpArgs false
set_option linter.unusedVariables false

def Rb (M : List Bool) : List Value := M.map fun b => .bool b
theorem rb_len (M : List Bool) : (Rb M).length = M.length := by simp [Rb]
theorem made_rb (n : Nat) : (madeCells (Value.bool false).cells (n * 1)).toList = Rb (List.replicate n false) := by
  unfold madeCells Rb
  rw [Nat.mul_one]
  apply List.ext_getElem
  · simp
  · intro i h1 h2
    simp [Value.cells, Nat.mod_one]
theorem infoB : (Try.prog.info? 4).map (fun i => (i.zero, i.size, i.bytes)) = some (some (.bool false), 1, 1) := by kernel_rfl
/-- a row of marks, made by the call -/
structure Mk (W wr : World) (n : Nat) (M : List Bool) : Prop where
  own : wr.ownsRow W.heap.size 4 1 (.slice (some ⟨W.heap.size, 0, none⟩) n n) n (Rb M)
  bel : Below W.heap.size W wr
theorem Mk.len {W wr : World} {n : Nat} {M : List Bool} (h : Mk W wr n M) : M.length = n := by have := h.own.1; rw [rb_len] at this; omega
theorem Mk.cell {W wr : World} {n : Nat} {M : List Bool} (h : Mk W wr n M) {j : Nat} {b : Bool} (hb : M[j]? = some b) : wr.cell? ⟨W.heap.size, j, none⟩ = some (.bool b) := by
  have hl := h.len
  have hj := get_ltF hb
  rw [h.own.cellAt j (by omega)]
  unfold Rb
  rw [List.getElem?_map, hb]; rfl
theorem Mk.put {W wr : World} {n : Nat} {M : List Bool} (h : Mk W wr n M) (j : Nat) (b : Bool) : Mk W (wr.setCell ⟨W.heap.size, j, none⟩ (.bool b)) n (M.set j b) := by
  have hs := h.own.stored j (.bool b)
  refine ⟨by unfold Rb; rw [List.map_set]; exact hs.1, below_st (p := ⟨W.heap.size, j, none⟩) h.bel (Nat.le_refl _) _⟩
theorem Mk.up {W wr w2 : World} {n : Nat} {M : List Bool} (h : Mk W wr n M) (hb : Below wr.heap.size wr w2) : Mk W w2 n M := ⟨own_below h.own hb, below_on h.bel hb⟩
theorem Mk.sz {W wr : World} {n : Nat} {M : List Bool} (h : Mk W wr n M) : W.heap.size < wr.heap.size := (h.own.lt W.heap.size rfl).2
/-- a row of marks is handed back -/
def MarksRet (w : World) (n : Nat) (M : List Bool) (e : Ending) (w' : World) : Prop :=
  ∃ W : World, e = .returned (.slice (some ⟨W.heap.size, 0, none⟩) n n) ∧ Mk W w' n M ∧ Below w.heap.size w W
/-- what is reached -/
def reL (c : Cd) : List Bool := (distL c).map fun x => decide (0 ≤ x)
theorem dsIn_len (a : Int) : ∀ (S f q : List Int), (dsIn a f q S).1.length = f.length
  | [], _, _ => rfl
  | t :: r, f, q => by
    unfold dsIn
    split
    · rw [dsIn_len a r, List.length_set]
    · exact dsIn_len a r f q
theorem dsOut_len (c : Cd) : ∀ (k : Nat) (f q : List Int), (dsOut c k f q).length = f.length
  | 0, _, _ => rfl
  | k + 1, f, [] => rfl
  | k + 1, f, a :: q => by
    show (dsOut c k _ _).length = _
    rw [dsOut_len c k, dsIn_len]
theorem distL_len (c : Cd) : (distL c).length = c.n := by
  unfold distL
  split
  · rename_i h; rw [h]; rfl
  · rw [dsOut_len, List.length_set, List.length_replicate]
set_option maxRecDepth 100000 in
set_option maxHeartbeats 4000000 in
theorem rre_any (c : Cd) (w : World) (hok : c.ok w) (hf : c.few) : Calls Try.prog 38 #[(Value.agg #[Value.int IntKind.i64 (Cd.st c), Value.int IntKind.i64 (Cd.lo c), Value.slice (Cd.iA c) (Cd.n c) (Cd.ic c), Value.slice (Cd.hA c) (Cd.hn c) (Cd.hc c), Value.slice (Cd.mA c) (Cd.mn c) (Cd.mc c), Value.slice (Cd.lA c) (Cd.ln c) (Cd.lc c)])] w (MarksRet w c.n (reL c)) := by
  have hB : Below w.heap.size w w := Below.refl _ _
  have OK := Lib.hid hok
  have hcn := hf.n
  clear hok
  obtain ⟨D, hD⟩ : ∃ D, distL c = D := ⟨_, rfl⟩
  have HD := Lib.hid hD
  have hdl := distL_len c
  rw [hD] at hdl
  have HDL := Lib.hid hdl
  have HRE := Lib.hid (show reL c = D.map fun x => decide (0 ≤ x) by unfold reL; rw [hD])
  clear hD hdl
  go_enter Try.func38, Try.ntmps38
  go_upto_region 1 with fail
  have R := World.alloc_heap_new w (.cells #[.int .i64 c.st, .int .i64 c.lo, .slice c.iA c.n c.ic, .slice c.hA c.hn c.hc, .slice c.mA c.mn c.mc, .slice c.lA c.ln c.lc] 50)
  replace hB := below_al hB (.cells #[.int .i64 c.st, .int .i64 c.lo, .slice c.iA c.n c.ic, .slice c.hA c.hn c.hc, .slice c.mA c.mn c.mc, .slice c.lA c.ln c.lc] 50)
  generalize w.alloc (.cells #[.int .i64 c.st, .int .i64 c.lo, .slice c.iA c.n c.ic, .slice c.hA c.hn c.hc, .slice c.mA c.mn c.mc, .slice c.lA c.ln c.lc] 50) = W1 at R hB ⊢
  obtain ⟨r0, r1, r2, r3, r4, r5⟩ := six_cells R
  have y1 := lt_heap R
  replace R := Lib.hid R
  have OK1 := Lib.hid (OK.out.up hB)
  have HB := Lib.hid hB
  clear hB
  go_upto_region 2 with (go_at_call 44; (with_reducible refine (rds_any c _ OK1.out hf).mono ?_); rintro e w2 ⟨v, rfl, ho2, hb2⟩; rw [HD.out, HDL.out] at ho2; obtain ⟨A, cap, rfl, hcc, hcm, _⟩ := own_form ho2)
  have HO2 := Lib.hid ho2
  have HB2 := Lib.hid (below_on HB.out hb2)
  have hz2 := hb2.size
  clear r0 r1 r2 r3 r4 r5 ho2 hb2
  obtain ⟨i0, hi, hz0, hz1, hz2'⟩ := info_parts infoB
  obtain ⟨Wm, hmk, hown, hgr⟩ := run_makeSlice_full (P := Try.prog) w2 w2.heap.size 54 4 i0 (.bool false) 1 Try.underlying54 hi hz0 hz1 .i64 .i64 c.n (by omega) (by rw [hz2']; omega) (by unfold maxLen; omega) (Nat.le_refl _)
  rw [made_rb] at hown
  have hbm := grown_below hgr (fun k hk => by cases hk) (Nat.le_refl w2.heap.size)
  have HM0 := Lib.hid (show Mk w2 Wm c.n (List.replicate c.n false) from ⟨hown, hbm⟩)
  have HOM := Lib.hid (own_below HO2.out hbm)
  have HOF := Lib.hid (show (Value.slice A c.n cap).ownBlock ≠ some w2.heap.size from fun e => by have := (HO2.out.lt _ e).2; omega)
  clear hown hgr hi hz0 hz1 hz2' hbm
  go_upto_region 3 with fail
  clear hmk
  go_wp2
  go_loopw [5] (fun z wr => ∃ (k : Nat) (M : List Bool), k ≤ c.n ∧ z = .int .i64 k ∧ Mk w2 wr c.n M ∧ (∀ i, i < k → M[i]? = some (decide (0 ≤ D.getD i 0))) ∧ wr.ownsRow W1.heap.size 3 1 (.slice A c.n cap) c.n (Ri D)) (fun z _ => c.n - (intOf z).toNat)
  case atStart => exact ⟨0, _, Nat.zero_le _, rfl, HM0.out, fun i hi => absurd hi (Nat.not_lt_zero _), HOM.out⟩
  case round =>
    clear HM0 HOM
    obtain ⟨k, M, hk, rfl, hm, hall, how⟩ := hrel
    have HM := Lib.hid hm
    have HALL := Lib.hid hall
    have HOW := Lib.hid how
    clear hall
    by_cases hlt : k < c.n
    · obtain ⟨x, hx⟩ := get_someF (l := D) (k := k) (by rw [HDL.out]; exact hlt)
      obtain ⟨g, o, rfl, hg, hcx⟩ := row_get (Row.of_own how).1 hx
      have HX := Lib.hid (show D.getD k 0 = x by rw [List.getD_eq_getElem?_getD, hx]; rfl)
      obtain ⟨b0, hb0⟩ := get_someF (l := M) (k := k) (by rw [hm.len]; exact hlt)
      have hcb := hm.cell hb0
      have hfz := hm.own.frozenAt k
      have hsz := hm.sz
      have hk0 : (0 : Int) ≤ (k : Int) := by omega
      have hk1 : (k : Int) < (c.n : Int) := by omega
      clear hx how hm hb0
      go_wp2
      refine ⟨⟨k + 1, M.set k (decide (0 ≤ x)), hlt, by go_num, HM.out.put k _, fun i hi => ?_, HOW.out.kept grown_set (Or.inr HOF.out)⟩, by simp [intOf]; omega⟩
      have hl := HM.out.len
      rw [List.getElem?_set]
      by_cases hki : k = i
      · subst hki
        rw [if_pos rfl, if_pos (by omega), HX.out]
      · rw [if_neg hki]; exact HALL.out i (by omega)
    · obtain ⟨hkn⟩ : c.n = k := by omega
      go_wp2
      go_ret
      have hM : M = reL c := by
        rw [HRE.out]
        apply List.ext_getElem?
        intro i
        have hl := HM.out.len
        rcases Nat.lt_or_ge i c.n with h | h
        · rw [HALL.out i (by omega), List.getElem?_map, List.getD_eq_getElem?_getD, List.getElem?_eq_getElem (by rw [HDL.out]; exact h)]; rfl
        · rw [List.getElem?_eq_none (by omega), List.getElem?_eq_none (by rw [List.length_map, HDL.out]; exact h)]
      exact ⟨w2, rfl, by rw [← hM]; exact HM.out, HB2.out⟩

end Go.Proofs.Ytpghkdmljanncaa
