import Derived.Test.YthifmcnemeiphaaDoorHx
import Derived.Test.YthifmcnemeiphaaDoorHy
import Derived.Test.YthifmcnemeiphaaDoorHj
import Derived.Test.YthifmcnemeiphaaDoorHk
import Derived.Deep.QuietTactic
import Derived.BigQuiet
import Derived.Test.YthifmcnemeiphaaDoorHz
import Derived.Test.YthifmcnemeiphaaDoorHs

/- Ib -/
/- Layer 16: the chapter's example, pure. -/
namespace Go.Proofs.YthifmcnemeiphaaDoor
open Go.ChangeShapes Go.WideShapes Go.ChangeAt Go.RowKit Go.PlainAid Go.Maps
set_option linter.unusedSimpArgs false
set_option linter.unusedVariables false

abbrev sB : ByteArray := ⟨#[66]⟩
abbrev sA : ByteArray := ⟨#[65]⟩
abbrev sI : ByteArray := ⟨#[73]⟩
def ex (A : Option Addr) : List CI := [⟨sB, sA, none, 0, 0, [], false⟩, ⟨sA, rootS, A, 1, 1, [sI], false⟩, ⟨sI, rootS, none, 0, 0, [], true⟩, ⟨rootS, ⟨#[]⟩, none, 0, 0, [], false⟩]
theorem ceV_zero {L : List CI} {i : Nat} {x : CI} (h1 : clsB x.nm = true) (h2 : fI L x.nm = i) (h3 : decide (x.su.toList.isEmpty ≠ (x.nm.toList == rootL) ∨ (x.isI = true ∧ (x.su.toList == rootL) = false)) = false) (h4 : decide (x.su.toList.isEmpty = false ∧ (fB L x.su = false ∨ (lkC L x.su).isI = true)) = false) (h5 : x.fs.all (ifOk L) = true) (h6 : ¬ Rc L i i) : ceV L i x = 0 := by
  unfold ceV
  rw [if_neg (by rw [h1]; decide), if_neg (by simpa using h2), if_neg (of_decide_eq_false h3), if_neg (of_decide_eq_false h4), if_neg (by rw [h5]; decide), if_neg (by rw [rcB_iff]; exact h6)]
theorem rc_rise {L : List CI} (h : ∀ i j, Ed L i j → i < j) {i j : Nat} (hr : Rc L i j) : i < j := by
  induction hr with
  | one he => exact h _ _ he
  | more _ he ih => exact Nat.lt_trans ih (h _ _ he)
theorem ex_ed (A : Option Addr) (i j : Nat) (h : Ed (ex A) i j) : i < j := by
  obtain ⟨hi, s, hs, hf, _⟩ := h
  have hi4 : i < 4 := hi
  rcases (show i = 0 ∨ i = 1 ∨ i = 2 ∨ i = 3 by omega) with rfl | rfl | rfl | rfl
  · have e : nxt ((ex A)[0]'hi) = [sA] := by kernel_rfl
    rw [e] at hs
    rw [List.mem_singleton.1 hs] at hf
    rw [← hf, show fnd (ex A) sA = 1 by kernel_rfl]; decide
  · have e : nxt ((ex A)[1]'hi) = [rootS, sI] := by kernel_rfl
    rw [e] at hs
    rcases List.mem_cons.1 hs with rfl | hs
    · rw [← hf, show fnd (ex A) rootS = 3 by kernel_rfl]; decide
    · rw [List.mem_singleton.1 hs] at hf
      rw [← hf, show fnd (ex A) sI = 2 by kernel_rfl]; decide
  · have e : nxt ((ex A)[2]'hi) = [rootS] := by kernel_rfl
    rw [e] at hs
    rw [List.mem_singleton.1 hs] at hf
    rw [← hf, show fnd (ex A) rootS = 3 by kernel_rfl]; decide
  · have e : nxt ((ex A)[3]'hi) = [] := by kernel_rfl
    rw [e] at hs
    cases hs
theorem ex_no (A : Option Addr) (i : Nat) : ¬ Rc (ex A) i i := fun h => Nat.lt_irrefl _ (rc_rise (ex_ed A) h)
theorem ex_VH (A : Option Addr) : VH (ex A) := by
  intro i x hx
  have hi : i < 4 := lt_of_some hx
  rcases (show i = 0 ∨ i = 1 ∨ i = 2 ∨ i = 3 by omega) with rfl | rfl | rfl | rfl
  all_goals
    obtain rfl := Option.some.inj hx
    exact ceV_zero (by kernel_rfl) (by kernel_rfl) (by kernel_rfl) (by kernel_rfl) (by kernel_rfl) (ex_no A _)
theorem ex_chk (A : Option Addr) : ChkV (ex A) ⟨#[]⟩ 0 := Or.inr ⟨fun j y h => ex_VH A j y h, rfl, rfl⟩
theorem ex_chk1 (A : Option Addr) : ChkV ((ex A).take 1) sB 33 := by
  refine Or.inl ⟨0, _, rfl, fun j y hj => absurd hj (Nat.not_lt_zero _), ?_, by decide, rfl⟩
  unfold ceV
  rw [if_neg (of_decide_eq_false (by kernel_rfl)), if_neg (of_decide_eq_false (by kernel_rfl)), if_neg (of_decide_eq_false (by kernel_rfl)), if_pos (of_decide_eq_true (by kernel_rfl))]
theorem ex_sup (A : Option Addr) : supL (ex A) sB = [sB, sA, rootS] := by kernel_rfl
theorem ex_r02 (A : Option Addr) : Rc (ex A) 0 2 := by
  refine .more (j := 1) (.one ⟨by show 0 < 4; decide, sA, ?_, by kernel_rfl, by show 1 < 4; decide⟩) ⟨by show 1 < 4; decide, sI, ?_, by kernel_rfl, by show 2 < 4; decide⟩
  · have e : nxt ((ex A)[0]'(by show 0 < 4; decide)) = [sA] := by kernel_rfl
    rw [e]; exact List.mem_singleton.2 rfl
  · have e : nxt ((ex A)[1]'(by show 1 < 4; decide)) = [rootS, sI] := by kernel_rfl
    rw [e]; exact List.mem_cons_of_mem _ (List.mem_singleton.2 rfl)
theorem ex_ifs (A : Option Addr) : ifL (ex A) sB = [sI] := by
  unfold ifL
  rw [if_pos (show fB (ex A) sB = true by kernel_rfl), show fI (ex A) sB = 0 by kernel_rfl, show (ex A).length = 4 by rfl]
  have p0 : itP (ex A) 0 0 = false := by
    unfold itP
    rw [show (((ex A)[0]?).getD zeroCI).isI = false by rfl, Bool.and_false]
  have p1 : itP (ex A) 0 1 = false := by
    unfold itP
    rw [show (((ex A)[1]?).getD zeroCI).isI = false by rfl, Bool.and_false]
  have p2 : itP (ex A) 0 2 = true := by
    unfold itP
    rw [rcB_iff.2 (ex_r02 A)]; rfl
  have p3 : itP (ex A) 0 3 = false := by
    unfold itP
    rw [show (((ex A)[3]?).getD zeroCI).isI = false by rfl, Bool.and_false]
  have e : itF (ex A) 0 4 = [sI] := by
    simp only [itF, p0, p1, p2, p3]
    rfl
  rw [e]
  simp [sortB, rawL, bs]
theorem ex_cs1 (A : Option Addr) : csV (ex A) sB sA = sA := by kernel_rfl
theorem ex_cs2 (A : Option Addr) : csV (ex A) sA sI = rootS := by kernel_rfl
theorem ex_is1 (A : Option Addr) : isV (ex A) sB sI = true := by
  unfold isV
  rw [show fI (ex A) sB = 0 by kernel_rfl, show fI (ex A) sI = 2 by kernel_rfl, rcB_iff.2 (ex_r02 A)]
  kernel_rfl
theorem ex_is2 (A : Option Addr) : isV (ex A) sA sB = false := by
  unfold isV
  rw [show fI (ex A) sA = 1 by kernel_rfl, show fI (ex A) sB = 0 by kernel_rfl, show rcB (ex A) 1 0 = false from by
    cases h : rcB (ex A) 1 0 with
    | false => rfl
    | true => exact absurd (rc_rise (ex_ed A) (rcB_iff.1 h)) (by decide)]
  kernel_rfl
end Go.Proofs.YthifmcnemeiphaaDoor

/- Ia -/
/- Layer 16: the reference's Texts. -/
namespace Go.Proofs.YthifmcnemeiphaaDoor
open Go.ChangeShapes Go.WideShapes Go.ChangeAt Go.RowKit Go.PlainAid Go.Maps
set_option linter.unusedSimpArgs false
set_option linter.unusedVariables false

def txB (P Q : List ByteArray) : Bool := decide (P = Q)
theorem nat_beq (a b : Nat) : ((a : Int) == (b : Int)) = decide (a = b) := by
  rw [Bool.eq_iff_iff, beq_iff_eq, decide_eq_true_iff]
  omega
theorem tx_diff {P Q : List ByteArray} {k : Nat} (h1 : k < P.length) (h2 : k < Q.length) (h : ¬ P[k].toList = Q[k].toList) : txB P Q = false := by
  unfold txB
  refine decide_eq_false ?_
  rintro rfl
  exact h rfl
theorem tx_end {P Q : List ByteArray} (h : ∀ j (h1 : j < P.length) (h2 : j < Q.length), P[j].toList = Q[j].toList) : txB P Q = decide (P.length = Q.length) := by
  unfold txB
  by_cases hl : P.length = Q.length
  · rw [decide_eq_true hl]
    refine decide_eq_true ?_
    apply List.ext_getElem hl
    intro j h1 h2
    exact toList_iff.1 (h j h1 h2)
  · rw [decide_eq_false hl]
    refine decide_eq_false ?_
    rintro rfl
    exact hl rfl
set_option maxRecDepth 100000 in
set_option maxHeartbeats 2000000 in
theorem texts_any (A : Option Addr) (n c : Nat) (P : List ByteArray) (A' : Option Addr) (n' c' : Nat) (Q : List ByteArray) (w : World) (hn : P.length = n) (hn' : Q.length = n') (hc : n ≤ 1000000) (hc' : n' ≤ 1000000) (h : SRow w w.heap.size A P) (h' : SRow w w.heap.size A' Q) :
    Calls Tryd.prog 27 #[.slice A n c, .slice A' n' c'] w fun e w' => e = .returned (.bool (txB P Q)) ∧ Below w.heap.size w w' := by
  have HP := Lib.hid h
  have HQ := Lib.hid h'
  have HN := Lib.hid hn
  have HN' := Lib.hid hn'
  clear h h' hn hn'
  go_enter Tryd.func27, Tryd.ntmps27
  go_wp2
  go_loopw [5] (fun i wr => ∃ k : Nat, k ≤ n ∧ k ≤ n' ∧ i = .int .i64 k ∧ Hid (Below w.heap.size w wr) ∧ Hid (∀ j (hj : j < k) (h1 : j < P.length) (h2 : j < Q.length), P[j].toList = Q[j].toList)) (fun i _ => n - (intOf i).toNat)
  case atStart => exact ⟨0, Nat.zero_le _, Nat.zero_le _, rfl, Lib.hid (Below.refl _ _), Lib.hid fun j hj => absurd hj (Nat.not_lt_zero _)⟩
  case round =>
    obtain ⟨k, hk, hk', rfl, HB, hv⟩ := hrel
    by_cases hlt : k < n
    · have hlb : decide ((k : Int) < (n : Int)) = true := decide_eq_true (by omega)
      by_cases hlt' : k < n'
      · have h1 : k < P.length := by rw [HN.out]; exact hlt
        have h2 : k < Q.length := by rw [HN'.out]; exact hlt'
        obtain ⟨g, o, rfl, hg, hcl⟩ := HP.out.at (by omega)
        obtain ⟨g', o', rfl, hg', hcl'⟩ := HQ.out.at (by omega)
        have c0 := (HB.out.cell (p := ⟨g, o + k, none⟩) hg).trans (hcl k h1)
        have c1 := (HB.out.cell (p := ⟨g', o' + k, none⟩) hg').trans (hcl' k h2)
        clear hcl hcl'
        by_cases hq : P[k].toList = Q[k].toList
        · have HV := Lib.hid (show ∀ j (hj : j < k + 1) (h1 : j < P.length) (h2 : j < Q.length), P[j].toList = Q[j].toList from fun j hj h1 h2 => by
            rcases Nat.lt_or_ge j k with h | h
            · exact hv.out j h h1 h2
            · obtain rfl : j = k := by omega
              exact hq)
          have hqb : (P[k].toList == Q[k].toList) = true := by simpa using hq
          clear hq
          go_upto_region 4 with fail
          go_quiet (fail)
          have HB2 := Lib.hid (below_dr HB.out nq)
          go_wp2
          go_roundw
          case rel => exact ⟨k + 1, by omega, by omega, by go_num, HB2, HV⟩
          case measure => simp [intOf]; omega
        · have HR := Lib.hid (tx_diff h1 h2 hq)
          have hqb : (P[k].toList == Q[k].toList) = false := by simpa using hq
          clear hq
          go_upto_region 4 with fail
          go_quiet (fail)
          have HB2 := Lib.hid (below_dr HB.out nq)
          go_wp2
          go_ret
          exact ⟨ret_bool HR.out.symm, HB2.out⟩
      · obtain rfl : k = n' := by omega
        have HR := Lib.hid (tx_end (P := P) (Q := Q) (fun j a b => hv.out j (by rw [← HN'.out]; exact b) a b))
        go_wp2
        go_ret
        exact ⟨ret_bool (by rw [HR.out, HN.out, HN'.out, nat_beq]), HB.out⟩
    · obtain rfl : k = n := by omega
      have HR := Lib.hid (tx_end (P := P) (Q := Q) (fun j a b => hv.out j (by rw [← HN.out]; exact a) a b))
      go_wp2
      go_ret
      exact ⟨ret_bool (by rw [HR.out, HN.out, HN'.out, nat_beq]), HB.out⟩
end Go.Proofs.YthifmcnemeiphaaDoor

/- Ic -/
/- Layer 16: the chapter's example holds. -/
namespace Go.Proofs.YthifmcnemeiphaaDoor
open Go.ChangeShapes Go.WideShapes Go.ChangeAt Go.RowKit Go.PlainAid Go.Maps
set_option linter.unusedSimpArgs false
set_option linter.unusedVariables false

theorem CIs.fst {w : World} {B : Nat} {A : Option Addr} {L : List CI} (h : CIs w B A L) (i : Nat) : CIs w B A (L.take i) := by
  rcases h with h | ⟨g, o, hA, hg, hc⟩
  · rw [h]; exact Or.inl (by simp)
  · refine Or.inr ⟨g, o, hA, hg, fun k x hk => hc k x ?_⟩
    rw [List.getElem?_take] at hk
    split at hk
    · exact hk
    · cases hk
abbrev exCells (h : Nat) : Array Value := #[.string sB, .string sA, .slice none 0 0, .bool false, .string sA, .string rootS, .slice (some ⟨h, 0, none⟩) 1 1, .bool false, .string sI, .string rootS, .slice none 0 0, .bool true, .string rootS, .string ⟨#[]⟩, .slice none 0 0, .bool false]
theorem ex_cis {W : World} {h : Nat} (h1 : W.heap[h]? = some (.cells #[.string sI] 9)) (h2 : W.heap[h + 1]? = some (.cells (exCells h) 30)) : CIs W W.heap.size (some ⟨h + 1, 0, none⟩) (ex (some ⟨h, 0, none⟩)) := by
  have l1 := lt_heap h1
  have l2 := lt_heap h2
  have hc : ∀ j v, (exCells h)[j]? = some v → W.cell? ⟨h + 1, 0 + j, none⟩ = some v := by
    intro j v hj
    simp only [World.cell?, h2, Nat.zero_add]
    exact hj
  refine Or.inr ⟨h + 1, 0, rfl, l2, fun k x hk => ?_⟩
  have hk4 : k < 4 := lt_of_some hk
  have hn : ∀ y : CI, y.fs = [] → y.n = 0 → y.c = 0 → y.nm.size ≤ 9223372036854775807 → y.su.size ≤ 9223372036854775807 → y.ok W W.heap.size := by
    intro y e1 e2 e3 e4 e5
    refine ⟨e4, e5, by rw [e1, e2]; rfl, by omega, by omega, by rw [e1]; exact Or.inl rfl, by rw [e1]; exact fun s hs => absurd hs (by simp), fun _ => e3⟩
  rcases (show k = 0 ∨ k = 1 ∨ k = 2 ∨ k = 3 by omega) with rfl | rfl | rfl | rfl
  · obtain rfl := Option.some.inj hk
    exact ⟨hn _ rfl rfl rfl (by decide) (by decide), hc 0 _ rfl, hc 1 _ rfl, hc 2 _ rfl, hc 3 _ rfl⟩
  · obtain rfl := Option.some.inj hk
    refine ⟨⟨(by decide : sA.size ≤ 9223372036854775807), (by decide : rootS.size ≤ 9223372036854775807), rfl, Nat.le_refl _, (by decide : 1 ≤ 9223372036854775807), Or.inr ⟨h, 0, rfl, l1, fun j y hj => ?_⟩, fun s hs => ?_, fun e => by cases e⟩, hc 4 _ rfl, hc 5 _ rfl, hc 6 _ rfl, hc 7 _ rfl⟩
    · cases j with
      | zero => obtain rfl := Option.some.inj hj; exact cells_one h1
      | succ j => simp at hj
    · rw [List.mem_singleton.1 hs]; decide
  · obtain rfl := Option.some.inj hk
    exact ⟨hn _ rfl rfl rfl (by decide) (by decide), hc 8 _ rfl, hc 9 _ rfl, hc 10 _ rfl, hc 11 _ rfl⟩
  · obtain rfl := Option.some.inj hk
    exact ⟨hn _ rfl rfl rfl (by decide) (by decide), hc 12 _ rfl, hc 13 _ rfl, hc 14 _ rfl, hc 15 _ rfl⟩
def SmallRet (w : World) (e : Ending) (w' : World) : Prop := ∃ g h, e = .returned (.slice (some ⟨g, 0, none⟩) 4 4) ∧ CIs w' w'.heap.size (some ⟨g, 0, none⟩) (ex (some ⟨h, 0, none⟩)) ∧ Below w.heap.size w w'
theorem small_any (w : World) : Calls Tryd.prog 54 #[] w (SmallRet w) := by
  go_enter Tryd.func54, Tryd.ntmps54
  go_wp2
  go_ret
  have e : (w.alloc (.cells #[.string sI] 9)).heap.size = w.heap.size + 1 := by simp
  have h2 := World.alloc_heap_new (w.alloc (.cells #[.string sI] 9)) (.cells (exCells w.heap.size) 30)
  rw [e] at h2
  exact ⟨w.heap.size + 1, w.heap.size, rfl, ex_cis (laid_old (World.alloc_heap_new w _)) h2, below_al (below_al (Below.refl _ _) _) _⟩
set_option maxRecDepth 100000 in
set_option maxHeartbeats 4000000 in
theorem awake16_any (w : World) : Calls Tryd.prog 16 #[] w fun e w' => e = .returned (.bool true) ∧ Below w.heap.size w w' := by
  go_enter Tryd.func16, Tryd.ntmps16
  go_upto_region 2 with (go_at_call 54; (with_reducible refine (small_any _).mono ?_); rintro e W ⟨g, h, rfl, hL, hB⟩; have HL := Lib.hid hL; have HB := Lib.hid hB; clear hL hB)
  have HV := ex_VH (some ⟨h, 0, none⟩)
  have HV := Lib.hid HV
  have hz : ∀ s ∈ [sB, sA, sI], s.size ≤ 9223372036854775807 := by decide
  have HZ := Lib.hid hz
  clear hz
  go_upto_region 3 with (go_at_call 17; (with_reducible refine (check_any _ 4 _ _ _ rfl (by omega) HL.out).mono ?_); rintro e w1 ⟨⟨s1, v1, rfl, hch⟩, hb1⟩; obtain ⟨rfl, rfl⟩ := hch.one (ex_chk _); have HB1 := Lib.hid hb1; clear hb1 hch)
  go_upto_region 4 with (go_at_call 17; (with_reducible refine (check_any _ 1 _ _ _ rfl (by omega) ((HL.out.up HB1.out).fst 1)).mono ?_); rintro e w2 ⟨⟨s2, v2, rfl, hch⟩, hb2⟩; obtain ⟨rfl, rfl⟩ := hch.one (ex_chk1 _); have HB2 := Lib.hid (below_on HB1.out hb2); clear hb2 hch)
  go_upto_region 5 with (go_at_call 28; (with_reducible refine (sup_any _ 4 _ _ _ _ rfl (by omega) HV.out (HL.out.up HB2.out) (HZ.out _ (by simp))).mono ?_); rintro e w3 ⟨v3, rfl, ho3, hb3⟩; rw [ex_sup] at ho3; obtain ⟨pA, pc, rfl, hpc, _⟩ := own_shape ho3; have HO3 := Lib.hid ho3; have HB3 := Lib.hid (below_on HB2.out hb3); clear hb3 ho3)
  obtain ⟨q, rfl, k0, hq, _⟩ := str_at (j := 0) HO3.out (by decide) rfl
  have k1 : w3.cell? ⟨q, 1, none⟩ = some (.string sA) := by
    obtain ⟨_, hq1, k1, _⟩ := str_at (j := 1) HO3.out (by decide) rfl
    obtain rfl : q = _ := by injection hq1 with h; injection h
    exact k1
  have k2 : w3.cell? ⟨q, 2, none⟩ = some (.string rootS) := by
    obtain ⟨_, hq1, k1, _⟩ := str_at (j := 2) HO3.out (by decide) rfl
    obtain rfl : q = _ := by injection hq1 with h; injection h
    exact k1
  clear k0
  have hpc3 : 3 ≤ pc := hpc
  have T1 := Lib.hid (show txB [sI] [sI] = true by decide)
  go_wp2_with (first
    | (go_at_call 30; (with_reducible refine (ifs_any _ 4 _ _ _ _ rfl (by omega) (HL.out.up HB3.out) (HZ.out _ (by simp))).mono ?_); rintro e w4 ⟨v4, rfl, ho4, hb4⟩; rw [ex_ifs] at ho4; obtain ⟨rA, rc, rfl, hrc, _⟩ := own_shape ho4; have HO4 := Lib.hid ho4; have HB4 := Lib.hid (below_on HB3.out hb4); clear hb4 ho4)
    | (go_at_call 27; (with_reducible refine (texts_any _ 1 _ [sI] _ 1 _ [sI] _ rfl rfl (by omega) (by omega) ((SRow.of_own HO4.out).1.up (below_al (Below.refl _ _) _)) (by have q := srow_new w4 sI; rwa [World.size_alloc])).mono ?_); rintro e w5 ⟨rfl, hb5⟩; rw [T1.out]; have HB5 := Lib.hid (below_on (below_al HB4.out _) hb5); clear hb5)
    | (go_at_call 25; (with_reducible refine (cs_any _ 4 _ _ _ _ _ rfl (by omega) HV.out (HL.out.up HB5.out) (HZ.out _ (by simp)) (HZ.out _ (by simp))).mono ?_); rintro e w6 ⟨rfl, hb6⟩; (first | rw [ex_cs1] | rw [ex_cs2]); replace HB5 := Lib.hid (below_on HB5.out hb6); clear hb6)
    | (go_at_call 23; (with_reducible refine (sub_any _ 4 _ _ _ _ _ rfl (by omega) (HL.out.up HB5.out) (HZ.out _ (by simp)) (HZ.out _ (by simp))).mono ?_); rintro e w6 ⟨rfl, hb6⟩; (first | rw [ex_is1] | rw [ex_is2]); replace HB5 := Lib.hid (below_on HB5.out hb6); clear hb6))
  go_ret
  exact ⟨rfl, below_on HB.out HB5.out⟩
end Go.Proofs.YthifmcnemeiphaaDoor

/- Id -/
/- Layer 16: few, right; the law of Check. -/
namespace Go.Proofs.YthifmcnemeiphaaDoor
open Go.ChangeShapes Go.WideShapes Go.ChangeAt Go.RowKit Go.PlainAid Go.Maps
set_option linter.unusedSimpArgs false
set_option linter.unusedVariables false

def smB (L : List CI) : Bool := decide (L.length ≤ 60) && L.all fun x => decide (x.fs.length ≤ 20)
theorem smB_iff {L : List CI} : smB L = true ↔ Small L := by
  unfold smB Small
  rw [Bool.and_eq_true, decide_eq_true_iff, List.all_eq_true]
  constructor
  · rintro ⟨h1, h2⟩; exact ⟨h1, fun x hx => of_decide_eq_true (h2 x hx)⟩
  · rintro ⟨h1, h2⟩; exact ⟨h1, fun x hx => decide_eq_true (h2 x hx)⟩
theorem smB_no {L : List CI} {k : Nat} (hk : k < L.length) (h : 20 < L[k].fs.length) : smB L = false := by
  cases hs : smB L with
  | false => rfl
  | true => have := (smB_iff.1 hs).2 _ (List.getElem_mem hk); omega
set_option maxRecDepth 100000 in
set_option maxHeartbeats 1000000 in
theorem few_any (A : Option Addr) (n c : Nat) (L : List CI) (w : World) (hn : L.length = n) (hc : n ≤ 9223372036854775807) (h : CIs w w.heap.size A L) :
    Calls Tryd.prog 15 #[.slice A n c] w fun e w' => e = .returned (.bool (smB L)) ∧ Below w.heap.size w w' := by
  have HL := Lib.hid h
  have HN := Lib.hid hn
  clear h hn
  by_cases h60 : n ≤ 60
  · go_enter Tryd.func15, Tryd.ntmps15
    go_wp2
    go_loop [3] (fun i => ∃ k : Nat, k ≤ n ∧ i = .int .i64 k ∧ Hid (∀ j (hj : j < k) (hl : j < L.length), L[j].fs.length ≤ 20)) (fun i => n - (intOf i).toNat)
    case atStart => exact ⟨0, Nat.zero_le _, rfl, Lib.hid fun j hj => absurd hj (Nat.not_lt_zero _)⟩
    case round =>
      obtain ⟨k, hk, rfl, hv⟩ := hrel
      by_cases hlt : k < n
      · have hkl : k < L.length := by rw [HN.out]; exact hlt
        obtain ⟨g, o, rfl, hg, hok, c0, c1, c2, c3⟩ := HL.out.at hkl
        have hfn : L[k].fs.length = L[k].n := hok.2.2.1
        have HFN := Lib.hid hfn
        clear hok hfn c0 c1 c3
        by_cases hq : L[k].n ≤ 20
        · have HV := Lib.hid (show ∀ j (hj : j < k + 1) (hl : j < L.length), L[j].fs.length ≤ 20 from fun j hj hl => by
            rcases Nat.lt_or_ge j k with h | h
            · exact hv.out j h hl
            · obtain rfl : j = k := by omega
              rw [HFN.out]; exact hq)
          go_wp2
          go_round
          case rel => exact ⟨k + 1, by omega, by go_num, HV⟩
          case measure => simp [intOf]; omega
        · have HR := Lib.hid (smB_no hkl (by rw [HFN.out]; omega))
          go_wp2
          go_ret
          exact ⟨ret_bool HR.out.symm, Below.refl _ _⟩
      · obtain rfl : k = n := by omega
        have HR := Lib.hid (smB_iff.2 (show Small L from ⟨by rw [HN.out]; exact h60, fun x hx => by
          obtain ⟨j, hj, rfl⟩ := List.getElem_of_mem hx
          exact hv.out j (by rw [← HN.out]; exact hj) hj⟩))
        go_wp2
        go_ret
        exact ⟨ret_bool HR.out.symm, Below.refl _ _⟩
  · have HR := Lib.hid (show smB L = false by unfold smB; rw [decide_eq_false (by rw [HN.out]; exact h60)]; rfl)
    go_enter Tryd.func15, Tryd.ntmps15
    go_wp2
    go_ret
    exact ⟨ret_bool HR.out.symm, Below.refl _ _⟩
theorem ChkV.vh {L : List CI} {s : ByteArray} {v : Int} (h : ChkV L s v) : v = 0 ↔ VH L := by
  rcases h with ⟨i, x, h1, h2, h3, h4, h5⟩ | ⟨h1, h2, h3⟩
  · constructor
    · intro e; exact absurd e h4
    · intro hv; exact h3.symm.trans (hv i x h1)
  · exact ⟨fun _ => h1, fun _ => h2⟩
noncomputable def rgB (L : List CI) : Bool := smB L && @decide (VH L) (Classical.propDecidable _)
theorem rgB_iff {L : List CI} : rgB L = true ↔ Small L ∧ VH L := by
  unfold rgB
  rw [Bool.and_eq_true, smB_iff, @decide_eq_true_iff _ (Classical.propDecidable _)]
set_option maxRecDepth 100000 in
theorem right_any (A : Option Addr) (n c : Nat) (L : List CI) (w : World) (hn : L.length = n) (hcap : n ≤ c) (hcm : c ≤ 9223372036854775807) (h : CIs w w.heap.size A L) :
    Calls Tryd.prog 19 #[.slice A n c] w fun e w' => e = .returned (.bool (rgB L)) ∧ Below w.heap.size w w' := by
  have HL := Lib.hid h
  have HN := Lib.hid hn
  have HF := Lib.hid (few_any A n c L w hn (by omega) h)
  clear h hn
  cases hs : smB L with
  | false =>
    rw [hs] at HF
    have HR := Lib.hid (show rgB L = false by unfold rgB; rw [hs]; rfl)
    clear hs
    rw [HR.out]
    go_enter Tryd.func19, Tryd.ntmps19
    go_wp2_with (go_at_call 15; (with_reducible refine (HF.out).mono ?_); rintro e w1 ⟨rfl, hb1⟩)
    go_ret
    exact ⟨rfl, hb1⟩
  | true =>
    rw [hs] at HF
    have HS := Lib.hid (smB_iff.1 hs)
    have HR := Lib.hid (show ∀ s v, ChkV L s v → rgB L = (v == 0) by
      intro s v hv
      rw [Bool.eq_iff_iff, rgB_iff, beq_iff_eq, hv.vh]
      exact ⟨fun h => h.2, fun h => ⟨HS.out, h⟩⟩)
    clear hs
    obtain ⟨r, hr⟩ : ∃ r, rgB L = r := ⟨_, rfl⟩
    rw [hr] at HR ⊢
    clear hr
    go_enter Tryd.func19, Tryd.ntmps19
    go_wp2_with (first | (go_at_call 15; (with_reducible refine (HF.out).mono ?_); rintro e w1 ⟨rfl, hb1⟩; have HB1 := Lib.hid hb1; clear hb1) | (go_at_call 18; (with_reducible refine (rcheck_any A n c L _ HN.out HS.out.mid hcap hcm (HL.out.up HB1.out)).mono ?_); rintro e w2 ⟨⟨s2, v2, rfl, hch⟩, hb2⟩; have HE := Lib.hid (HR.out s2 v2 hch); have HB2 := Lib.hid (below_on HB1.out hb2); clear hb2 hch))
    go_ret
    exact ⟨ret_bool HE.out.symm, HB2.out⟩
set_option maxRecDepth 100000 in
theorem check_law (A : Option Addr) (n c : Nat) (L : List CI) (w : World) (hn : L.length = n) (hcap : n ≤ c) (hcm : c ≤ 9223372036854775807) (h : CIs w w.heap.size A L) :
    Calls Tryd.prog 3 #[.slice A n c] w fun e w' => e = .returned (.bool true) ∧ Below w.heap.size w w' := by
  have HL := Lib.hid h
  have HN := Lib.hid hn
  have HF := Lib.hid (few_any A n c L w hn (by omega) h)
  clear h hn
  cases hs : smB L with
  | false =>
    rw [hs] at HF
    clear hs
    go_enter Tryd.func3, Tryd.ntmps3
    go_wp2_with (first | (go_at_call 15; (with_reducible refine (HF.out).mono ?_); rintro e w1 ⟨rfl, hb1⟩; have HB1 := Lib.hid hb1; clear hb1) | (go_at_call 16; (with_reducible refine (awake16_any _).mono ?_); rintro e w2 ⟨rfl, hb2⟩; have HB2 := Lib.hid (below_on HB1.out hb2); clear hb2))
    go_ret
    exact ⟨rfl, HB2.out⟩
  | true =>
    rw [hs] at HF
    have HS := Lib.hid (smB_iff.1 hs)
    have hn60 : n ≤ 60 := by rw [← HN.out]; exact HS.out.1
    clear hs
    go_enter Tryd.func3, Tryd.ntmps3
    go_upto_region 5 with (first | (go_at_call 15; (with_reducible refine (HF.out).mono ?_); rintro e w1 ⟨rfl, hb1⟩; have HB1 := Lib.hid hb1; clear hb1) | (go_at_call 17; (with_reducible refine (check_any A n c L _ HN.out (by omega) (HL.out.up HB1.out)).mono ?_); rintro e w2 ⟨⟨s2, v2, rfl, hch⟩, hb2⟩; have HCH := Lib.hid hch; have HB2 := Lib.hid (below_on HB1.out hb2); clear hb2 hch) | (go_at_call 18; (with_reducible refine (rcheck_any A n c L _ HN.out HS.out.mid hcap hcm (HL.out.up HB2.out)).mono ?_); rintro e w3 ⟨⟨s3, v3, rfl, hch⟩, hb3⟩; obtain ⟨rfl, rfl⟩ := HCH.out.one hch; have HB3 := Lib.hid (below_on HB2.out hb3); clear hb3 hch))
    go_wp2_with (go_at_call 16; (with_reducible refine (awake16_any _).mono ?_); rintro e w4 ⟨rfl, hb4⟩; have HB4 := Lib.hid (below_on HB3.out hb4); clear hb4)
    go_ret
    exact ⟨rfl, HB4.out⟩
end Go.Proofs.YthifmcnemeiphaaDoor

/- If -/
/- Layer 16: the order of classes; its law. -/
namespace Go.Proofs.YthifmcnemeiphaaDoor
open Go.ChangeShapes Go.WideShapes Go.ChangeAt Go.RowKit Go.PlainAid Go.Maps
set_option linter.unusedSimpArgs false
set_option linter.unusedVariables false

theorem Rc.trans {L : List CI} {i j k : Nat} (h : Rc L i j) (h2 : Rc L j k) : Rc L i k := by
  induction h2 with
  | one he => exact .more h he
  | more _ he ih => exact .more ih he
theorem Rc.head {L : List CI} {i k : Nat} (h : Rc L i k) : ∃ j, Ed L i j := by
  induction h with
  | one he => exact ⟨_, he⟩
  | more _ _ ih => exact ih
theorem nm_place {L : List CI} {s : ByteArray} (hf : fB L s = true) : ∃ x, L[fI L s]? = some x ∧ x.nm = s ∧ lkC L s = x := by
  obtain ⟨e, hl⟩ := fI_of hf
  rw [e]
  exact ⟨L[fnd L s], List.getElem?_eq_getElem hl, fnd_nm hl, lkC_yes hl⟩
theorem eq_of_place {L : List CI} {s t : ByteArray} (hs : fB L s = true) (ht : fB L t = true) (h : fI L s = fI L t) : s = t := by
  obtain ⟨x, h1, h2, _⟩ := nm_place hs
  obtain ⟨y, k1, k2, _⟩ := nm_place ht
  rw [h, k1] at h1
  obtain rfl := Option.some.inj h1
  exact h2.symm.trans k2
theorem VH.acyc {L : List CI} (h : VH L) {s : ByteArray} (hf : fB L s = true) : ¬ Rc L (fI L s) (fI L s) := by
  obtain ⟨x, h1, _⟩ := nm_place hf
  exact (h.all h1).2.2.2.2.2.2
/-- nothing is above the root -/
theorem VH.root {L : List CI} (h : VH L) {s : ByteArray} (hf : fB L s = true) (hr : (s.toList == rootL) = true) (j : Nat) : ¬ Rc L (fI L s) j := by
  intro hrc
  obtain ⟨k, hed⟩ := hrc.head
  obtain ⟨x, h1, h2, _⟩ := nm_place hf
  have hx := h.all h1
  obtain ⟨hi, t, ht, hk, hkl⟩ := hed
  have hxe : L[fI L s] = x := by rw [List.getElem?_eq_getElem hi] at h1; exact Option.some.inj h1
  rw [hxe] at ht
  have htf := h.found h1 ht
  unfold nxt at ht
  have hse : x.su.toList = [] := by
    have := hx.2.2.1
    rw [h2, hr] at this
    cases hs : x.su.toList with
    | nil => rfl
    | cons _ _ => rw [hs] at this; cases this
  rw [if_pos hse, List.nil_append] at ht
  have h6 := hx.2.2.2.2.2.1
  rw [List.all_eq_true] at h6
  have hok := h6 t ht
  unfold ifOk at hok
  rw [Bool.and_eq_true] at hok
  obtain ⟨y, k1, k2, k3⟩ := nm_place htf
  rw [k3] at hok
  have hy := h.all k1
  have hsu := hy.2.2.2.1 hok.2
  have hsy : y.su = s := toList_iff.1 ((beq_iff_eq.1 hsu).trans (beq_iff_eq.1 hr).symm)
  have hup := h.up htf (by rw [k3, hsy]; exact hf)
  rw [k3, hsy] at hup
  have hd : Ed L (fI L s) (fI L t) := ⟨hi, t, by rw [hxe]; unfold nxt; exact List.mem_append_right _ ht, (fI_of htf).1.symm, by rw [(fI_of htf).1]; exact (fI_of htf).2⟩
  exact h.acyc hf (.more (.one hd) hup)
theorem isV_refl (L : List CI) (a : ByteArray) : isV L a a = true := by unfold isV; simp
theorem isV_iff {L : List CI} {a b : ByteArray} : isV L a b = true ↔ a = b ∨ (fB L a = true ∧ ((b.toList == rootL) = true ∨ (fB L b = true ∧ Rc L (fI L a) (fI L b)))) := by
  unfold isV
  rw [Bool.or_eq_true, Bool.and_eq_true, Bool.or_eq_true, Bool.and_eq_true, rcB_iff, beq_iff_eq, toList_iff]
theorem isV_trans {L : List CI} (h : VH L) {a b c : ByteArray} (h1 : isV L a b = true) (h2 : isV L b c = true) : isV L a c = true := by
  rw [isV_iff] at h1 h2 ⊢
  rcases h1 with rfl | ⟨ha, h1⟩
  · exact h2
  · rcases h2 with rfl | ⟨hb, h2⟩
    · exact Or.inr ⟨ha, h1⟩
    · refine Or.inr ⟨ha, ?_⟩
      rcases h2 with h2 | ⟨hc, h2⟩
      · exact Or.inl h2
      · rcases h1 with h1 | ⟨_, h1⟩
        · exact absurd h2 (h.root hb h1 _)
        · exact Or.inr ⟨hc, h1.trans h2⟩
theorem isV_anti {L : List CI} (h : VH L) {a b : ByteArray} (h1 : isV L a b = true) (h2 : isV L b a = true) : a = b := by
  rw [isV_iff] at h1 h2
  rcases h1 with rfl | ⟨ha, h1⟩
  · rfl
  · rcases h2 with rfl | ⟨hb, h2⟩
    · rfl
    · rcases h1 with h1 | ⟨_, h1⟩
      · rcases h2 with h2 | ⟨_, h2⟩
        · exact toList_iff.1 ((beq_iff_eq.1 h2).trans (beq_iff_eq.1 h1).symm)
        · exact absurd h2 (h.root hb h1 _)
      · rcases h2 with h2 | ⟨_, h2⟩
        · exact absurd h1 (h.root ha h2 _)
        · exact absurd (h1.trans h2) (h.acyc ha)
set_option maxRecDepth 100000 in
set_option maxHeartbeats 2000000 in
theorem order_law (A : Option Addr) (n c : Nat) (L : List CI) (a b d : ByteArray) (w : World) (hn : L.length = n) (hcap : n ≤ c) (hcm : c ≤ 9223372036854775807) (h : CIs w w.heap.size A L) (ha : a.size ≤ 9223372036854775807) (hb : b.size ≤ 9223372036854775807) (hd : d.size ≤ 9223372036854775807) :
    Calls Tryd.prog 5 #[.slice A n c, .string a, .string b, .string d] w fun e w' => e = .returned (.bool true) ∧ Below w.heap.size w w' := by
  have HL := Lib.hid h
  have HN := Lib.hid hn
  have HF := Lib.hid (right_any A n c L w hn hcap hcm h)
  clear h hn
  cases hs : rgB L with
  | false =>
    rw [hs] at HF
    clear hs
    go_enter Tryd.func5, Tryd.ntmps5
    go_wp2_with (first | (go_at_call 19; (with_reducible refine (HF.out).mono ?_); rintro e w1 ⟨rfl, hb1⟩; have HB1 := Lib.hid hb1; clear hb1) | (go_at_call 16; (with_reducible refine (awake16_any _).mono ?_); rintro e w2 ⟨rfl, hb2⟩; have HB2 := Lib.hid (below_on HB1.out hb2); clear hb2))
    go_ret
    exact ⟨rfl, HB2.out⟩
  | true =>
    rw [hs] at HF
    obtain ⟨hsm, hv⟩ := rgB_iff.1 hs
    have HV := Lib.hid hv
    have hn60 : n ≤ 60 := by rw [← HN.out]; exact hsm.1
    clear hs hsm hv
    have HC := Lib.hid (fun (x y : ByteArray) (W : World) (hx : x.size ≤ 9223372036854775807) (hy : y.size ≤ 9223372036854775807) (hb : Below w.heap.size w W) => sub_any A n c L x y W HN.out (by omega) (HL.out.up hb) hx hy)
    obtain ⟨r1, e1⟩ : ∃ r, isV L a b = r := ⟨_, rfl⟩
    obtain ⟨r2, e2⟩ : ∃ r, isV L b d = r := ⟨_, rfl⟩
    obtain ⟨r3, e3⟩ : ∃ r, isV L a d = r := ⟨_, rfl⟩
    obtain ⟨r4, e4⟩ : ∃ r, isV L b a = r := ⟨_, rfl⟩
    have C1 := Lib.hid (fun (W : World) (h : Below w.heap.size w W) => by have q := HC.out a b W ha hb h; rw [e1] at q; exact q)
    have C2 := Lib.hid (fun (W : World) (h : Below w.heap.size w W) => by have q := HC.out b d W hb hd h; rw [e2] at q; exact q)
    have C3 := Lib.hid (fun (W : World) (h : Below w.heap.size w W) => by have q := HC.out a d W ha hd h; rw [e3] at q; exact q)
    have C4 := Lib.hid (fun (W : World) (h : Below w.heap.size w W) => by have q := HC.out b a W hb ha h; rw [e4] at q; exact q)
    have C5 := Lib.hid (fun (W : World) (h : Below w.heap.size w W) => by have q := HC.out a a W ha ha h; rw [isV_refl] at q; exact q)
    have T1 : r1 = true → r2 = true → r3 = true := by
      rintro rfl rfl
      rw [← e3]; exact isV_trans HV.out e1 e2
    have T2 : r1 = true → r4 = true → (a.toList == b.toList) = true := by
      rintro rfl rfl
      rw [isV_anti HV.out e1 e4]; simp
    clear e1 e2 e3 e4
    go_enter Tryd.func5, Tryd.ntmps5
    go_upto_region 4 with (first | (go_at_call 19; (with_reducible refine (HF.out).mono ?_); rintro e w1 ⟨rfl, hb1⟩; have HB1 := Lib.hid hb1; clear hb1) | (go_at_call 23; (with_reducible refine (C1.out _ HB1.out).mono ?_); rintro e w2 ⟨rfl, hb2⟩; replace HB1 := Lib.hid (below_on HB1.out hb2); clear hb2) | (go_at_call 23; (with_reducible refine (C2.out _ HB1.out).mono ?_); rintro e w2 ⟨rfl, hb2⟩; replace HB1 := Lib.hid (below_on HB1.out hb2); clear hb2) | (go_at_call 23; (with_reducible refine (C3.out _ HB1.out).mono ?_); rintro e w2 ⟨rfl, hb2⟩; replace HB1 := Lib.hid (below_on HB1.out hb2); clear hb2) | (go_at_call 23; (with_reducible refine (C4.out _ HB1.out).mono ?_); rintro e w2 ⟨rfl, hb2⟩; replace HB1 := Lib.hid (below_on HB1.out hb2); clear hb2) | (go_at_call 23; (with_reducible refine (C5.out _ HB1.out).mono ?_); rintro e w2 ⟨rfl, hb2⟩; replace HB1 := Lib.hid (below_on HB1.out hb2); clear hb2))
    have fin : ∀ b : Bool, b = true → b = true := fun _ h => h
    clear C1 C2 C3 C4 HC
    cases r1 with
    | false =>
      clear T1 T2
      go_wp2_with (first | (go_at_call 16; (with_reducible refine (awake16_any _).mono ?_); rintro e w2 ⟨rfl, hb2⟩; replace HB1 := Lib.hid (below_on HB1.out hb2); clear hb2) | (go_at_call 23; (with_reducible refine (C5.out _ HB1.out).mono ?_); rintro e w2 ⟨rfl, hb2⟩; replace HB1 := Lib.hid (below_on HB1.out hb2); clear hb2))
      go_ret
      exact ⟨rfl, HB1.out⟩
    | true =>
      have T1' := T1 rfl
      have T2' := T2 rfl
      clear T1 T2
      cases r2 with
      | false =>
        clear T1'
        cases r4 with
        | false =>
          clear T2'
          go_wp2_with (first | (go_at_call 16; (with_reducible refine (awake16_any _).mono ?_); rintro e w2 ⟨rfl, hb2⟩; replace HB1 := Lib.hid (below_on HB1.out hb2); clear hb2) | (go_at_call 23; (with_reducible refine (C5.out _ HB1.out).mono ?_); rintro e w2 ⟨rfl, hb2⟩; replace HB1 := Lib.hid (below_on HB1.out hb2); clear hb2))
          go_ret
          exact ⟨rfl, HB1.out⟩
        | true =>
          have hab := T2' rfl
          clear T2'
          go_wp2_with (first | (go_at_call 16; (with_reducible refine (awake16_any _).mono ?_); rintro e w2 ⟨rfl, hb2⟩; replace HB1 := Lib.hid (below_on HB1.out hb2); clear hb2) | (go_at_call 23; (with_reducible refine (C5.out _ HB1.out).mono ?_); rintro e w2 ⟨rfl, hb2⟩; replace HB1 := Lib.hid (below_on HB1.out hb2); clear hb2))
          go_ret
          exact ⟨rfl, HB1.out⟩
      | true =>
        obtain rfl := T1' rfl
        clear T1'
        cases r4 with
        | false =>
          clear T2'
          go_wp2_with (first | (go_at_call 16; (with_reducible refine (awake16_any _).mono ?_); rintro e w2 ⟨rfl, hb2⟩; replace HB1 := Lib.hid (below_on HB1.out hb2); clear hb2) | (go_at_call 23; (with_reducible refine (C5.out _ HB1.out).mono ?_); rintro e w2 ⟨rfl, hb2⟩; replace HB1 := Lib.hid (below_on HB1.out hb2); clear hb2))
          go_ret
          exact ⟨rfl, HB1.out⟩
        | true =>
          have hab := T2' rfl
          clear T2'
          go_wp2_with (first | (go_at_call 16; (with_reducible refine (awake16_any _).mono ?_); rintro e w2 ⟨rfl, hb2⟩; replace HB1 := Lib.hid (below_on HB1.out hb2); clear hb2) | (go_at_call 23; (with_reducible refine (C5.out _ HB1.out).mono ?_); rintro e w2 ⟨rfl, hb2⟩; replace HB1 := Lib.hid (below_on HB1.out hb2); clear hb2))
          go_ret
          exact ⟨rfl, HB1.out⟩
end Go.Proofs.YthifmcnemeiphaaDoor

/- Ih -/
/- Layer 16: superclass chains, pure. -/
namespace Go.Proofs.YthifmcnemeiphaaDoor
open Go.ChangeShapes Go.WideShapes Go.ChangeAt Go.RowKit Go.PlainAid Go.Maps
set_option linter.unusedSimpArgs false
set_option linter.unusedVariables false

theorem root_tl : rootS.toList = rootL := by decide +kernel
theorem chain_found {L : List CI} : ∀ (k : Nat) (a : ByteArray), ∀ s ∈ chain L k a, fB L s = true
  | 0, _, _, h => by cases h
  | k + 1, a, s, h => by
    unfold chain at h
    split at h
    · rename_i hf
      rcases List.mem_cons.1 h with rfl | h
      · exact hf
      · exact chain_found k _ s h
    · cases h
theorem chain_above {L : List CI} (hv : VH L) : ∀ (k : Nat) (a : ByteArray), fB L a = true → ∀ s ∈ chain L k (lkC L a).su, Rc L (fI L a) (fI L s)
  | 0, _, _, _, h => by cases h
  | k + 1, a, ha, s, h => by
    unfold chain at h
    split at h
    · rename_i hf
      have hed := hv.up ha hf
      rcases List.mem_cons.1 h with rfl | h
      · exact .one hed
      · exact Rc.trans (.one hed) (chain_above hv k _ hf s h)
    · cases h
theorem chain_nodup {L : List CI} (hv : VH L) : ∀ (k : Nat) (a : ByteArray), ((chain L k a).map (fI L)).Nodup
  | 0, _ => List.nodup_nil
  | k + 1, a => by
    unfold chain
    split
    · rename_i hf
      rw [List.map_cons, List.nodup_cons]
      refine ⟨?_, chain_nodup hv k _⟩
      intro hm
      obtain ⟨s, hs, he⟩ := List.mem_map.1 hm
      have hr := chain_above hv k a hf s hs
      rw [he] at hr
      exact hv.acyc hf hr
    · exact List.nodup_nil
theorem chain_le {L : List CI} (hv : VH L) (k : Nat) (a : ByteArray) : (chain L k a).length ≤ L.length := by
  have h1 := nodup_len ((chain L k a).map (fI L)) (List.range L.length) (chain_nodup hv k a) (fun i hi => by
    obtain ⟨s, hs, rfl⟩ := List.mem_map.1 hi
    exact List.mem_range.2 (fI_lt rfl (chain_found k a s hs)))
  rw [List.length_map, List.length_range] at h1
  exact h1
theorem sup_le {L : List CI} (hv : VH L) (a : ByteArray) : (supL L a).length ≤ L.length := chain_le hv _ a
/-- the next one in a chain -/
theorem chain_next {L : List CI} : ∀ (k : Nat) (a : ByteArray) (j : Nat) (h : j + 1 < (chain L k a).length), (chain L k a)[j + 1] = (lkC L ((chain L k a)[j]'(by omega))).su
  | 0, _, _, h => by simp [chain] at h
  | k + 1, a, j, h => by
    cases hf : fB L a with
    | false => rw [chain_no hf] at h; simp at h
    | true =>
      have e := chain_yes (k := k) hf
      have key : ∀ (l : List ByteArray) (hl : l = a :: chain L k (lkC L a).su) (h : j + 1 < l.length), l[j + 1] = (lkC L (l[j]'(by omega))).su := by
        rintro l rfl h
        cases j with
        | zero =>
          simp only [List.getElem_cons_succ, List.getElem_cons_zero]
          cases k with
          | zero => simp [chain] at h
          | succ k =>
            cases hs : fB L (lkC L a).su with
            | false => rw [chain_no hs] at h; simp at h
            | true => simp only [chain_yes hs]; rfl
        | succ j =>
          simp only [List.getElem_cons_succ]
          exact chain_next k _ j (by simpa using h)
      exact key _ e h
/-- a chain that is not cut ends where nothing is above -/
theorem chain_end {L : List CI} : ∀ (k : Nat) (a : ByteArray), fB L a = true → (chain L k a).length < k → ∃ s, (chain L k a).getLast? = some s ∧ fB L s = true ∧ fB L (lkC L s).su = false
  | 0, _, _, h => by omega
  | k + 1, a, hf, h => by
    rw [chain_yes hf] at h ⊢
    cases hs : fB L (lkC L a).su with
    | false =>
      rw [chain_no hs]
      exact ⟨a, rfl, hf, hs⟩
    | true =>
      obtain ⟨s, h1, h2, h3⟩ := chain_end k _ hs (by simpa using h)
      refine ⟨s, ?_, h2, h3⟩
      rw [List.getLast?_cons, h1]; rfl
theorem VH.top {L : List CI} (hv : VH L) {s : ByteArray} (hf : fB L s = true) (hs : fB L (lkC L s).su = false) : s = rootS := by
  obtain ⟨x, h1, h2, h3⟩ := nm_place hf
  have hx := hv.all h1
  rw [h3] at hs
  have he : x.su.toList.isEmpty = true := by
    cases hh : x.su.toList.isEmpty with
    | true => rfl
    | false => have := (hx.2.2.2.2.1 hh).1; rw [hs] at this; cases this
  have := hx.2.2.1
  rw [he, h2] at this
  exact toList_iff.1 ((beq_iff_eq.1 this.symm).trans root_tl.symm)
/-- what the chain of a class of the hierarchy looks like -/
theorem sup_shape {L : List CI} (hv : VH L) {a : ByteArray} (ha : fB L a = true) : ∃ P, supL L a = a :: P ∧ (supL L a).getLast? = some rootS := by
  refine ⟨_, chain_yes ha, ?_⟩
  obtain ⟨s, h1, h2, h3⟩ := chain_end (L.length + 1) a ha (by have := chain_le hv (L.length + 1) a; omega)
  rw [hv.top h2 h3] at h1
  exact h1
theorem sup_is {L : List CI} (hv : VH L) {a s : ByteArray} (hs : s ∈ supL L a) : fB L a = true ∧ isV L a s = true := by
  cases ha : fB L a with
  | false => unfold supL at hs; rw [chain_no ha] at hs; cases hs
  | true =>
    refine ⟨rfl, ?_⟩
    unfold supL at hs
    rw [chain_yes ha] at hs
    rw [isV_iff]
    rcases List.mem_cons.1 hs with rfl | hs
    · exact Or.inl rfl
    · exact Or.inr ⟨ha, Or.inr ⟨chain_found _ _ s hs, chain_above hv _ a ha s hs⟩⟩
/-- the first common one is the same either way -/
theorem first_or {L : List CI} (hv : VH L) : ∀ (k : Nat) (a : ByteArray) (x y : ByteArray), x ∈ chain L k a → y ∈ chain L k a → (∀ P1 P2, chain L k a = P1 ++ x :: P2 → y ∉ P1) → x = y ∨ Rc L (fI L x) (fI L y)
  | 0, _, _, _, h, _, _ => by cases h
  | k + 1, a, x, y, hx, hy, hf => by
    cases ha : fB L a with
    | false => rw [chain_no ha] at hx; cases hx
    | true =>
      rw [chain_yes ha] at hx hy hf
      by_cases hxa : x = a
      · subst hxa
        rcases List.mem_cons.1 hy with rfl | hy
        · exact Or.inl rfl
        · exact Or.inr (chain_above hv k _ ha y hy)
      · rcases List.mem_cons.1 hx with e | hx
        · exact absurd e hxa
        · by_cases hya : y = a
          · subst hya
            exfalso
            obtain ⟨P1, P2, e⟩ := List.append_of_mem hx
            exact hf (y :: P1) P2 (by rw [e]; rfl) List.mem_cons_self
          · rcases List.mem_cons.1 hy with e | hy
            · exact absurd e hya
            · refine first_or hv k _ x y hx hy (fun P1 P2 e hm => ?_)
              exact hf (a :: P1) P2 (by rw [e]; rfl) (List.mem_cons_of_mem _ hm)
theorem csF_spec {P Q : List ByteArray} {s : ByteArray} (h : s ∈ P ∧ s ∈ Q) : ∃ P1 P2, P = P1 ++ csF P Q :: P2 ∧ csF P Q ∈ Q ∧ ∀ t ∈ P1, t ∉ Q := by
  unfold csF
  cases hf : P.find? (fun s => hasL Q s) with
  | none =>
    rw [List.find?_eq_none] at hf
    exact absurd (hasL_iff.2 h.2) (hf s h.1)
  | some x =>
    rw [List.find?_eq_some_iff_append] at hf
    obtain ⟨h1, P1, P2, h2, h3⟩ := hf
    refine ⟨P1, P2, h2, hasL_iff.1 h1, fun t ht hq => ?_⟩
    have := h3 t ht
    rw [hasL_iff.2 hq] at this
    cases this
theorem csF_comm {L : List CI} (hv : VH L) {a b : ByteArray} (ha : fB L a = true) (hb : fB L b = true) : csF (supL L a) (supL L b) = csF (supL L b) (supL L a) := by
  obtain ⟨_, _, la⟩ := sup_shape hv ha
  obtain ⟨_, _, lb⟩ := sup_shape hv hb
  have ra := List.mem_of_getLast? la
  have rb := List.mem_of_getLast? lb
  obtain ⟨P1, P2, e1, q1, n1⟩ := csF_spec ⟨ra, rb⟩
  obtain ⟨Q1, Q2, e2, q2, n2⟩ := csF_spec ⟨rb, ra⟩
  generalize csF (supL L a) (supL L b) = x at e1 q1 n1 e2 q2 n2 ⊢
  generalize csF (supL L b) (supL L a) = y at e1 q1 n1 e2 q2 n2 ⊢
  have hxP : x ∈ supL L a := by rw [e1]; exact List.mem_append_right _ List.mem_cons_self
  have hyQ : y ∈ supL L b := by rw [e2]; exact List.mem_append_right _ List.mem_cons_self
  have split_eq : ∀ (l P1 P2 R1 R2 : List ByteArray) (z : ByteArray), l = P1 ++ z :: P2 → (z ∉ P1) → l = R1 ++ z :: R2 → (z ∉ R1) → R1 = P1 := by
    intro l P1
    induction P1 generalizing l with
    | nil =>
      intro P2 R1 R2 z h1 _ h2 hn
      cases R1 with
      | nil => rfl
      | cons r R1 =>
        rw [h1] at h2
        injection h2 with h2
        exact absurd (by rw [h2]; exact List.mem_cons_self) hn
    | cons p P1 ih =>
      intro P2 R1 R2 z h1 hp h2 hn
      cases R1 with
      | nil =>
        rw [h1] at h2
        injection h2 with h2
        exact absurd (by rw [h2]; exact List.mem_cons_self) hp
      | cons r R1 =>
        rw [h1] at h2
        injection h2 with h3 h2
        rw [h3, ih _ P2 R1 R2 z rfl (fun h => hp (List.mem_cons_of_mem _ h)) h2 (fun h => hn (List.mem_cons_of_mem _ h))]
  have nd : ∀ (c : ByteArray) (R1 R2 : List ByteArray) (z : ByteArray), supL L c = R1 ++ z :: R2 → z ∉ R1 := by
    intro c R1 R2 z h hm
    have := chain_nodup hv (L.length + 1) c
    change ((supL L c).map (fI L)).Nodup at this
    rw [h, List.map_append, List.nodup_append] at this
    exact this.2.2 (fI L z) (List.mem_map_of_mem hm) (fI L z) (by rw [List.map_cons]; exact List.mem_cons_self) rfl
  have c1 := first_or hv _ a x y hxP q2 (fun R1 R2 e hm => by
    have := split_eq _ P1 P2 R1 R2 x e1 (nd a P1 P2 x e1) e (nd a R1 R2 x e)
    rw [this] at hm
    exact n1 y hm hyQ)
  have c2 := first_or hv _ b y x hyQ q1 (fun R1 R2 e hm => by
    have := split_eq _ Q1 Q2 R1 R2 y e2 (nd b Q1 Q2 y e2) e (nd b R1 R2 y e)
    rw [this] at hm
    exact n2 x hm hxP)
  rcases c1 with h | h
  · exact h
  · rcases c2 with h2 | h2
    · exact h2.symm
    · exact absurd (h.trans h2) (hv.acyc (chain_found _ _ x hxP))
theorem csV_comm {L : List CI} (hv : VH L) {a b : ByteArray} (hne : (a.toList == b.toList) = false) : csV L a b = csV L b a := by
  have hne2 : (b.toList == a.toList) = false := by
    rw [beq_eq_false_iff_ne] at hne ⊢
    exact fun h => hne h.symm
  unfold csV
  rw [hne, hne2, if_neg (show ¬ (false = true) by decide), if_neg (show ¬ (false = true) by decide)]
  by_cases hc : fB L a = false ∨ fB L b = false ∨ (lkC L a).isI = true ∨ (lkC L b).isI = true
  · rw [if_pos hc, if_pos (by rcases hc with h | h | h | h; exact Or.inr (Or.inl h); exact Or.inl h; exact Or.inr (Or.inr (Or.inr h)); exact Or.inr (Or.inr (Or.inl h)))]
  · rw [if_neg hc, if_neg (fun h => hc (by rcases h with h | h | h | h; exact Or.inr (Or.inl h); exact Or.inl h; exact Or.inr (Or.inr (Or.inr h)); exact Or.inr (Or.inr (Or.inl h))))]
    have ha : fB L a = true := by cases h : fB L a with | true => rfl | false => exact absurd (Or.inl h) hc
    have hb : fB L b = true := by cases h : fB L b with | true => rfl | false => exact absurd (Or.inr (Or.inl h)) hc
    exact csF_comm hv ha hb
theorem csV_above {L : List CI} (hv : VH L) {a b : ByteArray} (ha : fB L a = true) (hb : fB L b = true) : isV L a (csV L a b) = true ∧ isV L b (csV L a b) = true := by
  have root : ∀ s, fB L s = true → isV L s rootS = true := fun s hs => isV_iff.2 (Or.inr ⟨hs, Or.inl (by rw [root_tl]; exact beq_self_eq_true _)⟩)
  unfold csV
  cases he : (a.toList == b.toList) with
  | true =>
    rw [if_pos rfl]
    have : a = b := toList_iff.1 (beq_iff_eq.1 he)
    subst this
    exact ⟨isV_refl _ _, isV_refl _ _⟩
  | false =>
    rw [if_neg (show ¬ (false = true) by decide)]
    split
    · exact ⟨root a ha, root b hb⟩
    · obtain ⟨_, _, la⟩ := sup_shape hv ha
      obtain ⟨_, _, lb⟩ := sup_shape hv hb
      obtain ⟨P1, P2, e1, q1, _⟩ := csF_spec ⟨List.mem_of_getLast? la, List.mem_of_getLast? lb⟩
      refine ⟨(sup_is hv ?_).2, (sup_is hv q1).2⟩
      have : ∀ (l : List ByteArray) (z : ByteArray), l = P1 ++ z :: P2 → z ∈ l := by
        rintro l z rfl; exact List.mem_append_right _ List.mem_cons_self
      exact this _ _ e1
theorem csV_size {L : List CI} {A : Option Addr} {w : World} (h : CIs w w.heap.size A L) {a b : ByteArray} (ha : a.size ≤ 9223372036854775807) : (csV L a b).size ≤ 9223372036854775807 := by
  unfold csV
  split
  · exact ha
  · split
    · decide
    · unfold csF
      cases hf : (supL L a).find? (fun s => hasL (supL L b) s) with
      | none => decide
      | some x =>
        have := List.mem_of_find?_eq_some hf
        exact chain_size h _ a ha x this
end Go.Proofs.YthifmcnemeiphaaDoor
