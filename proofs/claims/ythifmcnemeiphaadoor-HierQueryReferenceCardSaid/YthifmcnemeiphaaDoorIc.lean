/- Layer 16: the chapter's example holds. -/
import Derived.Test.YthifmcnemeiphaaDoorIb
import Derived.Test.YthifmcnemeiphaaDoorIa
import Derived.Test.YthifmcnemeiphaaDoorHz
namespace Go.Proofs.YthifmcnemeiphaaDoor
open Go.ChangeShapes Go.WideShapes Go.ChangeAt Go.RowKit Go.PlainAid Go.Maps
set_option linter.unusedSimpArgs false
set_option linter.unusedVariables false

theorem CIs.fst {w : World} {B : Nat} {A : Option Addr} {L : List CI} (h : CIs w B A L) (i : Nat) : CIs w B A (L.take i) := by
  rcases h with h | ⟨g, o, hA, hg, hc⟩
  · rw [h]; exact Or.inl (by simp)
  · refine Or.inr ⟨g, o, hA, hg, fun k x hk => hc k x ?_⟩
    rw [List.getElem?_take] at hk
    split at hk
    · exact hk
    · cases hk
abbrev exCells (h : Nat) : Array Value := #[.string sB, .string sA, .slice none 0 0, .bool false, .string sA, .string rootS, .slice (some ⟨h, 0, none⟩) 1 1, .bool false, .string sI, .string rootS, .slice none 0 0, .bool true, .string rootS, .string ⟨#[]⟩, .slice none 0 0, .bool false]
theorem ex_cis {W : World} {h : Nat} (h1 : W.heap[h]? = some (.cells #[.string sI] 9)) (h2 : W.heap[h + 1]? = some (.cells (exCells h) 30)) : CIs W W.heap.size (some ⟨h + 1, 0, none⟩) (ex (some ⟨h, 0, none⟩)) := by
  have l1 := lt_heap h1
  have l2 := lt_heap h2
  have hc : ∀ j v, (exCells h)[j]? = some v → W.cell? ⟨h + 1, 0 + j, none⟩ = some v := by
    intro j v hj
    simp only [World.cell?, h2, Nat.zero_add]
    exact hj
  refine Or.inr ⟨h + 1, 0, rfl, l2, fun k x hk => ?_⟩
  have hk4 : k < 4 := lt_of_some hk
  have hn : ∀ y : CI, y.fs = [] → y.n = 0 → y.c = 0 → y.nm.size ≤ 9223372036854775807 → y.su.size ≤ 9223372036854775807 → y.ok W W.heap.size := by
    intro y e1 e2 e3 e4 e5
    refine ⟨e4, e5, by rw [e1, e2]; rfl, by omega, by omega, by rw [e1]; exact Or.inl rfl, by rw [e1]; exact fun s hs => absurd hs (by simp), fun _ => e3⟩
  rcases (show k = 0 ∨ k = 1 ∨ k = 2 ∨ k = 3 by omega) with rfl | rfl | rfl | rfl
  · obtain rfl := Option.some.inj hk
    exact ⟨hn _ rfl rfl rfl (by decide) (by decide), hc 0 _ rfl, hc 1 _ rfl, hc 2 _ rfl, hc 3 _ rfl⟩
  · obtain rfl := Option.some.inj hk
    refine ⟨⟨(by decide : sA.size ≤ 9223372036854775807), (by decide : rootS.size ≤ 9223372036854775807), rfl, Nat.le_refl _, (by decide : 1 ≤ 9223372036854775807), Or.inr ⟨h, 0, rfl, l1, fun j y hj => ?_⟩, fun s hs => ?_, fun e => by cases e⟩, hc 4 _ rfl, hc 5 _ rfl, hc 6 _ rfl, hc 7 _ rfl⟩
    · cases j with
      | zero => obtain rfl := Option.some.inj hj; exact cells_one h1
      | succ j => simp at hj
    · rw [List.mem_singleton.1 hs]; decide
  · obtain rfl := Option.some.inj hk
    exact ⟨hn _ rfl rfl rfl (by decide) (by decide), hc 8 _ rfl, hc 9 _ rfl, hc 10 _ rfl, hc 11 _ rfl⟩
  · obtain rfl := Option.some.inj hk
    exact ⟨hn _ rfl rfl rfl (by decide) (by decide), hc 12 _ rfl, hc 13 _ rfl, hc 14 _ rfl, hc 15 _ rfl⟩
def SmallRet (w : World) (e : Ending) (w' : World) : Prop := ∃ g h, e = .returned (.slice (some ⟨g, 0, none⟩) 4 4) ∧ CIs w' w'.heap.size (some ⟨g, 0, none⟩) (ex (some ⟨h, 0, none⟩)) ∧ Below w.heap.size w w'
theorem small_any (w : World) : Calls Tryd.prog 54 #[] w (SmallRet w) := by
  go_enter Tryd.func54, Tryd.ntmps54
  go_wp2
  go_ret
  have e : (w.alloc (.cells #[.string sI] 9)).heap.size = w.heap.size + 1 := by simp
  have h2 := World.alloc_heap_new (w.alloc (.cells #[.string sI] 9)) (.cells (exCells w.heap.size) 30)
  rw [e] at h2
  exact ⟨w.heap.size + 1, w.heap.size, rfl, ex_cis (laid_old (World.alloc_heap_new w _)) h2, below_al (below_al (Below.refl _ _) _) _⟩
set_option maxRecDepth 100000 in
set_option maxHeartbeats 4000000 in
theorem awake16_any (w : World) : Calls Tryd.prog 16 #[] w fun e w' => e = .returned (.bool true) ∧ Below w.heap.size w w' := by
  go_enter Tryd.func16, Tryd.ntmps16
  go_upto_region 2 with (go_at_call 54; (with_reducible refine (small_any _).mono ?_); rintro e W ⟨g, h, rfl, hL, hB⟩; have HL := Lib.hid hL; have HB := Lib.hid hB; clear hL hB)
  have HV := ex_VH (some ⟨h, 0, none⟩)
  have HV := Lib.hid HV
  have hz : ∀ s ∈ [sB, sA, sI], s.size ≤ 9223372036854775807 := by decide
  have HZ := Lib.hid hz
  clear hz
  go_upto_region 3 with (go_at_call 17; (with_reducible refine (check_any _ 4 _ _ _ rfl (by omega) HL.out).mono ?_); rintro e w1 ⟨⟨s1, v1, rfl, hch⟩, hb1⟩; obtain ⟨rfl, rfl⟩ := hch.one (ex_chk _); have HB1 := Lib.hid hb1; clear hb1 hch)
  go_upto_region 4 with (go_at_call 17; (with_reducible refine (check_any _ 1 _ _ _ rfl (by omega) ((HL.out.up HB1.out).fst 1)).mono ?_); rintro e w2 ⟨⟨s2, v2, rfl, hch⟩, hb2⟩; obtain ⟨rfl, rfl⟩ := hch.one (ex_chk1 _); have HB2 := Lib.hid (below_on HB1.out hb2); clear hb2 hch)
  go_upto_region 5 with (go_at_call 28; (with_reducible refine (sup_any _ 4 _ _ _ _ rfl (by omega) HV.out (HL.out.up HB2.out) (HZ.out _ (by simp))).mono ?_); rintro e w3 ⟨v3, rfl, ho3, hb3⟩; rw [ex_sup] at ho3; obtain ⟨pA, pc, rfl, hpc, _⟩ := own_shape ho3; have HO3 := Lib.hid ho3; have HB3 := Lib.hid (below_on HB2.out hb3); clear hb3 ho3)
  obtain ⟨q, rfl, k0, hq, _⟩ := str_at (j := 0) HO3.out (by decide) rfl
  have k1 : w3.cell? ⟨q, 1, none⟩ = some (.string sA) := by
    obtain ⟨_, hq1, k1, _⟩ := str_at (j := 1) HO3.out (by decide) rfl
    obtain rfl : q = _ := by injection hq1 with h; injection h
    exact k1
  have k2 : w3.cell? ⟨q, 2, none⟩ = some (.string rootS) := by
    obtain ⟨_, hq1, k1, _⟩ := str_at (j := 2) HO3.out (by decide) rfl
    obtain rfl : q = _ := by injection hq1 with h; injection h
    exact k1
  clear k0
  have hpc3 : 3 ≤ pc := hpc
  have T1 := Lib.hid (show txB [sI] [sI] = true by decide)
  go_wp2_with (first
    | (go_at_call 30; (with_reducible refine (ifs_any _ 4 _ _ _ _ rfl (by omega) (HL.out.up HB3.out) (HZ.out _ (by simp))).mono ?_); rintro e w4 ⟨v4, rfl, ho4, hb4⟩; rw [ex_ifs] at ho4; obtain ⟨rA, rc, rfl, hrc, _⟩ := own_shape ho4; have HO4 := Lib.hid ho4; have HB4 := Lib.hid (below_on HB3.out hb4); clear hb4 ho4)
    | (go_at_call 27; (with_reducible refine (texts_any _ 1 _ [sI] _ 1 _ [sI] _ rfl rfl (by omega) (by omega) ((SRow.of_own HO4.out).1.up (below_al (Below.refl _ _) _)) (by have q := srow_new w4 sI; rwa [World.size_alloc])).mono ?_); rintro e w5 ⟨rfl, hb5⟩; rw [T1.out]; have HB5 := Lib.hid (below_on (below_al HB4.out _) hb5); clear hb5)
    | (go_at_call 25; (with_reducible refine (cs_any _ 4 _ _ _ _ _ rfl (by omega) HV.out (HL.out.up HB5.out) (HZ.out _ (by simp)) (HZ.out _ (by simp))).mono ?_); rintro e w6 ⟨rfl, hb6⟩; (first | rw [ex_cs1] | rw [ex_cs2]); replace HB5 := Lib.hid (below_on HB5.out hb6); clear hb6)
    | (go_at_call 23; (with_reducible refine (sub_any _ 4 _ _ _ _ _ rfl (by omega) (HL.out.up HB5.out) (HZ.out _ (by simp)) (HZ.out _ (by simp))).mono ?_); rintro e w6 ⟨rfl, hb6⟩; (first | rw [ex_is1] | rw [ex_is2]); replace HB5 := Lib.hid (below_on HB5.out hb6); clear hb6))
  go_ret
  exact ⟨rfl, below_on HB.out HB5.out⟩
end Go.Proofs.YthifmcnemeiphaaDoor
