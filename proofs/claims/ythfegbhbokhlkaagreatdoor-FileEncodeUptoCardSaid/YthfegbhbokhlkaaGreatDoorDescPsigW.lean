/- Layer 4: desc.ParseSignature, the walk. -/
import Derived.Test.YthfegbhbokhlkaaGreatDoorDescPsig
import Derived.Deep.Cut
namespace Go.Proofs.YthfegbhbokhlkaaGreatDoor
open Go.ChangeShapes Go.WideShapes Go.ChangeAt Go.RowKit Go.PlainAid
set_option linter.unusedSimpArgs false
set_option linter.unusedVariables false

set_option maxRecDepth 100000 in
set_option maxHeartbeats 2000000 in
theorem psig_any (s : ByteArray) (hs : s.size ≤ 140737488351232) (h40 : bt s 0 = 40) (hp : 0 < s.size) (w : World) :
    Calls Tryz.prog 100 #[.string s] w (SigRet w (sgOf s.data.toList)) := by
  have hgb := get_bt s
  have he := nonempty_data hp
  have hsz := len_data s
  have hB : Below w.heap.size w w := Below.refl _ _
  obtain ⟨i0, hi, hz0, hz1, hz2⟩ := info_parts info30
  go_enter Tryz.func100, Tryz.ntmps100
  go_wp2
  go_loopw [5, 6] (fun a c wr => ∃ (i : Nat) (ps : List Ty) (v : Value), a = .int .i64 i ∧ c = .int .i64 ps.length ∧ PsInv s w wr i ps v) (fun a _ _ => s.size - (intOf a).toNat)
  case atStart => exact ⟨1, [], .slice none 0 0, rfl, rfl, ps_start s hp w⟩
  case round =>
    obtain ⟨i, ps, v, rfl, rfl, I⟩ := hrel
    have h1 := I.i1
    have h2 := I.is
    have h3 := I.pl
    obtain ⟨⟨r0, r1, r2, r3⟩, q0, q1, q2, q3⟩ := four_cells I.res
    obtain ⟨⟨g0, g1, g2, g3⟩, f0, f1, f2, f3⟩ := four_cells I.g
    have hB := I.below
    have hsz := I.size
    have hy0 : w.heap.size < wr.heap.size := by omega
    have hy1 : w.heap.size + 1 < wr.heap.size := by omega
    have own0 := I.own
    have hd := Lib.hid (hd40 h40)
    obtain ⟨f, _, hrun⟩ := I.begun
    have RUN := Lib.hid hrun
    clear hrun
    obtain ⟨A, c, rfl, hcap⟩ := I.value
    have CAP := Lib.hid hcap
    clear hcap
    have I' := Lib.hid I
    clear I
    by_cases hlt : i < s.size
    · by_cases h41 : bt s i = 41
      · have h41' : (bt s i != 41) = false := by simpa using h41
        have hq := Lib.hid (begun_close RUN.out (drop_ne hlt) (by have := drop_hd s i; rw [h41] at this; exact u8_yes (c := 41) this))
        clear h41
        by_cases hR : 0 < preN (s.data.toList.drop (i + 1)) ∧ preN (s.data.toList.drop (i + 1)) = (s.data.toList.drop (i + 1)).length
        · by_cases hm : 16 < ps.length
          · have HS := Lib.hid (sg_many hd.out hq.out (drop_ne hlt) (by rw [drop1]; exact hR) hm)
            have HR := Lib.hid hR
            clear hR own0
            go_wp2_with (go_at_call 98; refine (parse_at_ok _ _ (by omega) HR.out _).mono ?_; rintro e w1 ⟨rfl, hb1⟩; obtain ⟨hc1, hf1⟩ := bcell hb1; have hz1 := hb1.size; (try simp only [World.size_alloc, World.size_setCell] at hz1); (try have hza : w.heap.size < w1.heap.size := by omega); (try have hzb : w.heap.size + 1 < w1.heap.size := by omega); (try have hzc : w.heap.size + 1 + 1 < w1.heap.size := by omega); (try have hzd : wa.heap.size < w1.heap.size := by omega); (try replace hR := (hb1.block w.heap.size (by first | exact lt_heap hR | (have := lt_heap hR; simp; omega))).trans (by first | with_reducible exact hR | with_reducible exact laid_old hR)); replace hB := below_on (w := w) ((by repeat (first | with_reducible exact hB | with_reducible exact Below.refl _ _ | with_reducible refine below_al ?_ _ | with_reducible refine below_st ?_ (by first | exact Nat.le_refl _ | exact Nat.le_add_right _ _ | (simp; omega)) _))) hb1; clear hb1)
            refine bodyPost_ret (v := .tuple #[.agg #[.slice none 0 0, .int .i64 0, .int .u8 0, .string ⟨#[]⟩], .int .i64 5]) ?_ rfl ⟨none, 0, by rw [HS.out]; rfl, by rw [HS.out]; exact Tys.nil _ _ _, by rw [HS.out]; exact Nat.zero_le _, (by repeat (first | with_reducible exact hB | with_reducible exact Below.refl _ _ | with_reducible refine below_al ?_ _ | with_reducible refine below_st ?_ (by first | exact Nat.le_refl _ | exact Nat.le_add_right _ _ | (simp; omega)) _))⟩
            simp [results, Tryz.f100, go_sem, set_same, *]
          · have hm' : ps.length ≤ 16 := by omega
            have HS := Lib.hid (sg_ok hd.out hq.out (drop_ne hlt) (by rw [drop1]; exact hR) hm)
            have HR := Lib.hid hR
            rw [List.take_of_length_le (by omega), Nat.min_eq_left (by omega)] at own0
            have OWN := Lib.hid own0
            rw [Nat.min_eq_left hm'] at g0
            clear hR own0
            go_upto_region 22 with (go_at_call 98; refine (parse_at_ok _ _ (by omega) HR.out _).mono ?_; rintro e w1 ⟨rfl, hb1⟩; have hs1 := hb1.size; have hx0 : w.heap.size < w1.heap.size := (by omega); have hx1 : w.heap.size + 1 < w1.heap.size := (by omega); have R1 := Lib.hid ((hb1.block _ hy0).trans I'.out.res); have G1 := Lib.hid ((hb1.block _ hy1).trans I'.out.g); have O1 := Lib.hid (owns_below OWN.out hb1); obtain ⟨⟨r0', r1', r2', r3'⟩, q0', q1', q2', q3'⟩ := four_cells R1.out; obtain ⟨⟨g0', g1', g2', g3'⟩, f0', f1', f2', f3'⟩ := four_cells G1.out; rw [Nat.min_eq_left hm'] at g0'; replace hB := below_on (w := w) hB hb1; clear hb1 r0 r1 r2 r3 q0 q1 q2 q3 g0 g1 g2 g3 f0 f1 f2 f3)
            have G2 := sig_fill (o := .cells #[(.int .i64 (preD (s.data.toList.drop (i + 1)))), (.int .u8 (preB (s.data.toList.drop (i + 1)))), (.string (preS (s.data.toList.drop (i + 1))))] 118) (a := (.int .i64 (preD (s.data.toList.drop (i + 1))))) (b := (.int .u8 (preB (s.data.toList.drop (i + 1))))) (c := (.string (preS (s.data.toList.drop (i + 1))))) G1.out
            have R2 := sig_far (B := w.heap.size + 1) (o := .cells #[(.int .i64 (preD (s.data.toList.drop (i + 1)))), (.int .u8 (preB (s.data.toList.drop (i + 1)))), (.string (preS (s.data.toList.drop (i + 1))))] 118) (a := (.int .i64 (preD (s.data.toList.drop (i + 1))))) (b := (.int .u8 (preB (s.data.toList.drop (i + 1))))) (c := (.string (preS (s.data.toList.drop (i + 1))))) R1.out (by omega)
            have B2 : Below w.heap.size w ((((w1.setCell ⟨w.heap.size + 1, 1, none⟩ (.int .i64 (preD (s.data.toList.drop (i + 1))))).setCell ⟨w.heap.size + 1, 2, none⟩ (.int .u8 (preB (s.data.toList.drop (i + 1))))).setCell ⟨w.heap.size + 1, 3, none⟩ (.string (preS (s.data.toList.drop (i + 1))))).alloc (.cells #[(.int .i64 (preD (s.data.toList.drop (i + 1)))), (.int .u8 (preB (s.data.toList.drop (i + 1)))), (.string (preS (s.data.toList.drop (i + 1))))] 118)) := (by repeat (first | with_reducible exact hB | with_reducible exact Below.refl _ _ | with_reducible refine below_al ?_ _ | with_reducible refine below_st ?_ (by first | exact Nat.le_refl _ | exact Nat.le_add_right _ _ | (simp; omega)) _))
            have O2 : ((((w1.setCell ⟨w.heap.size + 1, 1, none⟩ (.int .i64 (preD (s.data.toList.drop (i + 1))))).setCell ⟨w.heap.size + 1, 2, none⟩ (.int .u8 (preB (s.data.toList.drop (i + 1))))).setCell ⟨w.heap.size + 1, 3, none⟩ (.string (preS (s.data.toList.drop (i + 1))))).alloc (.cells #[(.int .i64 (preD (s.data.toList.drop (i + 1)))), (.int .u8 (preB (s.data.toList.drop (i + 1)))), (.string (preS (s.data.toList.drop (i + 1))))] 118)).ownsRow (w.heap.size + 2) 118 3 (.slice A ps.length c) ps.length (rowCells ps) := (ownsRow_setCell_below (ownsRow_setCell_below (ownsRow_setCell_below O1.out (by show w.heap.size + 1 < w.heap.size + 2; omega) _) (by show w.heap.size + 1 < w.heap.size + 2; omega) _) (by show w.heap.size + 1 < w.heap.size + 2; omega) _).alloc _
            rw [Nat.min_eq_left hm'] at G2
            obtain ⟨W2, e2⟩ : ∃ W2, W2 = ((((w1.setCell ⟨w.heap.size + 1, 1, none⟩ (.int .i64 (preD (s.data.toList.drop (i + 1))))).setCell ⟨w.heap.size + 1, 2, none⟩ (.int .u8 (preB (s.data.toList.drop (i + 1))))).setCell ⟨w.heap.size + 1, 3, none⟩ (.string (preS (s.data.toList.drop (i + 1))))).alloc (.cells #[(.int .i64 (preD (s.data.toList.drop (i + 1)))), (.int .u8 (preB (s.data.toList.drop (i + 1)))), (.string (preS (s.data.toList.drop (i + 1))))] 118)) := ⟨_, rfl⟩
            rw [← e2] at G2 R2 B2 O2 ⊢
            clear e2 r0' r1' r2' r3' q0' q1' q2' q3' g0' g1' g2' g3' f0' f1' f2' f3' hB
            obtain ⟨⟨r0, r1, r2, r3⟩, q0, q1, q2, q3⟩ := four_cells R2
            obtain ⟨⟨g0, g1, g2, g3⟩, f0, f1, f2, f3⟩ := four_cells G2
            have hB := B2
            have O3 := Lib.hid O2
            clear R2 G2 B2 O2
            go_wp2
            have TY : Tys ((((W2.setCell ⟨w.heap.size, 0, none⟩ (.slice A ps.length c)).setCell ⟨w.heap.size, 1, none⟩ (.int .i64 (preD (s.data.toList.drop (i + 1))))).setCell ⟨w.heap.size, 2, none⟩ (.int .u8 (preB (s.data.toList.drop (i + 1))))).setCell ⟨w.heap.size, 3, none⟩ (.string (preS (s.data.toList.drop (i + 1))))) _ A ps := Tys.of_own (ownsRow_setCell_below (ownsRow_setCell_below (ownsRow_setCell_below (ownsRow_setCell_below O3.out (by show w.heap.size < w.heap.size + 2; omega) _) (by show w.heap.size < w.heap.size + 2; omega) _) (by show w.heap.size < w.heap.size + 2; omega) _) (by show w.heap.size < w.heap.size + 2; omega) _) rfl
            have TYH := Lib.hid TY
            clear TY
            refine bodyPost_ret (v := .tuple #[.agg #[.slice A ps.length c, .int .i64 (preD (s.data.toList.drop (i + 1))), .int .u8 (preB (s.data.toList.drop (i + 1))), .string (preS (s.data.toList.drop (i + 1)))], .int .i64 0]) ?_ rfl ⟨A, c, by rw [HS.out, drop1]; rfl, by rw [HS.out]; exact TYH.out, by rw [HS.out]; have := CAP.out; show ps.length ≤ c; omega, (by repeat (first | with_reducible exact hB | with_reducible exact Below.refl _ _ | with_reducible refine below_al ?_ _ | with_reducible refine below_st ?_ (by first | exact Nat.le_refl _ | exact Nat.le_add_right _ _ | (simp; omega)) _))⟩
            simp [results, Tryz.f100, go_sem, *]
        · have HS := Lib.hid (sg_res hd.out hq.out (drop_ne hlt) (by rw [drop1]; exact hR))
          have HR := Lib.hid hR
          clear hR own0
          go_wp2_with (go_at_call 98; refine (parse_at_bad _ _ (by omega) HR.out _).mono ?_; rintro e w1 ⟨rfl, hb1⟩; obtain ⟨hc1, hf1⟩ := bcell hb1; have hz1 := hb1.size; (try simp only [World.size_alloc, World.size_setCell] at hz1); (try have hza : w.heap.size < w1.heap.size := by omega); (try have hzb : w.heap.size + 1 < w1.heap.size := by omega); (try have hzc : w.heap.size + 1 + 1 < w1.heap.size := by omega); (try have hzd : wa.heap.size < w1.heap.size := by omega); (try replace hR := (hb1.block w.heap.size (by first | exact lt_heap hR | (have := lt_heap hR; simp; omega))).trans (by first | with_reducible exact hR | with_reducible exact laid_old hR)); replace hB := below_on (w := w) ((by repeat (first | with_reducible exact hB | with_reducible exact Below.refl _ _ | with_reducible refine below_al ?_ _ | with_reducible refine below_st ?_ (by first | exact Nat.le_refl _ | exact Nat.le_add_right _ _ | (simp; omega)) _))) hb1; clear hb1)
          refine bodyPost_ret (v := .tuple #[.agg #[.slice none 0 0, .int .i64 0, .int .u8 0, .string ⟨#[]⟩], .int .i64 13]) ?_ rfl ⟨none, 0, by rw [HS.out]; rfl, by rw [HS.out]; exact Tys.nil _ _ _, by rw [HS.out]; exact Nat.zero_le _, (by repeat (first | with_reducible exact hB | with_reducible exact Below.refl _ _ | with_reducible refine below_al ?_ _ | with_reducible refine below_st ?_ (by first | exact Nat.le_refl _ | exact Nat.le_add_right _ _ | (simp; omega)) _))⟩
          simp [results, Tryz.f100, go_sem, set_same, *]
      · have hnb : sigP (s.data.toList.drop 1).length.succ (s.data.toList.drop 1) = none ∨ stepOk (s.data.toList.drop i) = true := by
          cases hso : stepOk (s.data.toList.drop i) with
          | true => exact Or.inr rfl
          | false => exact Or.inl (begun_bad RUN.out (drop_ne hlt) (hd_ne h41) hso)
        have HNB := Lib.hid hnb
        clear hnb
        have h41' : (bt s i != 41) = true := by simpa using h41
        have H41 := Lib.hid h41
        clear h41
        have hn0 := pre_nn (s.data.toList.drop i)
        have hn1 := pre_le (s.data.toList.drop i)
        rw [drop_len] at hn1
        by_cases hN : preN (s.data.toList.drop i) = 0
        · have HS := Lib.hid (sg_bad hd.out (HNB.out.resolve_right (by rw [stepOk_none hN]; decide)))
          clear own0
          go_wp2_with (go_at_call 107; refine (prefix_at _ _ (by omega) _).mono ?_; rintro e w1 ⟨rfl, hb1⟩; obtain ⟨hc1, hf1⟩ := bcell hb1; have hz1 := hb1.size; (try simp only [World.size_alloc, World.size_setCell] at hz1); (try have hza : w.heap.size < w1.heap.size := by omega); (try have hzb : w.heap.size + 1 < w1.heap.size := by omega); (try have hzc : w.heap.size + 1 + 1 < w1.heap.size := by omega); (try have hzd : wa.heap.size < w1.heap.size := by omega); (try replace hR := (hb1.block w.heap.size (by first | exact lt_heap hR | (have := lt_heap hR; simp; omega))).trans (by first | with_reducible exact hR | with_reducible exact laid_old hR)); replace hB := below_on (w := w) ((by repeat (first | with_reducible exact hB | with_reducible exact Below.refl _ _ | with_reducible refine below_al ?_ _ | with_reducible refine below_st ?_ (by first | exact Nat.le_refl _ | exact Nat.le_add_right _ _ | (simp; omega)) _))) hb1; clear hb1)
          refine bodyPost_ret (v := .tuple #[.agg #[.slice none 0 0, .int .i64 0, .int .u8 0, .string ⟨#[]⟩], .int .i64 13]) ?_ rfl ⟨none, 0, by rw [HS.out]; rfl, by rw [HS.out]; exact Tys.nil _ _ _, by rw [HS.out]; exact Nat.zero_le _, (by repeat (first | with_reducible exact hB | with_reducible exact Below.refl _ _ | with_reducible refine below_al ?_ _ | with_reducible refine below_st ?_ (by first | exact Nat.le_refl _ | exact Nat.le_add_right _ _ | (simp; omega)) _))⟩
          simp [results, Tryz.f100, go_sem, set_same, *]
        · have hN' := beqF hN
          by_cases h86 : preB (s.data.toList.drop i) = 86
          · have HS := Lib.hid (sg_bad hd.out (HNB.out.resolve_right (by rw [stepOk_void h86]; decide)))
            clear own0
            go_wp2_with (go_at_call 107; refine (prefix_at _ _ (by omega) _).mono ?_; rintro e w1 ⟨rfl, hb1⟩; obtain ⟨hc1, hf1⟩ := bcell hb1; have hz1 := hb1.size; (try simp only [World.size_alloc, World.size_setCell] at hz1); (try have hza : w.heap.size < w1.heap.size := by omega); (try have hzb : w.heap.size + 1 < w1.heap.size := by omega); (try have hzc : w.heap.size + 1 + 1 < w1.heap.size := by omega); (try have hzd : wa.heap.size < w1.heap.size := by omega); (try replace hR := (hb1.block w.heap.size (by first | exact lt_heap hR | (have := lt_heap hR; simp; omega))).trans (by first | with_reducible exact hR | with_reducible exact laid_old hR)); replace hB := below_on (w := w) ((by repeat (first | with_reducible exact hB | with_reducible exact Below.refl _ _ | with_reducible refine below_al ?_ _ | with_reducible refine below_st ?_ (by first | exact Nat.le_refl _ | exact Nat.le_add_right _ _ | (simp; omega)) _))) hb1; clear hb1)
            refine bodyPost_ret (v := .tuple #[.agg #[.slice none 0 0, .int .i64 0, .int .u8 0, .string ⟨#[]⟩], .int .i64 13]) ?_ rfl ⟨none, 0, by rw [HS.out]; rfl, by rw [HS.out]; exact Tys.nil _ _ _, by rw [HS.out]; exact Nat.zero_le _, (by repeat (first | with_reducible exact hB | with_reducible exact Below.refl _ _ | with_reducible refine below_al ?_ _ | with_reducible refine below_st ?_ (by first | exact Nat.le_refl _ | exact Nat.le_add_right _ _ | (simp; omega)) _))⟩
            simp [results, Tryz.f100, go_sem, set_same, *]
          · have h86' := beqF h86
            have H86 := Lib.hid h86
            clear h86
            by_cases h16 : ps.length + 1 ≤ 16
            · rw [List.take_of_length_le (by omega), Nat.min_eq_left (by omega)] at own0
              have OWN := Lib.hid own0
              have I2 := I'.out
              rw [Nat.min_eq_left (show ps.length ≤ 16 by omega)] at g0 I2
              have I3 := Lib.hid I2
              clear own0 I2
              go_wp2_with (first | (go_at_call 107; refine (prefix_at _ _ (by omega) _).mono ?_; rintro e w1 ⟨rfl, hb1⟩; obtain ⟨hc1, hf1⟩ := bcell hb1; have hs1 := hb1.size; have hx0 : w.heap.size < w1.heap.size := (by omega); have hx1 : w.heap.size + 1 < w1.heap.size := (by omega); have own1 := Lib.hid (owns_below OWN.out hb1); have HB1 := Lib.hid hb1; clear hb1) | (at_builtin; refine wpList_append_lies _ rfl _ _ 126 rfl (w.heap.size + 2) 118 i0 (.agg #[.int .i64 0, .int .u8 0, .string ⟨#[]⟩]) 3 32 Tryz.underlying126 hi hz0 hz1 hz2 rfl (by decide) (.slice A ps.length c) ps.length (rowCells ps) rfl ((own1.out.alloc _).alloc _) ⟨w1.heap.size + 1, 0, none⟩ 1 1 [.int .i64 (preD (s.data.toList.drop i)), .int .u8 (preB (s.data.toList.drop i)), .string (preS (s.data.toList.drop i))] rfl rfl ?c1 ?c2 (by decide) ?c3 ?c4 ?c5 (w1.heap.size + 2) ?c6 ?_))
              case c1 => exact World.news_of_block (by have := heap_alloc_new (w1.alloc (.cells #[.int .i64 (preD (s.data.toList.drop i)), .int .u8 (preB (s.data.toList.drop i)), .string (preS (s.data.toList.drop i))] 118)) (.cells #[.int .i64 (preD (s.data.toList.drop i)), .int .u8 (preB (s.data.toList.drop i)), .string (preS (s.data.toList.drop i))] 118); simpa using this)
              case c2 => intro u hu; simp at hu; rcases hu with rfl | rfl | rfl <;> rfl
              case c3 => unfold maxLen; omega
              case c4 => omega
              case c5 => simp; omega
              case c6 => simp
              intro g cap w2 hown2 hgrow hat hlt2
              obtain ⟨b1, b2, b3⟩ := ps_step I3.out hlt H41.out hN H86.out h16 HB1.out hown2 hgrow
              obtain ⟨⟨r0', r1', r2', r3'⟩, q0', q1', q2', q3'⟩ := four_cells b1
              obtain ⟨⟨g0', g1', g2', g3'⟩, f0', f1', f2', f3'⟩ := four_cells b2
              have B3 := Lib.hid b3
              clear b1 b2 b3 hgrow hown2 hat
              go_wp2
              go_roundw
              case rel => exact ⟨i + (preN (s.data.toList.drop i)).toNat, ps ++ [tyOf (s.data.toList.drop i)], _, by congr 1; omega, by congr 1; rw [List.length_append]; simp, B3.out⟩
              case measure => simp [intOf]; omega
            · clear own0
              go_wp2_with (go_at_call 107; refine (prefix_at _ _ (by omega) _).mono ?_; rintro e w1 ⟨rfl, hb1⟩; obtain ⟨hc1, hf1⟩ := bcell hb1; have hs1 := hb1.size; have hx0 : w.heap.size < w1.heap.size := (by omega); have hx1 : w.heap.size + 1 < w1.heap.size := (by omega); have HB1 := Lib.hid hb1; clear hb1)
              have B3 := ps_skip (X := .cells #[.int .i64 (preD (s.data.toList.drop i)), .int .u8 (preB (s.data.toList.drop i)), .string (preS (s.data.toList.drop i))] 118) I'.out hlt H41.out hN H86.out h16 HB1.out
              go_roundw
              case rel => exact ⟨i + (preN (s.data.toList.drop i)).toNat, ps ++ [tyOf (s.data.toList.drop i)], _, by congr 1; omega, by congr 1; rw [List.length_append]; simp, B3⟩
              case measure => simp [intOf]; omega
    · have hdn : s.data.toList.drop i = [] := List.eq_nil_of_length_eq_zero (by rw [drop_len]; omega)
      have HS := Lib.hid (sg_end hd.out (begun_end (by have := RUN.out; rwa [hdn] at this)))
      clear own0 hdn
      go_wp2
      refine bodyPost_ret (v := .tuple #[.agg #[.slice none 0 0, .int .i64 0, .int .u8 0, .string ⟨#[]⟩], .int .i64 13]) ?_ rfl ⟨none, 0, by rw [HS.out]; rfl, by rw [HS.out]; exact Tys.nil _ _ _, by rw [HS.out]; exact Nat.zero_le _, (by repeat (first | with_reducible exact hB | with_reducible exact Below.refl _ _ | with_reducible refine below_al ?_ _ | with_reducible refine below_st ?_ (by first | exact Nat.le_refl _ | exact Nat.le_add_right _ _ | (simp; omega)) _))⟩
      simp [results, Tryz.f100, go_sem, set_same, *]

set_option maxRecDepth 100000 in
theorem psig_none (s : ByteArray) (hs : s.size ≤ 140737488351232) (hp : s.size = 0) (w : World) :
    Calls Tryz.prog 100 #[.string s] w (SigRet w (sgOf s.data.toList)) := by
  have he := empty_data hp
  have hn : s.data.toList = [] := List.eq_nil_of_length_eq_zero (by rw [len_data]; exact hp)
  have HS := Lib.hid (sg_open (l := s.data.toList) (by rw [hn]; decide))
  clear hn
  have hB : Below w.heap.size w w := Below.refl _ _
  go_enter Tryz.func100, Tryz.ntmps100
  go_wp2
  refine bodyPost_ret (v := .tuple #[.agg #[.slice none 0 0, .int .i64 0, .int .u8 0, .string ⟨#[]⟩], .int .i64 13]) ?_ rfl ⟨none, 0, by rw [HS.out]; rfl, by rw [HS.out]; exact Tys.nil _ _ _, by rw [HS.out]; exact Nat.zero_le _, (by repeat (first | with_reducible exact hB | with_reducible exact Below.refl _ _ | with_reducible refine below_al ?_ _ | with_reducible refine below_st ?_ (by first | exact Nat.le_refl _ | exact Nat.le_add_right _ _ | (simp; omega)) _))⟩
  simp [results, Tryz.f100, go_sem, set_same, *]

set_option maxRecDepth 100000 in
theorem psig_not (s : ByteArray) (hs : s.size ≤ 140737488351232) (hp : 0 < s.size) (h40 : ¬ bt s 0 = 40) (w : World) :
    Calls Tryz.prog 100 #[.string s] w (SigRet w (sgOf s.data.toList)) := by
  have hgb := get_bt s
  have he := nonempty_data hp
  have h40' : (bt s 0 != 40) = true := by simpa using h40
  have HS := Lib.hid (sg_open (l := s.data.toList) (fun e => h40 (by rw [bt_data, e]; rfl)))
  clear h40
  have hB : Below w.heap.size w w := Below.refl _ _
  go_enter Tryz.func100, Tryz.ntmps100
  go_wp2
  refine bodyPost_ret (v := .tuple #[.agg #[.slice none 0 0, .int .i64 0, .int .u8 0, .string ⟨#[]⟩], .int .i64 13]) ?_ rfl ⟨none, 0, by rw [HS.out]; rfl, by rw [HS.out]; exact Tys.nil _ _ _, by rw [HS.out]; exact Nat.zero_le _, (by repeat (first | with_reducible exact hB | with_reducible exact Below.refl _ _ | with_reducible refine below_al ?_ _ | with_reducible refine below_st ?_ (by first | exact Nat.le_refl _ | exact Nat.le_add_right _ _ | (simp; omega)) _))⟩
  simp [results, Tryz.f100, go_sem, set_same, *]

theorem psig_big (s : ByteArray) (hs : s.size ≤ 140737488351232) (w : World) : Calls Tryz.prog 100 #[.string s] w (SigRet w (sgOf s.data.toList)) := by
  by_cases hp : 0 < s.size
  · by_cases h40 : bt s 0 = 40
    · exact psig_any s hs h40 hp w
    · exact psig_not s hs hp h40 w
  · exact psig_none s hs (by omega) w

theorem psig_all (s : ByteArray) (hs : s.size ≤ 2000000) (w : World) : Calls Tryz.prog 100 #[.string s] w (SigRet w (sgOf s.data.toList)) := psig_big s (by omega) w

end Go.Proofs.YthfegbhbokhlkaaGreatDoor
