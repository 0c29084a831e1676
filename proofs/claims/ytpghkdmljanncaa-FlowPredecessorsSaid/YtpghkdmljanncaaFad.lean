/- Layer 19: the law on back edges, walked. -/
import Derived.Test.YtpghkdmljanncaaFac
namespace Go.Proofs.Ytpghkdmljanncaa
open Go.ChangeShapes Go.WideShapes Go.ChangeAt Go.RowKit Go.PlainAid
set_option linter.unusedSimpArgs false
set_option linter.unusedVariables false

theorem ds_bare (c : Cd) (w : World) (hok : c.bare.ok w) (hf : c.bare.few) : Calls Try.prog 43 #[.agg #[.int .i64 c.st, .int .i64 c.lo, .slice c.iA c.n c.ic, .slice none 0 0, .slice c.mA c.mn c.mc, .slice c.lA c.ln c.lc]] w (IntsOwn w (distL c.bare)) := ds_any c.bare w hok hf
set_option maxRecDepth 100000 in
set_option maxHeartbeats 4000000 in
theorem acyclic_law (c : Cd) (w : World) (hok : c.raw w) : Calls Try.prog 13 #[(Value.agg #[Value.int IntKind.i64 (Cd.st c), Value.int IntKind.i64 (Cd.lo c), Value.slice (Cd.iA c) (Cd.n c) (Cd.ic c), Value.slice (Cd.hA c) (Cd.hn c) (Cd.hc c), Value.slice (Cd.mA c) (Cd.mn c) (Cd.mc c), Value.slice (Cd.lA c) (Cd.ln c) (Cd.lc c)])] w fun e w' => e = .returned (.bool true) ∧ Below w.heap.size w w' := by
  have hB : Below w.heap.size w w := Below.refl _ _
  have OK := Lib.hid hok
  clear hok
  by_cases hf : c.few
  · have OKK := Lib.hid (OK.out.ok hf)
    have HF := Lib.hid hf
    have hcn := hf.n
    have HPL := Lib.hid (fun k => beK_len OKK.out hf k)
    clear hf
    go_enter Try.func13, Try.ntmps13
    go_upto_region 1 with fail
    have R := World.alloc_heap_new w (.cells #[.int .i64 c.st, .int .i64 c.lo, .slice c.iA c.n c.ic, .slice c.hA c.hn c.hc, .slice c.mA c.mn c.mc, .slice c.lA c.ln c.lc] 50)
    replace hB := below_al hB (.cells #[.int .i64 c.st, .int .i64 c.lo, .slice c.iA c.n c.ic, .slice c.hA c.hn c.hc, .slice c.mA c.mn c.mc, .slice c.lA c.ln c.lc] 50)
    generalize w.alloc (.cells #[.int .i64 c.st, .int .i64 c.lo, .slice c.iA c.n c.ic, .slice c.hA c.hn c.hc, .slice c.mA c.mn c.mc, .slice c.lA c.ln c.lc] 50) = W1 at R hB ⊢
    obtain ⟨r0, r1, r2, r3, r4, r5⟩ := six_cells R
    have y1 := lt_heap R
    replace R := Lib.hid R
    have OK1 := Lib.hid (OK.out.up hB)
    have HB := Lib.hid hB
    clear hB
    go_upto_region 3 with (go_at_call 30; (with_reducible refine (few_yes c _ OK1.out HF.out).mono ?_); rintro e w2 ⟨rfl, hb2⟩)
    have OK2 := Lib.hid (OKK.out.up (below_on HB.out hb2))
    have HB2 := Lib.hid (below_on HB.out hb2)
    have RB2 := Lib.hid ((hb2.block _ y1).trans R.out)
    clear hb2 r0 r1 r2 r3 r4 r5 OK1 R HB y1
    obtain ⟨r0, r1, r2, r3, r4, r5⟩ := six_cells RB2.out
    have yr := lt_heap RB2.out
    go_upto_region 4 with (go_at_call 41; (with_reducible refine (be_any c _ OK2.out HF.out).mono ?_); rintro e w3 ⟨v, rfl, ho3, hb3⟩; obtain ⟨A, cc, rfl, hc, hm, _⟩ := own_form ho3)
    have HP3 := Lib.hid (prs_own ho3 rfl)
    have HB3 := Lib.hid (below_on HB2.out hb3)
    have RB3 := Lib.hid ((hb3.block _ yr).trans RB2.out)
    clear ho3 hb3 r0 r1 r2 r3 r4 r5 yr RB2 OK2 HB2
    obtain ⟨L, hL⟩ : ∃ L, beK c c.n = L := ⟨_, rfl⟩
    have HL := Lib.hid hL
    have hpl := HPL.out c.n
    rw [hL] at HP3 hc hpl ⊢
    obtain ⟨m, hm⟩ : ∃ m, L.length = m := ⟨_, rfl⟩
    have HM := Lib.hid hm
    rw [hm] at hc hpl ⊢
    have hmb : m ≤ 1000000 := by omega
    clear hm hL HPL
    have HMEM := Lib.hid (fun (p : Int × Int) (hp : p ∈ L) => beK_mem (c := c) (k := c.n) (p := p) (by rw [HL.out]; exact hp))
    go_wp2
    go_loopw [4] (fun z wr => ∃ k : Nat, k ≤ m ∧ z = .int .i64 k ∧ Below w3.heap.size w3 wr) (fun z _ => m - (intOf z).toNat)
    case atStart => exact ⟨0, Nat.zero_le _, rfl, Below.refl _ _⟩
    case round =>
      obtain ⟨k, hk, rfl, hbr⟩ := hrel
      have yr3 := lt_heap RB3.out
      have RBr := Lib.hid ((hbr.block _ yr3).trans RB3.out)
      have HBr := Lib.hid (below_on HB3.out hbr)
      have OKr := Lib.hid (OKK.out.up HBr.out)
      have hpr := HP3.out.up hbr
      have HBR3 := Lib.hid hbr
      clear hbr yr3
      obtain ⟨r0, r1, r2, r3, r4, r5⟩ := six_cells RBr.out
      have yr := lt_heap RBr.out
      by_cases hlt : k < m
      · obtain ⟨p, hp⟩ := get_someF (l := L) (k := k) (by rw [HM.out]; exact hlt)
        obtain ⟨j, h1, h2, h3⟩ := HMEM.out p (List.mem_of_getElem? hp)
        rcases hpr with h0 | ⟨g, rfl, hg, hcell⟩
        · rw [h0] at hp; simp at hp
        · obtain ⟨c0, c1⟩ := hcell k p hp
          obtain ⟨a, t⟩ := p
          dsimp only at h1 h2 h3 c0 c1
          have hd : decide (a < t) = false := decide_eq_false (by omega)
          have hk0 : (0 : Int) ≤ (k : Int) := by omega
          have hk1 : (k : Int) < (m : Int) := by omega
          have HMT := Lib.hid h2
          have hsb : (scL c a).length ≤ 9223372036854775807 := by have := scL_len OKr.out a; omega
          have HSB := Lib.hid hsb
          have HBr' := HBr.out
          clear hcell hp h1 h2 h3 hsb
          go_wp2
          go_region_held3 (fun w' => w'.cell? ⟨w.heap.size, 0, none⟩ = some (.int .i64 c.st) ∧ w'.cell? ⟨w.heap.size, 1, none⟩ = some (.int .i64 c.lo) ∧ w'.cell? ⟨w.heap.size, 2, none⟩ = some (.slice c.iA c.n c.ic) ∧ w'.cell? ⟨w.heap.size, 3, none⟩ = some (.slice c.hA c.hn c.hc) ∧ w'.cell? ⟨w.heap.size, 4, none⟩ = some (.slice c.mA c.mn c.mc) ∧ w'.cell? ⟨w.heap.size, 5, none⟩ = some (.slice c.lA c.ln c.lc) ∧ w'.cell? ⟨g, k * 2, none⟩ = some (.int .i64 a) ∧ w'.cell? ⟨g, k * 2 + 1, none⟩ = some (.int .i64 t) ∧ g < w'.heap.size ∧ w.heap.size < w'.heap.size ∧ Below wr.heap.size wr w') (((try go_split_ands); (repeat' apply And.intro) <;> (first | assumption | exact (Below.refl _ _).drew | (first | exact below_on (w := wr) (by assumption) hq | exact Below.drew (by assumption) | assumption) | exact (Below.cell hq (by first | omega | (simp; omega))).trans (by assumption) | (have := hq.size; omega) | (simp; omega) | go_keep)))
            (first | (go_at_call 33; (with_reducible refine (scs_r c a _ (OKr.out.up (by first | assumption | (go_split_ands; assumption)))).mono ?_); rintro e w5 ⟨A1, c1, rfl, _, _, _, hr1, hq⟩; have HR1 := Lib.hid hr1; clear hr1) | (go_at_call 45; (with_reducible refine (has_yes HR1.out rfl HSB.out HMT.out).mono ?_); rintro e w6 ⟨rfl, hq⟩))
          all_goals
            go_split_ands
            have hend : Below wr.heap.size wr w6 := by assumption
            go_wp2
            exact ⟨⟨k + 1, hlt, by go_num, below_on HBR3.out hend⟩, by simp [intOf]; omega⟩
      · obtain ⟨rfl⟩ : m = k := by omega
        clear hpr
        have hfr := frozF RBr.out 3
        go_upto_region 10 with fail
        have h5 := heap_setCell_same wr w.heap.size 3 _ _ (.slice none 0 0) RBr.out
        have hb5 : Below w.heap.size w (wr.setCell ⟨w.heap.size, 3, none⟩ (.slice none 0 0)) := below_st HBr.out (Nat.le_refl _) _
        generalize wr.setCell ⟨w.heap.size, 3, none⟩ (.slice none 0 0) = W5 at h5 hb5 ⊢
        clear r0 r1 r2 r3 r4 r5 yr hfr
        have h6 : W5.heap[w.heap.size]? = some (.cells #[.int .i64 c.st, .int .i64 c.lo, .slice c.iA c.n c.ic, .slice none 0 0, .slice c.mA c.mn c.mc, .slice c.lA c.ln c.lc] 50) := h5
        have HB5 := Lib.hid hb5
        obtain ⟨r0, r1, r2, r3, r4, r5⟩ := six_cells h6
        have yr := lt_heap h6
        clear h5 h6 hb5
        rcases Nat.eq_zero_or_pos m with h0 | h0
        · have hbe : beK c c.n = [] := by rw [HL.out]; exact List.eq_nil_of_length_eq_zero (by rw [HM.out]; exact h0)
          have OK6 := Lib.hid ((bare_raw (OK.out.up HB5.out)).ok (bare_few HF.out))
          have hle := bare_le OK6.out hbe
          obtain rfl := h0
          go_upto_region 13 with (go_at_call 43; (with_reducible refine (ds_bare c _ OK6.out (bare_few HF.out)).mono ?_); rintro e w7 ⟨v, rfl, ho7, hb7⟩; obtain ⟨A7, c7, rfl, hc7, hm7, _⟩ := own_form ho7)
          have HR7 := Lib.hid (Row.of_own ho7).1
          have HB7 := Lib.hid (below_on HB5.out hb7)
          clear ho7 hb7 r0 r1 r2 r3 r4 r5 yr
          generalize distL c.bare = D at hle HR7 hc7 ⊢
          obtain ⟨n, hn⟩ : ∃ n, D.length = n := ⟨_, rfl⟩
          have HN := Lib.hid hn
          rw [hn] at hc7 ⊢
          have hnb : n ≤ 9223372036854775807 := by unfold maxLen at hm7; omega
          clear hn
          have HLE := Lib.hid hle
          clear hle
          go_wp2
          go_loopw [6] (fun z wr => ∃ k : Nat, k ≤ n ∧ z = .int .i64 k ∧ wr = w7) (fun z _ => n - (intOf z).toNat)
          case atStart => exact ⟨0, Nat.zero_le _, rfl, rfl⟩
          case round =>
            obtain ⟨k, hk, rfl, rfl⟩ := hrel
            by_cases hlt : k < n
            · obtain ⟨g, o, rfl, hg, hc⟩ := HR7.out.at (by rw [HN.out]; omega)
              have a1 := hc k (by rw [HN.out]; exact hlt)
              have hle := HLE.out k
              generalize D.getD k 0 = x at a1 hle
              have hk0 : (0 : Int) ≤ (k : Int) := by omega
              have hk1 : (k : Int) < (n : Int) := by omega
              have hd : ¬ (k : Int) < x := by omega
              clear hc
              go_wp2
              exact ⟨⟨k + 1, hlt, by go_num, trivial⟩, by simp [intOf]; omega⟩
            · obtain ⟨rfl⟩ : n = k := by omega
              go_wp2_with (go_at_call 31; (with_reducible refine (awake19_any _).mono ?_); rintro e w8 ⟨rfl, hb8⟩)
              go_ret
              exact ⟨rfl, below_on HB7.out hb8⟩
        · have h01 : (0 : Int) < (m : Int) := by omega
          go_wp2_with (go_at_call 31; (with_reducible refine (awake19_any _).mono ?_); rintro e w8 ⟨rfl, hb8⟩)
          go_ret
          exact ⟨rfl, below_on HB5.out hb8⟩
  · have HF := Lib.hid hf
    clear hf
    go_enter Try.func13, Try.ntmps13
    go_upto_region 1 with fail
    have R := World.alloc_heap_new w (.cells #[.int .i64 c.st, .int .i64 c.lo, .slice c.iA c.n c.ic, .slice c.hA c.hn c.hc, .slice c.mA c.mn c.mc, .slice c.lA c.ln c.lc] 50)
    replace hB := below_al hB (.cells #[.int .i64 c.st, .int .i64 c.lo, .slice c.iA c.n c.ic, .slice c.hA c.hn c.hc, .slice c.mA c.mn c.mc, .slice c.lA c.ln c.lc] 50)
    generalize w.alloc (.cells #[.int .i64 c.st, .int .i64 c.lo, .slice c.iA c.n c.ic, .slice c.hA c.hn c.hc, .slice c.mA c.mn c.mc, .slice c.lA c.ln c.lc] 50) = W1 at R hB ⊢
    obtain ⟨r0, r1, r2, r3, r4, r5⟩ := six_cells R
    have y1 := lt_heap R
    replace R := Lib.hid R
    have OK1 := Lib.hid (OK.out.up hB)
    have HB := Lib.hid hB
    clear hB
    go_wp2_with (first | (go_at_call 30; (with_reducible refine (few_no c _ OK1.out HF.out).mono ?_); rintro e w2 ⟨rfl, hb2⟩) | (go_at_call 31; (with_reducible refine (awake19_any _).mono ?_); rintro e w3 ⟨rfl, hb3⟩))
    go_ret
    exact ⟨rfl, below_on HB.out (below_on hb2 hb3)⟩

end Go.Proofs.Ytpghkdmljanncaa
