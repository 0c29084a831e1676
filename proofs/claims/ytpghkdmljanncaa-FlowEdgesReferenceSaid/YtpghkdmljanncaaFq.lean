/- Layer 19: the reference's Handlers, Successors. -/
import Derived.Test.YtpghkdmljanncaaFr
import Derived.Test.YtpghkdmljanncaaOpcRef
import Derived.Deep.RegionLaw
namespace Go.Proofs.Ytpghkdmljanncaa
open Go.ChangeShapes Go.WideShapes Go.ChangeAt Go.RowKit Go.PlainAid
set_option linter.unusedSimpArgs false
set_option linter.unusedVariables false

/-- a row of numbers, its value -/
def RowV (w : World) (L : List Int) (v : Value) : Prop := ∃ A c, v = .slice A L.length c ∧ L.length ≤ c ∧ c ≤ maxLen ∧ (A = none → c = 0) ∧ Row w w.heap.size A L
theorem RowV.up {w w' : World} {L : List Int} {v : Value} (h : RowV w L v) (hb : Below w.heap.size w w') : RowV w' L v := by
  obtain ⟨A, c, h1, h2, h3, h4, h5⟩ := h
  exact ⟨A, c, h1, h2, h3, h4, h5.up hb⟩
theorem IntsRet.get {w w' : World} {L : List Int} {e : Ending} (h : IntsRet w L e w') : ∃ v, e = .returned v ∧ RowV w' L v ∧ Below w.heap.size w w' := by
  obtain ⟨A, c, he, h1, h2, h3, h4, h5⟩ := h
  exact ⟨_, he, ⟨A, c, rfl, h1, h2, h3, h4⟩, h5⟩
theorem RowV.ret {w w' : World} {L : List Int} {v : Value} (h : RowV w' L v) (hb : Below w.heap.size w w') : IntsRet w L (.returned v) w' := by
  obtain ⟨A, c, rfl, h1, h2, h3, h4⟩ := h
  exact ⟨A, c, rfl, h1, h2, h3, h4, hb⟩
theorem rowV_lit (w : World) : RowV (w.alloc (.cells #[] 3)) [] (.slice (some ⟨w.heap.size, 0, none⟩) 0 0) := ⟨some ⟨w.heap.size, 0, none⟩, 0, rfl, Nat.le_refl _, Nat.zero_le _, (fun h => by cases h), Or.inl rfl⟩
theorem below_drew {w w2 : World} (h : Below w.drew.heap.size w.drew w2) : Below w.heap.size w w2 := ⟨h.os, h.tape, h.output, h.size, h.block⟩
theorem addv_any {w : World} {L : List Int} {v : Value} (x : Int) (h : RowV w L v) (hn : L.length ≤ 1000000) (hs : L.Pairwise (· < ·)) :
    Calls Try.prog 73 #[v, .int .i64 x] w (IntsRet w (ordL (L ++ [x]))) := by
  obtain ⟨A, c, rfl, h1, h2, h3, h4⟩ := h
  exact add_any x h4 rfl hn h1 h2 h3 hs
def hdQ (c : Cd) (x : Int) (j : Nat) : Bool := exB c.n x && hdP c x j
theorem hdQ_all (c : Cd) (x : Int) : rowsI (hdQ c x) c.hn = hdL c x := by
  unfold hdL
  cases h : exB c.n x with
  | true =>
    rw [if_pos rfl]
    congr 1
    funext j
    unfold hdQ
    rw [h]; rfl
  | false =>
    rw [if_neg (by simp)]
    unfold rowsI
    have : (List.range c.hn).filter (hdQ c x) = [] := List.filter_eq_nil_iff.2 fun j _ => by unfold hdQ; rw [h]; simp
    rw [this]; rfl
set_option maxRecDepth 100000 in
set_option maxHeartbeats 4000000 in
theorem rhd_any (c : Cd) (x : Int) (w : World) (hok : c.ok w) : Calls Try.prog 36 #[(Value.agg #[Value.int IntKind.i64 (Cd.st c), Value.int IntKind.i64 (Cd.lo c), Value.slice (Cd.iA c) (Cd.n c) (Cd.ic c), Value.slice (Cd.hA c) (Cd.hn c) (Cd.hc c), Value.slice (Cd.mA c) (Cd.mn c) (Cd.mc c), Value.slice (Cd.lA c) (Cd.ln c) (Cd.lc c)]), .int .i64 x] w (IntsOwn w (hdL c x)) := by
  have hB : Below w.heap.size w w := Below.refl _ _
  have OK := Lib.hid hok
  clear hok
  have HS := Lib.hid (hdQ_all c x).symm
  have hhb := OK.out.hb
  go_enter Try.func36, Try.ntmps36
  go_upto_region 1 with fail
  have R := World.alloc_heap_new w (.cells #[.int .i64 c.st, .int .i64 c.lo, .slice c.iA c.n c.ic, .slice c.hA c.hn c.hc, .slice c.mA c.mn c.mc, .slice c.lA c.ln c.lc] 50)
  replace hB := below_al hB (.cells #[.int .i64 c.st, .int .i64 c.lo, .slice c.iA c.n c.ic, .slice c.hA c.hn c.hc, .slice c.mA c.mn c.mc, .slice c.lA c.ln c.lc] 50)
  generalize w.alloc (.cells #[.int .i64 c.st, .int .i64 c.lo, .slice c.iA c.n c.ic, .slice c.hA c.hn c.hc, .slice c.mA c.mn c.mc, .slice c.lA c.ln c.lc] 50) = W1 at R hB ⊢
  obtain ⟨r0, r1, r2, r3, r4, r5⟩ := six_cells R
  have y1 := lt_heap R
  replace R := Lib.hid R
  go_upto_region 2 with fail
  have HB := Lib.hid hB
  have OK1 := Lib.hid (OK.out.up hB)
  have HN0 := Lib.hid (show Nxt W1 (W1.alloc (.cells #[] 3)) [] (.slice (some ⟨W1.heap.size, 0, none⟩) 0 0) from ⟨own_lit0 (Nat.le_refl _), below_al (Below.refl _ _) _⟩)
  obtain ⟨A, hA⟩ : ∃ A, c.hA = A := ⟨_, rfl⟩
  have HA := Lib.hid hA
  clear hA r0 r1 r2 r3 r4 r5 hB
  go_wp2
  go_loopw [5, 6] (fun v z wr => ∃ j : Nat, j ≤ c.hn ∧ z = .int .i64 j ∧ Nxt W1 wr (rowsI (hdQ c x) j) v) (fun _ z _ => c.hn - (intOf z).toNat)
  case atStart => exact ⟨0, Nat.zero_le _, rfl, HN0.out⟩
  case round =>
    clear HN0
    obtain ⟨j, hj, rfl, N⟩ := hrel
    have HNX := Lib.hid N
    have RBr := Lib.hid ((N.bel.block _ y1).trans R.out)
    have hwr := OK1.out.hw.up N.bel
    rw [HA.out] at hwr
    obtain ⟨q, hq⟩ : ∃ q, (rowsI (hdQ c x) j).length = q := ⟨_, rfl⟩
    have hln := rowsI_len (hdQ c x) j
    have hown := N.own
    rw [hq] at hown hln
    have HQ := Lib.hid hq
    have HOWN := Lib.hid hown
    clear N hq hown
    by_cases hlt : j < c.hn
    · obtain ⟨h, hh⟩ := get_someF (l := c.hs) (k := j) (by rw [OK.out.hl]; exact hlt)
      rcases hwr with h0 | ⟨g, o, rfl, hg, hcell⟩
      · rw [h0] at hh; simp at hh
      · obtain ⟨a0, a1, a2, a3, a4⟩ := hcell j h hh
        have HP := Lib.hid (hdP_at (x := x) hh)
        obtain ⟨r0, r1, r2, r3, r4, r5⟩ := six_cells RBr.out
        have yr := lt_heap RBr.out
        rw [HA.out] at r3
        have hj0 : (0 : Int) ≤ (j : Int) := by omega
        have hj1 : (j : Int) < (c.hn : Int) := by omega
        have no : hdQ c x j = false → ∀ w3, Below wr.heap.size wr w3 → Nxt W1 w3 (rowsI (hdQ c x) (j + 1)) _ := fun e w3 hb => by
          rw [rowsI_succ, e]; simp only [Bool.false_eq_true, if_false, List.append_nil]; exact HNX.out.up hb
        have NO := Lib.hid no
        clear hcell hh no
        cases hX : exB c.n x with
        | false =>
          have HX := Lib.hid hX
          have HN := Lib.hid (show hdQ c x j = false by unfold hdQ; rw [hX]; rfl)
          clear hX
          go_wp2_with (go_at_call 72; (with_reducible refine (is_gen _ _).mono ?_); rintro e w2 ⟨rfl, hb2⟩; rw [HX.out])
          exact ⟨⟨j + 1, hlt, by go_num, NO.out HN.out _ (below_on (below_al (Below.refl _ _) _) hb2)⟩, by simp [intOf]; omega⟩
        | true =>
          have HX := Lib.hid hX
          by_cases h1 : h.f ≤ x
          · by_cases h2 : x < h.t
            · cases hE : exB c.n h.g with
              | false =>
                have HE := Lib.hid hE
                have HN := Lib.hid (show hdQ c x j = false by unfold hdQ; rw [HP.out]; unfold hdB; rw [hE]; simp)
                clear hE hX
                go_wp2_with (first | (go_at_call 72; (with_reducible refine (is_gen (n := c.n) x _).mono ?_); rintro e w2 ⟨rfl, hb2⟩; rw [HX.out]; obtain ⟨hc2, hf2⟩ := bcell hb2; have hz2 := hb2.size; simp only [World.size_alloc] at hz2 hc2) | (go_at_call 72; (with_reducible refine (is_gen (n := c.n) h.g _).mono ?_); rintro e w3 ⟨rfl, hb3⟩; rw [HE.out]))
                exact ⟨⟨j + 1, hlt, by go_num, NO.out HN.out _ (below_on (below_on (below_al (Below.refl _ _) _) hb2) hb3)⟩, by simp [intOf]; omega⟩
              | true =>
                have HE := Lib.hid hE
                have HN := Lib.hid (show hdQ c x j = true by unfold hdQ; rw [HP.out, hX]; unfold hdB; rw [hE, decide_eq_true ⟨h1, h2⟩]; rfl)
                clear hE hX
                go_wp2_with (first | (go_at_call 72; (with_reducible refine (is_gen (n := c.n) x _).mono ?_); rintro e w2 ⟨rfl, hb2⟩; rw [HX.out]; obtain ⟨hc2, hf2⟩ := bcell hb2; have hz2 := hb2.size; simp only [World.size_alloc] at hz2 hc2) | (go_at_call 72; (with_reducible refine (is_gen (n := c.n) h.g _).mono ?_); rintro e w3 ⟨rfl, hb3⟩; rw [HE.out]; have HN3 := Lib.hid (HNX.out.up (below_on (below_on (below_al (Below.refl _ _) _) hb2) hb3)); have HO3 := Lib.hid (own_below HOWN.out (below_on (below_on (below_al (Below.refl _ _) _) hb2) hb3)); have hz3 := hb3.size) | (at_builtin; refine wpList_append_ints (by rfl) _ _ (by rfl) W1.heap.size q 1 1 (w3.heap.size + 1) _ [(j : Int)] _ _ (by rfl) (HO3.out.alloc _) (by rfl) (Row.one (ten_cell0 (new_at rfl)) (by omega)) rfl (fun h => by cases h) (by omega) (by have := HN3.out.bel.size; simp; omega) ?_; intro v4 w4 ho4 hg4))
                exact ⟨⟨j + 1, hlt, by go_num, by rw [rowsI_succ, HN.out]; simp only [if_true]; exact HN3.out.add (by rw [HQ.out]; exact ho4) hg4⟩, by simp [intOf]; omega⟩
            · have HN := Lib.hid (show hdQ c x j = false by unfold hdQ; rw [HP.out]; unfold hdB; rw [decide_eq_false (fun e => h2 e.2)]; simp)
              clear hX
              go_wp2_with (go_at_call 72; (with_reducible refine (is_gen (n := c.n) x _).mono ?_); rintro e w2 ⟨rfl, hb2⟩; rw [HX.out]; obtain ⟨hc2, hf2⟩ := bcell hb2; have hz2 := hb2.size; simp only [World.size_alloc] at hz2 hc2)
              exact ⟨⟨j + 1, hlt, by go_num, NO.out HN.out _ (below_on (below_al (Below.refl _ _) _) hb2)⟩, by simp [intOf]; omega⟩
          · have HN := Lib.hid (show hdQ c x j = false by unfold hdQ; rw [HP.out]; unfold hdB; rw [decide_eq_false (fun e => h1 e.1)]; simp)
            clear hX
            go_wp2_with (go_at_call 72; (with_reducible refine (is_gen (n := c.n) x _).mono ?_); rintro e w2 ⟨rfl, hb2⟩; rw [HX.out]; obtain ⟨hc2, hf2⟩ := bcell hb2; have hz2 := hb2.size; simp only [World.size_alloc] at hz2 hc2)
            exact ⟨⟨j + 1, hlt, by go_num, NO.out HN.out _ (below_on (below_al (Below.refl _ _) _) hb2)⟩, by simp [intOf]; omega⟩
    · obtain ⟨rfl⟩ : c.hn = j := by omega
      obtain ⟨r0, r1, r2, r3, r4, r5⟩ := six_cells RBr.out
      go_wp2
      go_ret
      rw [HS.out]
      exact own_up HB.out HNX.out.own HNX.out.bel

end Go.Proofs.Ytpghkdmljanncaa
