/- Layer 19: Handlers, edges. -/
import Derived.Test.YtpghkdmljanncaaFs
namespace Go.Proofs.Ytpghkdmljanncaa
open Go.ChangeShapes Go.WideShapes Go.ChangeAt Go.RowKit Go.PlainAid
set_option linter.unusedSimpArgs false
set_option linter.unusedVariables false

def hdB (n : Nat) (h : Hd) (x : Int) : Bool := decide (h.f ≤ x ∧ x < h.t) && exB n h.g
/-- the numbers below k that P takes -/
def rowsI (P : Nat → Bool) (k : Nat) : List Int := ((List.range k).filter P).map (fun (j : Nat) => (j : Int))
theorem rowsI_succ (P : Nat → Bool) (k : Nat) : rowsI P (k + 1) = rowsI P k ++ (if P k = true then [(k : Int)] else []) := by
  unfold rowsI
  rw [List.range_succ, List.filter_append, List.map_append]
  congr 1
  cases h : P k <;> simp [List.filter, h]
theorem rowsI_len (P : Nat → Bool) (k : Nat) : (rowsI P k).length ≤ k := by
  unfold rowsI
  rw [List.length_map]
  exact Nat.le_trans (List.length_filter_le _ _) (by simp)
theorem rowsI_mem {P : Nat → Bool} {k : Nat} {x : Int} : x ∈ rowsI P k ↔ ∃ j : Nat, j < k ∧ P j = true ∧ x = j := by
  unfold rowsI
  rw [List.mem_map]
  constructor
  · rintro ⟨j, hj, rfl⟩
    have := List.mem_filter.1 hj
    exact ⟨j, List.mem_range.1 this.1, this.2, rfl⟩
  · rintro ⟨j, hj, hp, rfl⟩
    exact ⟨j, List.mem_filter.2 ⟨List.mem_range.2 hj, hp⟩, rfl⟩
def hdP (c : Cd) (x : Int) (r : Nat) : Bool := match c.hs[r]? with | some h => hdB c.n h x | none => false
theorem hdP_at {c : Cd} {x : Int} {r : Nat} {h : Hd} (hr : c.hs[r]? = some h) : hdP c x r = hdB c.n h x := by unfold hdP; rw [hr]
def hdL (c : Cd) (x : Int) : List Int := if exB c.n x = true then rowsI (hdP c x) c.hn else []
theorem hdL_len (c : Cd) (x : Int) : (hdL c x).length ≤ c.hn := by
  unfold hdL
  split
  · exact rowsI_len _ _
  · simp
set_option maxRecDepth 100000 in
set_option maxHeartbeats 4000000 in
theorem hds_any (c : Cd) (x : Int) (w : World) (hok : c.ok w) : Calls Try.prog 35 #[(Value.agg #[Value.int IntKind.i64 (Cd.st c), Value.int IntKind.i64 (Cd.lo c), Value.slice (Cd.iA c) (Cd.n c) (Cd.ic c), Value.slice (Cd.hA c) (Cd.hn c) (Cd.hc c), Value.slice (Cd.mA c) (Cd.mn c) (Cd.mc c), Value.slice (Cd.lA c) (Cd.ln c) (Cd.lc c)]), .int .i64 x] w (IntsOwn w (hdL c x)) := by
  have hB : Below w.heap.size w w := Below.refl _ _
  have OK := Lib.hid hok
  clear hok
  cases hex : exB c.n x with
  | false =>
    have HX := Lib.hid hex
    have HS := Lib.hid (show hdL c x = [] by unfold hdL; rw [hex]; rfl)
    clear hex
    go_enter Try.func35, Try.ntmps35
    go_upto_region 1 with fail
    have R := World.alloc_heap_new w (.cells #[.int .i64 c.st, .int .i64 c.lo, .slice c.iA c.n c.ic, .slice c.hA c.hn c.hc, .slice c.mA c.mn c.mc, .slice c.lA c.ln c.lc] 50)
    replace hB := below_al hB (.cells #[.int .i64 c.st, .int .i64 c.lo, .slice c.iA c.n c.ic, .slice c.hA c.hn c.hc, .slice c.mA c.mn c.mc, .slice c.lA c.ln c.lc] 50)
    generalize w.alloc (.cells #[.int .i64 c.st, .int .i64 c.lo, .slice c.iA c.n c.ic, .slice c.hA c.hn c.hc, .slice c.mA c.mn c.mc, .slice c.lA c.ln c.lc] 50) = W1 at R hB ⊢
    obtain ⟨r0, r1, r2, r3, r4, r5⟩ := six_cells R
    have y1 := lt_heap R
    replace R := Lib.hid R
    go_wp2_with (go_at_call 69; (with_reducible refine (ex_gen _ _).mono ?_); rintro e w1 ⟨rfl, hb1⟩; rw [HX.out])
    go_ret
    rw [HS.out]
    exact own_nil _ _ (below_on hB hb1)
  | true =>
    have HX := Lib.hid hex
    have HS := Lib.hid (show hdL c x = rowsI (hdP c x) c.hn by unfold hdL; rw [if_pos hex])
    have hhb := OK.out.hb
    clear hex
    go_enter Try.func35, Try.ntmps35
    go_upto_region 1 with fail
    have R := World.alloc_heap_new w (.cells #[.int .i64 c.st, .int .i64 c.lo, .slice c.iA c.n c.ic, .slice c.hA c.hn c.hc, .slice c.mA c.mn c.mc, .slice c.lA c.ln c.lc] 50)
    replace hB := below_al hB (.cells #[.int .i64 c.st, .int .i64 c.lo, .slice c.iA c.n c.ic, .slice c.hA c.hn c.hc, .slice c.mA c.mn c.mc, .slice c.lA c.ln c.lc] 50)
    generalize w.alloc (.cells #[.int .i64 c.st, .int .i64 c.lo, .slice c.iA c.n c.ic, .slice c.hA c.hn c.hc, .slice c.mA c.mn c.mc, .slice c.lA c.ln c.lc] 50) = W1 at R hB ⊢
    obtain ⟨r0, r1, r2, r3, r4, r5⟩ := six_cells R
    have y1 := lt_heap R
    replace R := Lib.hid R
    go_upto_region 3 with (go_at_call 69; (with_reducible refine (ex_gen _ _).mono ?_); rintro e w1 ⟨rfl, hb1⟩; rw [HX.out])
    have RB := Lib.hid ((hb1.block _ y1).trans R.out)
    have HB := Lib.hid (below_on hB hb1)
    have OK1 := Lib.hid (OK.out.up HB.out)
    clear r0 r1 r2 r3 r4 r5 y1 R hb1 hB
    clear W1
    obtain ⟨r0, r1, r2, r3, r4, r5⟩ := six_cells RB.out
    have yr := lt_heap RB.out
    obtain ⟨A, hA⟩ : ∃ A, c.hA = A := ⟨_, rfl⟩
    have HA := Lib.hid hA
    rw [hA] at r3
    clear hA
    go_wp2
    go_loopw [5, 15] (fun v z wr => ∃ j : Nat, j ≤ c.hn ∧ z = .int .i64 j ∧ Nxt w1 wr (rowsI (hdP c x) j) v) (fun _ z _ => c.hn - (intOf z).toNat)
    case atStart => exact ⟨0, Nat.zero_le _, rfl, Nxt.start⟩
    case round =>
      clear r0 r1 r2 r3 r4 r5 yr
      obtain ⟨j, hj, rfl, N⟩ := hrel
      have HNX := Lib.hid N
      have RBr := Lib.hid ((N.bel.block _ (lt_heap RB.out)).trans RB.out)
      have hwr := OK1.out.hw.up N.bel
      rw [HA.out] at hwr
      have hln := rowsI_len (hdP c x) j
      clear N
      by_cases hlt : j < c.hn
      · obtain ⟨h, hh⟩ := get_someF (l := c.hs) (k := j) (by rw [OK.out.hl]; exact hlt)
        rcases hwr with h0 | ⟨g, o, rfl, hg, hcell⟩
        · rw [h0] at hh; simp at hh
        · obtain ⟨a0, a1, a2, a3, a4⟩ := hcell j h hh
          have HP := Lib.hid (hdP_at (x := x) hh)
          obtain ⟨r0, r1, r2, r3, r4, r5⟩ := six_cells RBr.out
          have yr := lt_heap RBr.out
          rw [HA.out] at r3
          have hj0 : (0 : Int) ≤ (j : Int) := by omega
          have hj1 : (j : Int) < (c.hn : Int) := by omega
          clear hcell hh
          by_cases h1 : h.f ≤ x
          · by_cases h2 : x < h.t
            · cases hE : exB c.n h.g with
              | false =>
                have HE := Lib.hid hE
                have HN := Lib.hid (show hdP c x j = false by rw [HP.out]; unfold hdB; rw [hE]; simp)
                clear hE
                go_wp2_with (go_at_call 69; (with_reducible refine (ex_gen _ _).mono ?_); rintro e w2 ⟨rfl, hb2⟩; rw [HE.out])
                exact ⟨⟨j + 1, hlt, by go_num, by rw [rowsI_succ, HN.out]; simp only [Bool.false_eq_true, if_false, List.append_nil]; exact HNX.out.up (below_on (below_al (Below.refl _ _) _) hb2)⟩, by simp [intOf]; omega⟩
              | true =>
                have HE := Lib.hid hE
                have HN := Lib.hid (show hdP c x j = true by rw [HP.out]; unfold hdB; rw [hE, decide_eq_true ⟨h1, h2⟩]; rfl)
                clear hE
                go_wp2_with (first | (go_at_call 69; (with_reducible refine (ex_gen _ _).mono ?_); rintro e w2 ⟨rfl, hb2⟩; rw [HE.out]; have HN2 := Lib.hid (HNX.out.up (below_on (below_al (Below.refl _ _) _) hb2)); have hz2 := hb2.size) | (at_builtin; refine wpList_append_ints (by rfl) _ _ (by rfl) w1.heap.size _ 1 1 (w2.heap.size + 1) _ [(j : Int)] _ _ (by rfl) (HN2.out.own.alloc _) (by rfl) (Row.one (ten_cell0 (new_at rfl)) (by omega)) rfl (fun h => by cases h) (by omega) (by have := HN2.out.bel.size; simp; omega) ?_; intro v4 w4 ho4 hg4))
                exact ⟨⟨j + 1, hlt, by go_num, by rw [rowsI_succ, HN.out]; simp only [if_true]; exact HN2.out.add ho4 hg4⟩, by simp [intOf]; omega⟩
            · have HN := Lib.hid (show hdP c x j = false by rw [HP.out]; unfold hdB; rw [decide_eq_false (fun e => h2 e.2)]; rfl)
              go_wp2
              exact ⟨⟨j + 1, hlt, by go_num, by rw [rowsI_succ, HN.out]; simp only [Bool.false_eq_true, if_false, List.append_nil]; exact HNX.out.up (below_al (Below.refl _ _) _)⟩, by simp [intOf]; omega⟩
          · have HN := Lib.hid (show hdP c x j = false by rw [HP.out]; unfold hdB; rw [decide_eq_false (fun e => h1 e.1)]; rfl)
            go_wp2
            exact ⟨⟨j + 1, hlt, by go_num, by rw [rowsI_succ, HN.out]; simp only [Bool.false_eq_true, if_false, List.append_nil]; exact HNX.out.up (below_al (Below.refl _ _) _)⟩, by simp [intOf]; omega⟩
      · obtain ⟨hjj⟩ : c.hn = j := by omega
        go_wp2
        go_ret
        rw [HS.out]
        exact own_up HB.out HNX.out.own HNX.out.bel

end Go.Proofs.Ytpghkdmljanncaa
