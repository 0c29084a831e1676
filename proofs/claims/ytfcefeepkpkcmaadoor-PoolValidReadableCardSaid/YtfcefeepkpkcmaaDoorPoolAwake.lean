/- Layer 5: the chapter's examples: awake. -/
import Derived.Test.YtfcefeepkpkcmaaDoorPoolCheck
import Derived.KernelRfl
import Derived.Deep.RegionHeld3
namespace Go.Proofs.YtfcefeepkpkcmaaDoor
open Go.ChangeShapes Go.WideShapes Go.ChangeAt Go.RowKit Go.PlainAid
set_option linter.unusedSimpArgs false
set_option linter.unusedVariables false

def PA : List Cn := [cu ⟨#[65]⟩, ct 7 1 0]
def PB : List Cn := [cu ⟨#[65]⟩, ct 7 1 0, cu ⟨#[102]⟩, cu ⟨#[40, 41, 86]⟩, ct 12 3 4, ct 10 2 5]
def PC : List Cn := [cu ⟨#[65]⟩, ct 7 1 0, ct 2 0 0]
theorem pa_l : anR [] 7 ⟨#[65]⟩ = (PA, 2, 0) := by kernel_rfl
theorem pb_l : amR PA 10 ⟨#[65]⟩ ⟨#[102]⟩ ⟨#[40, 41, 86]⟩ = (PB, 6, 0) := by kernel_rfl
theorem pb_c : ch PB = (0, 0) := by kernel_rfl
theorem pc_c : ch PC = (3, 11) := by kernel_rfl
theorem pb_n : nmS PB 2 7 = ⟨#[65]⟩ ∧ nmE PB 2 7 = 0 := ⟨by kernel_rfl, by kernel_rfl⟩
theorem pb_m : mr PB 6 10 = (⟨#[65]⟩, ⟨#[102]⟩, ⟨#[40, 41, 86]⟩, 0) := by kernel_rfl

theorem mr_all {L : List Cn} {i t : Int} {a b d : ByteArray} {e : Int} (h : mr L i t = (a, b, d, e)) : mrC L i t = a ∧ mrN L i t = b ∧ mrD L i t = d ∧ mrE L i t = e := by unfold mrC mrN mrD mrE; rw [h]; exact ⟨rfl, rfl, rfl, rfl⟩
theorem pb_short : Fits PB := by
  intro c hc
  simp [PB] at hc
  rcases hc with rfl | rfl | rfl | rfl | rfl | rfl <;> decide
theorem pc_short : Fits PC := by
  intro c hc
  simp [PC] at hc
  rcases hc with rfl | rfl | rfl <;> decide
theorem aw1 (w : World) : Calls Tryd.prog 32 #[.slice none 0 0, .string ⟨#[65]⟩] w (AddRet w PA 2 0) := by
  have h := ac_any (L := []) (A := none) (n := 0) (c := 0) ⟨#[65]⟩ rfl (by omega) (Nat.le_refl _) (Pool.nil w _ _) w (Below.refl _ _)
  have e1 : anL [] 7 ⟨#[65]⟩ = PA := by unfold anL; rw [pa_l]
  have e2 : anI [] 7 ⟨#[65]⟩ = 2 := by unfold anI; rw [pa_l]
  have e3 : anE [] 7 ⟨#[65]⟩ = 0 := by unfold anE; rw [pa_l]
  rwa [e1, e2, e3] at h
theorem aw2 {w0 : World} {A : Option Addr} {c : Nat} (hc : 2 ≤ c) (hp : Pool w0 w0.heap.size A PA) (w : World) (hb : Below w0.heap.size w0 w) : Calls Tryd.prog 36 #[.slice A 2 c, .int .i64 10, .agg #[.string ⟨#[65]⟩, .string ⟨#[102]⟩, .string ⟨#[40, 41, 86]⟩]] w (AddRet w PB 6 0) := by
  have h := am_any (L := PA) 10 ⟨#[65]⟩ ⟨#[102]⟩ ⟨#[40, 41, 86]⟩ rfl (by decide) hc hp w hb
  have e1 : amL PA 10 ⟨#[65]⟩ ⟨#[102]⟩ ⟨#[40, 41, 86]⟩ = PB := by unfold amL; rw [pb_l]
  have e2 : amI PA 10 ⟨#[65]⟩ ⟨#[102]⟩ ⟨#[40, 41, 86]⟩ = 6 := by unfold amI; rw [pb_l]
  have e3 : amE PA 10 ⟨#[65]⟩ ⟨#[102]⟩ ⟨#[40, 41, 86]⟩ = 0 := by unfold amE; rw [pb_l]
  rwa [e1, e2, e3] at h
theorem aw3 {w0 : World} {A : Option Addr} {c : Nat} (hp : Pool w0 w0.heap.size A PB) (w : World) (hb : Below w0.heap.size w0 w) : Calls Tryd.prog 18 #[.slice A 6 c, .int .i64 2] w fun e w' => e = .returned (.tuple #[.string ⟨#[65]⟩, .int .i64 0]) ∧ Below w.heap.size w w' := by
  have h := cn_any (c := c) 2 (show PB.length = 6 from rfl) (by decide) hp w hb
  rwa [pb_n.1, pb_n.2] at h
theorem aw4 {w0 : World} {A : Option Addr} {c : Nat} (hp : Pool w0 w0.heap.size A PB) (w : World) (hb : Below w0.heap.size w0 w) : Calls Tryd.prog 24 #[.slice A 6 c, .int .i64 6, .int .i64 10] w fun e w' => e = .returned (.tuple #[.agg #[.string ⟨#[65]⟩, .string ⟨#[102]⟩, .string ⟨#[40, 41, 86]⟩], .int .i64 0]) ∧ Below w.heap.size w w' := by
  have h := mr_any (c := c) 6 10 (show PB.length = 6 from rfl) (by decide) hp w hb
  have g := mr_all pb_m
  rwa [g.1, g.2.1, g.2.2.1, g.2.2.2] at h
theorem aw5 {w0 : World} {A : Option Addr} {c : Nat} (hp : Pool w0 w0.heap.size A PB) (w : World) (hb : Below w0.heap.size w0 w) : Calls Tryd.prog 26 #[.slice A 6 c] w fun e w' => e = .returned (.tuple #[.int .i64 0, .int .i64 0]) ∧ Below w.heap.size w w' := by
  have h := check_any (c := c) pb_short (show PB.length = 6 from rfl) (by decide) hp w hb
  rwa [show chI PB = 0 by unfold chI; rw [pb_c], show chE PB = 0 by unfold chE; rw [pb_c]] at h
theorem aw6 {w0 : World} {A : Option Addr} {c : Nat} (hp : Pool w0 w0.heap.size A PC) (w : World) (hb : Below w0.heap.size w0 w) : Calls Tryd.prog 26 #[.slice A 3 c] w fun e w' => e = .returned (.tuple #[.int .i64 3, .int .i64 11]) ∧ Below w.heap.size w w' := by
  have h := check_any (c := c) pc_short (show PC.length = 3 from rfl) (by decide) hp w hb
  rwa [show chI PC = 3 by unfold chI; rw [pc_c], show chE PC = 11 by unfold chE; rw [pc_c]] at h

set_option maxRecDepth 100000 in
set_option maxHeartbeats 1000000 in
theorem awake_any (w : World) : Calls Tryd.prog 13 #[] w fun e w' => e = .returned (.bool true) ∧ Below w.heap.size w w' := by
  have hB : Below w.heap.size w w := Below.refl _ _
  go_enter Tryd.func13, Tryd.ntmps13
  go_upto_region 7 with (first
    | (go_at_call 32; refine (aw1 _).mono ?_; rintro e w1 ⟨A1, n1, m1, rfl, hl1, hm1, hp1, hb1⟩; obtain rfl : n1 = 2 := hl1.symm; have HQ1 := Lib.hid hp1; replace hB := below_on (w := w) (by repeat (first | with_reducible exact hB | with_reducible exact Below.refl _ _ | with_reducible refine below_al ?_ _ | with_reducible refine below_st ?_ (by first | exact Nat.le_refl _ | exact Nat.le_add_right _ _ | (simp; omega)) _)) hb1; clear hl1 hp1 hb1)
    | (go_at_call 36; refine (aw2 hm1 HQ1.out _ (by repeat (first | with_reducible exact hB | with_reducible exact Below.refl _ _ | with_reducible refine below_al ?_ _ | with_reducible refine below_st ?_ (by first | exact Nat.le_refl _ | exact Nat.le_add_right _ _ | (simp; omega)) _))).mono ?_; rintro e w2 ⟨A2, n2, m2, rfl, hl2, hm2, hp2, hb2⟩; obtain rfl : n2 = 6 := hl2.symm; have HQ2 := Lib.hid hp2; replace HQ1 := Lib.hid (HQ1.out.up hb2); replace hB := below_on (w := w) (by repeat (first | with_reducible exact hB | with_reducible exact Below.refl _ _ | with_reducible refine below_al ?_ _ | with_reducible refine below_st ?_ (by first | exact Nat.le_refl _ | exact Nat.le_add_right _ _ | (simp; omega)) _)) hb2; clear hl2 hp2 hb2)
    | (go_at_call 18; refine (aw3 HQ2.out _ (by repeat (first | with_reducible exact hB | with_reducible exact Below.refl _ _ | with_reducible refine below_al ?_ _ | with_reducible refine below_st ?_ (by first | exact Nat.le_refl _ | exact Nat.le_add_right _ _ | (simp; omega)) _))).mono ?_; rintro e w3 ⟨rfl, hb3⟩; replace HQ1 := Lib.hid (HQ1.out.up hb3); replace HQ2 := Lib.hid (HQ2.out.up hb3); replace hB := below_on (w := w) (by repeat (first | with_reducible exact hB | with_reducible exact Below.refl _ _ | with_reducible refine below_al ?_ _ | with_reducible refine below_st ?_ (by first | exact Nat.le_refl _ | exact Nat.le_add_right _ _ | (simp; omega)) _)) hb3; clear hb3)
    | (go_at_call 24; refine (aw4 HQ2.out _ (by repeat (first | with_reducible exact hB | with_reducible exact Below.refl _ _ | with_reducible refine below_al ?_ _ | with_reducible refine below_st ?_ (by first | exact Nat.le_refl _ | exact Nat.le_add_right _ _ | (simp; omega)) _))).mono ?_; rintro e w4 ⟨rfl, hb4⟩; replace HQ1 := Lib.hid (HQ1.out.up hb4); replace HQ2 := Lib.hid (HQ2.out.up hb4); replace hB := below_on (w := w) (by repeat (first | with_reducible exact hB | with_reducible exact Below.refl _ _ | with_reducible refine below_al ?_ _ | with_reducible refine below_st ?_ (by first | exact Nat.le_refl _ | exact Nat.le_add_right _ _ | (simp; omega)) _)) hb4; clear hb4)
    | (go_at_call 26; refine (aw6 hO2.pool _ (Below.refl _ _)).mono ?_; rintro e w8 ⟨rfl, hb8⟩; replace hR := (hb8.block w4.heap.size (lt_heap hR)).trans hR; obtain ⟨r0, r1, r2, q0, q1, q2⟩ := three_cells hR; replace hB := below_on (w := w) (by repeat (first | with_reducible exact hB | with_reducible exact Below.refl _ _ | with_reducible refine below_al ?_ _ | with_reducible refine below_st ?_ (by first | exact Nat.le_refl _ | exact Nat.le_add_right _ _ | (simp; omega)) _)) hb8; clear hb8)
    | (go_at_call 26; refine (aw5 HQ2.out _ (by repeat (first | with_reducible exact hB | with_reducible exact Below.refl _ _ | with_reducible refine below_al ?_ _ | with_reducible refine below_st ?_ (by first | exact Nat.le_refl _ | exact Nat.le_add_right _ _ | (simp; omega)) _))).mono ?_; rintro e w5 ⟨rfl, hb5⟩; have hR := first_box hb5; replace HQ1 := Lib.hid (HQ1.out.up (below_on (below_al (Below.refl _ _) _) hb5)); replace HQ2 := Lib.hid (HQ2.out.up (below_on (below_al (Below.refl _ _) _) hb5)); replace hB := below_on (w := w) (by repeat (first | with_reducible exact hB | with_reducible exact Below.refl _ _ | with_reducible refine below_al ?_ _ | with_reducible refine below_st ?_ (by first | exact Nat.le_refl _ | exact Nat.le_add_right _ _ | (simp; omega)) _)) hb5; have hzr := lt_heap hR; have hs5 := hB.size; clear hb5)
    | (at_builtin; refine wpList_append_copy (n := 2) (by rfl) _ _ (by rfl) (by rfl) (by rfl) (HQ1.out.up (below_al (Below.refl _ _) _)) rfl (by decide) ?_; intro B1 c1 w6 hO hq; replace hR := (hq.block w4.heap.size (by have := lt_heap hR; simp; omega)).trans (laid_old hR); replace hB := below_on (w := w) (by repeat (first | with_reducible exact hB | with_reducible exact Below.refl _ _ | with_reducible refine below_al ?_ _ | with_reducible refine below_st ?_ (by first | exact Nat.le_refl _ | exact Nat.le_add_right _ _ | (simp; omega)) _)) hq)
    | (at_builtin; refine wpList_append_own (n := 2) (m := 1) (M := [ct 2 0 0]) (by rfl) _ _ (by rfl) (by rfl) (by first | exact hO | exact hO.alloc _) (by decide) (by have := hq.size; first | (simp at this ⊢; omega) | (simp; omega) | omega) (by rfl) (one_cells (new_at (by simp; done))) rfl Nat.zero_lt_one (by show 1 ≤ 100000; omega) ?_; intro B2 c2 w7 hO2 hq2; replace hR := (hq2.block w4.heap.size (by simp; omega)).trans (laid_old hR); replace hB := Below.trans (below_al hB _) (hq2.mono (by simp; omega))))
  clear hO hO2 hq hq2 HQ1 HQ2 hR hzr hs5 hm1 hm2
  go_wp2
  go_ret
  exact ⟨rfl, hB⟩

end Go.Proofs.YtfcefeepkpkcmaaDoor
