/- Layer 5: Check, in the package and in its reference. -/
import Derived.Test.YthfegbhbokhlkaaGreatDoorPoolCk
namespace Go.Proofs.YthfegbhbokhlkaaGreatDoor
open Go.ChangeShapes Go.WideShapes Go.ChangeAt Go.RowKit Go.PlainAid
set_option linter.unusedSimpArgs false
set_option linter.unusedVariables false

def ck (L : List Cn) (c : Cn) : Int := ckE L c.t c.s c.n c.a c.b
def badN (L : List Cn) : Nat := L.findIdx (fun c => ck L c != 0)
def ch (L : List Cn) : Int × Int := if 1000 < L.length then (0, 5) else if badN L < L.length then ((badN L : Int) + 1, ck L (L.getD (badN L) cnZ)) else (0, 0)
def chI (L : List Cn) : Int := (ch L).1
def chE (L : List Cn) : Int := (ch L).2
theorem ch_1 {L : List Cn} (h : 1000 < L.length) : chI L = 0 ∧ chE L = 5 := by unfold chI chE ch; rw [if_pos h]; exact ⟨rfl, rfl⟩
theorem ch_2 {L : List Cn} (h : ¬ 1000 < L.length) (h1 : badN L < L.length) : chI L = (badN L : Int) + 1 ∧ chE L = ck L (L.getD (badN L) cnZ) := by unfold chI chE ch; rw [if_neg h, if_pos h1]; exact ⟨rfl, rfl⟩
theorem ch_3 {L : List Cn} (h : ¬ 1000 < L.length) (h1 : ¬ badN L < L.length) : chI L = 0 ∧ chE L = 0 := by unfold chI chE ch; rw [if_neg h, if_neg h1]; exact ⟨rfl, rfl⟩
theorem bad_le (L : List Cn) : badN L ≤ L.length := List.findIdx_le_length
theorem bad_here {L : List Cn} {k : Nat} {p : Cn} (h : k ≤ badN L) (hk : L[k]? = some p) (hp : ¬ ck L p = 0) : badN L = k := by
  have hl : k < L.length := by
    rcases Nat.lt_or_ge k L.length with h1 | h1
    · exact h1
    · rw [List.getElem?_eq_none h1] at hk; cases hk
  rcases Nat.lt_or_ge k (badN L) with h1 | h1
  · exfalso
    have := List.not_of_lt_findIdx (p := fun c => ck L c != 0) h1
    rw [List.getElem?_eq_getElem hl] at hk
    have hx := Option.some.inj hk
    simp only [hx] at this
    simp at this
    exact hp this
  · exact Nat.le_antisymm h1 h
theorem bad_next {L : List Cn} {k : Nat} {p : Cn} (h : k ≤ badN L) (hk : L[k]? = some p) (hp : ck L p = 0) : k + 1 ≤ badN L := by
  have hl : k < L.length := by
    rcases Nat.lt_or_ge k L.length with h1 | h1
    · exact h1
    · rw [List.getElem?_eq_none h1] at hk; cases hk
  rcases Nat.lt_or_ge k (badN L) with h1 | h1
  · exact h1
  · exfalso
    have e : badN L = k := Nat.le_antisymm h1 h
    have hlt : badN L < L.length := by rw [e]; exact hl
    have := List.findIdx_getElem (p := fun c => ck L c != 0) (w := hlt)
    rw [List.getElem?_eq_getElem hl] at hk
    have hx := Option.some.inj hk
    have e' : List.findIdx (fun c => ck L c != 0) L = k := e
    simp only [e'] at this
    rw [hx, hp] at this
    cases this

set_option maxRecDepth 100000 in
set_option maxHeartbeats 1000000 in
theorem check_any {w0 : World} {A : Option Addr} {n c : Nat} {L : List Cn} (hS : Fits L) (hn : L.length = n) (hN : n ≤ 100000) (hp : Pool w0 w0.heap.size A L) (w : World) (hb : Below w0.heap.size w0 w) :
    Calls Tryz.prog 42 #[.slice A n c] w fun e w' => e = .returned (.tuple #[.int .i64 (chI L), .int .i64 (chE L)]) ∧ Below w.heap.size w w' := by
  have HP := Lib.hid (hp.up hb)
  have HN := Lib.hid hn
  clear hp hb hn
  have hB : Below w.heap.size w w := Below.refl _ _
  by_cases h1 : 1000 < L.length
  · have g := ch_1 h1
    rw [HN.out] at h1
    rw [g.1, g.2]
    go_enter Tryz.func42, Tryz.ntmps42
    go_wp2
    go_ret2
    exact ⟨rfl, (by repeat (first | with_reducible exact hB | with_reducible exact Below.refl _ _ | with_reducible refine below_al ?_ _ | with_reducible refine below_st ?_ (by first | exact Nat.le_refl _ | exact Nat.le_add_right _ _ | (simp; omega)) _))⟩
  · have H1 := Lib.hid h1
    rw [HN.out] at h1
    go_enter Tryz.func42, Tryz.ntmps42
    go_wp2
    go_loopw [12] (fun i wr => ∃ k : Nat, k ≤ badN L ∧ i = .int .i64 k ∧ Below w.heap.size w wr) (fun i _ => n - (intOf i).toNat)
    case atStart => exact ⟨0, Nat.zero_le _, rfl, hB⟩
    case round =>
      obtain ⟨k, hk, rfl, hBr⟩ := hrel
      have hle := bad_le L
      rw [HN.out] at hle
      by_cases hlt : k < n
      · have hp : ∃ p, L[k]? = some p := ⟨L[k]'(by rw [HN.out]; exact hlt), List.getElem?_eq_getElem _⟩
        obtain ⟨p, hp⟩ := hp
        have HPW := Lib.hid (HP.out.up hBr)
        rcases HPW.out with h0 | ⟨b, o, rfl, hg, hcell⟩
        · rw [h0] at hp; cases hp
        · obtain ⟨a0, a1, a2, a3, a4⟩ := hcell k _ hp
          clear hcell
          have hk0 : (0 : Int) ≤ (k : Int) := by omega
          have hk1 : (k : Int) < (n : Int) := by omega
          have HK := Lib.hid hk
          have HPK := Lib.hid hp
          clear hle hk hp
          go_wp2_with (go_at_call 58; refine (cck_any p.t p.s p.n p.a p.b hS HN.out hN HPW.out _ (by first | exact Below.refl _ _ | exact below_al (Below.refl _ _) _)).mono ?_; rintro e w1 ⟨rfl, hb1⟩; have hB2 := below_on (w := w) (by first | exact hBr | exact below_al hBr _) hb1; clear hb1)
          · have hck : ¬ ck L p = 0 := bneT (by assumption)
            have hI := bad_here HK.out HPK.out hck
            have g := Lib.hid (ch_2 H1.out (by rw [hI, HN.out]; exact hlt))
            go_ret2
            exact ⟨by rw [g.out.1, g.out.2, hI, List.getD_eq_getElem?_getD, HPK.out]; rfl, hB2⟩
          · have hck : ck L p = 0 := bneF (by assumption)
            go_roundw
            case rel => exact ⟨k + 1, bad_next HK.out HPK.out hck, by go_num, hB2⟩
            case measure => simp [intOf]; omega
      · obtain rfl : k = n := by omega
        have g := Lib.hid (ch_3 H1.out (by rw [HN.out]; omega))
        go_wp2
        go_ret2
        exact ⟨by rw [g.out.1, g.out.2]; rfl, hBr⟩

set_option maxRecDepth 100000 in
set_option maxHeartbeats 1000000 in
theorem rcheck_any {w0 : World} {A : Option Addr} {n c : Nat} {L : List Cn} (hS : Short L) (hn : L.length = n) (hN : n ≤ 100000) (hp : Pool w0 w0.heap.size A L) (w : World) (hb : Below w0.heap.size w0 w) :
    Calls Tryz.prog 49 #[.slice A n c] w fun e w' => e = .returned (.tuple #[.int .i64 (chI L), .int .i64 (chE L)]) ∧ Below w.heap.size w w' := by
  have HP := Lib.hid (hp.up hb)
  have HN := Lib.hid hn
  clear hp hb hn
  have hB : Below w.heap.size w w := Below.refl _ _
  by_cases h1 : 1000 < L.length
  · have g := ch_1 h1
    rw [HN.out] at h1
    rw [g.1, g.2]
    go_enter Tryz.func49, Tryz.ntmps49
    go_wp2
    go_ret2
    exact ⟨rfl, (by repeat (first | with_reducible exact hB | with_reducible exact Below.refl _ _ | with_reducible refine below_al ?_ _ | with_reducible refine below_st ?_ (by first | exact Nat.le_refl _ | exact Nat.le_add_right _ _ | (simp; omega)) _))⟩
  · have H1 := Lib.hid h1
    rw [HN.out] at h1
    go_enter Tryz.func49, Tryz.ntmps49
    go_wp2
    go_loopw [4] (fun i wr => ∃ k : Nat, k ≤ badN L ∧ i = .int .i64 k ∧ Below w.heap.size w wr) (fun i _ => n - (intOf i).toNat)
    case atStart => exact ⟨0, Nat.zero_le _, rfl, hB⟩
    case round =>
      obtain ⟨k, hk, rfl, hBr⟩ := hrel
      have hle := bad_le L
      rw [HN.out] at hle
      by_cases hlt : k < n
      · have hp : ∃ p, L[k]? = some p := ⟨L[k]'(by rw [HN.out]; exact hlt), List.getElem?_eq_getElem _⟩
        obtain ⟨p, hp⟩ := hp
        have HPW := Lib.hid (HP.out.up hBr)
        rcases HPW.out with h0 | ⟨b, o, rfl, hg, hcell⟩
        · rw [h0] at hp; cases hp
        · obtain ⟨a0, a1, a2, a3, a4⟩ := hcell k _ hp
          clear hcell
          have hk0 : (0 : Int) ≤ (k : Int) := by omega
          have hk1 : (k : Int) < (n : Int) := by omega
          have HK := Lib.hid hk
          have HPK := Lib.hid hp
          clear hle hk hp
          go_wp2_with (go_at_call 62; refine (rck_any p.t p.s p.n p.a p.b hS HN.out hN HPW.out _ (by first | exact Below.refl _ _ | exact below_al (Below.refl _ _) _)).mono ?_; rintro e w1 ⟨rfl, hb1⟩; have hB2 := below_on (w := w) (by first | exact hBr | exact below_al hBr _) hb1; clear hb1)
          · have hck : ¬ ck L p = 0 := bneT (by assumption)
            have hI := bad_here HK.out HPK.out hck
            have g := Lib.hid (ch_2 H1.out (by rw [hI, HN.out]; exact hlt))
            go_ret2
            exact ⟨by rw [g.out.1, g.out.2, hI, List.getD_eq_getElem?_getD, HPK.out]; rfl, hB2⟩
          · have hck : ck L p = 0 := bneF (by assumption)
            go_roundw
            case rel => exact ⟨k + 1, bad_next HK.out HPK.out hck, by go_num, hB2⟩
            case measure => simp [intOf]; omega
      · obtain rfl : k = n := by omega
        have g := Lib.hid (ch_3 H1.out (by rw [HN.out]; omega))
        go_wp2
        go_ret2
        exact ⟨by rw [g.out.1, g.out.2]; rfl, hBr⟩

end Go.Proofs.YthfegbhbokhlkaaGreatDoor
