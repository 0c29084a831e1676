/- Layer 53: a list of tokens in memory; few. -/
import Derived.Test.YtfpdnhbbbadegaaGreatDoorYs
import Derived.Lib.Join
namespace Go.Proofs.YtfpdnhbbbadegaaGreatDoor
open Go.ChangeShapes Go.WideShapes Go.ChangeAt Go.RowKit Go.PlainAid
set_option linter.unusedSimpArgs false
set_option linter.unusedVariables false

/-- a list of tokens as an argument -/
structure TkR (w : World) (A : Option Addr) (n : Nat) (L : List Tk) : Prop where
  len : L.length = n
  row : RowAt tF 4 w A L
  rng : ∀ t ∈ L, -9223372036854775808 ≤ t.n ∧ t.n ≤ 9223372036854775807
theorem TkR.up {w w' : World} {A : Option Addr} {n : Nat} {L : List Tk} (h : TkR w A n L) (hb : Below w.heap.size w w') : TkR w' A n L := ⟨h.len, h.row.up hb, h.rng⟩
theorem TkR.get {w : World} {A : Option Addr} {n k : Nat} {L : List Tk} (h : TkR w A n L) (hk : k < n) : ∃ (t : Tk) (g o : Nat), L[k]? = some t ∧ A = some ⟨g, o, none⟩ ∧ g < w.heap.size ∧
    w.cell? ⟨g, o + k * 4, none⟩ = some (.int .i64 t.k) ∧ w.cell? ⟨g, o + k * 4 + 1, none⟩ = some (.string (bsB t.s)) ∧ w.cell? ⟨g, o + k * 4 + 2, none⟩ = some (.int .i64 t.n) ∧ w.cell? ⟨g, o + k * 4 + 3, none⟩ = some (.int .i64 t.a) := by
  have hl : k < L.length := by rw [h.len]; exact hk
  obtain ⟨g, o, hA, hg, hc⟩ := h.row.get (List.getElem?_eq_getElem hl)
  exact ⟨L[k], g, o, List.getElem?_eq_getElem hl, hA, hg, hc 0 _ rfl, hc 1 _ rfl, hc 2 _ rfl, hc 3 _ rfl⟩
/-- the sum that few takes -/
def fwS (L : List Tk) (k : Nat) : Nat := ((L.take k).map fun t => min t.s.length 100000).sum
def fwB (L : List Tk) : Bool := decide (L.length ≤ 6000 ∧ ∀ k, k ≤ L.length → fwS L k ≤ 100000)
theorem fwS_succ {L : List Tk} {k : Nat} {t : Tk} (h : L[k]? = some t) : fwS L (k + 1) = fwS L k + min t.s.length 100000 := by
  unfold fwS
  rw [List.take_add_one, h]
  simp
theorem fw_len {L : List Tk} (h : fwB L = true) : L.length ≤ 6000 := by
  unfold fwB at h
  rw [decide_eq_true_eq] at h
  exact h.1
theorem fw_no {L : List Tk} {k : Nat} (hk : k ≤ L.length) (h : 100000 < fwS L k) : fwB L = false := by
  unfold fwB
  rw [decide_eq_false_iff_not]
  rintro ⟨_, h2⟩
  have := h2 k hk
  omega
set_option maxRecDepth 100000 in
set_option maxHeartbeats 2000000 in
theorem few_any {w : World} {A : Option Addr} {n c : Nat} {L : List Tk} (hn : n ≤ 9223372036854775807) (h : TkR w A n L) : Calls Tryz.prog 8 #[.slice A n c] w fun e w' => e = .returned (.bool (fwB L)) ∧ w = w' := by
  have H := Lib.hid h
  have hlen := h.len
  by_cases h6 : 6000 < n
  · have HN := Lib.hid (show fwB L = false by unfold fwB; rw [decide_eq_false_iff_not]; rintro ⟨h1, _⟩; omega)
    clear h hlen
    go_enter Tryz.func8, Tryz.ntmps8
    go_wp2
    go_ret
    exact ⟨by rw [HN.out]; rfl, rfl⟩
  · have HLEN := Lib.hid hlen
    clear h hlen
    go_enter Tryz.func8, Tryz.ntmps8
    go_wp2
    go_loop [3, 4] (fun z i => ∃ k : Nat, k ≤ n ∧ i = .int .i64 k ∧ z = .int .i64 (fwS L k : Nat) ∧ ∀ j, j ≤ k → fwS L j ≤ 100000) (fun _ i => n - (intOf i).toNat)
    case atStart => exact ⟨0, Nat.zero_le _, rfl, rfl, fun j hj => by obtain rfl : j = 0 := by omega
                                                                      unfold fwS; simp⟩
    case round =>
      obtain ⟨k, hk, rfl, rfl, hall⟩ := hrel
      by_cases hlt : k < n
      · obtain ⟨t, g, o, hkt, rfl, hg, c0, c1, c2, c3⟩ := H.out.get hlt
        have hs := fwS_succ hkt
        have hz := bsB_size t.s
        have hb0 := hall k (Nat.le_refl _)
        obtain ⟨S, hS⟩ : ∃ S, fwS L k = S := ⟨_, rfl⟩
        obtain ⟨B, hB⟩ : ∃ B, bsB t.s = B := ⟨_, rfl⟩
        rw [hS] at hs hb0 ⊢
        rw [hB] at hz c1
        have HS := Lib.hid hs
        have HZ := Lib.hid hz
        have HALL := Lib.hid hall
        clear hs hz hall hS hB hkt
        by_cases hm : (100000 : Int) < (B.size : Int)
        · have HX := Lib.hid (show fwS L (k + 1) = S + 100000 by rw [HS.out, ← HZ.out]; omega)
          by_cases h9 : 100000 < S + 100000
          · have HN := Lib.hid (fw_no (L := L) (k := k + 1) (by rw [HLEN.out]; omega) (by rw [HX.out]; exact h9))
            go_wp2
            go_ret
            exact ⟨by rw [HN.out]; rfl, rfl⟩
          · obtain rfl : S = 0 := by omega
            go_wp2
            go_round
            case rel => exact ⟨k + 1, by omega, by go_num, by rw [HX.out]; first | rfl | (congr 1; omega), fun j hj => by
              rcases (by omega : j ≤ k ∨ j = k + 1) with h | rfl
              · exact HALL.out j h
              · rw [HX.out]; omega⟩
            case measure => simp [intOf]; omega
        · have HX := Lib.hid (show fwS L (k + 1) = S + B.size by rw [HS.out, ← HZ.out]; omega)
          by_cases h9 : (100000 : Int) < (S : Int) + (B.size : Int)
          · have HN := Lib.hid (fw_no (L := L) (k := k + 1) (by rw [HLEN.out]; omega) (by rw [HX.out]; omega))
            go_wp2
            go_ret
            exact ⟨by rw [HN.out]; rfl, rfl⟩
          · go_wp2
            go_round
            case rel => exact ⟨k + 1, by omega, by go_num, by rw [HX.out]; first | rfl | go_num | (congr 1; omega), fun j hj => by
              rcases (by omega : j ≤ k ∨ j = k + 1) with h | rfl
              · exact HALL.out j h
              · rw [HX.out]; omega⟩
            case measure => simp [intOf]; omega
      · obtain rfl : k = n := by omega
        have HN := Lib.hid (show fwB L = true by unfold fwB; rw [decide_eq_true_eq]; exact ⟨by rw [HLEN.out]; omega, fun j hj => hall j (by rw [HLEN.out] at hj; exact hj)⟩)
        clear hall
        go_wp2
        go_ret
        exact ⟨by rw [HN.out]; rfl, rfl⟩

end Go.Proofs.YtfpdnhbbbadegaaGreatDoor
