/- Layer 8: IndexAt, in the package and in the reference. -/
import Derived.Test.YtpghkdmljanncaaInOfr
import Derived.Test.YtpghkdmljanncaaShelf
namespace Go.Proofs.Ytpghkdmljanncaa
open Go.ChangeShapes Go.WideShapes Go.ChangeAt Go.RowKit Go.PlainAid
set_option linter.unusedSimpArgs false
set_option linter.unusedVariables false

theorem atN_lt {L : List In} (h : chkE L = 0) : ∀ (d i : Nat), i + d + 1 ≤ L.length → atN L i < atN L (i + d + 1) := by
  intro d
  induction d with
  | zero =>
    intro i hi
    have hx := List.getElem?_eq_getElem (show i < L.length by omega)
    have := szV_bd (chkE_all h i _ hx)
    rw [Nat.add_zero, atN_succ hx]
    omega
  | succ d ih =>
    intro i hi
    have := ih i (by omega)
    have hx := List.getElem?_eq_getElem (show i + d + 1 < L.length by omega)
    have h2 := szV_bd (chkE_all h (i + d + 1) _ hx)
    rw [show i + (d + 1) + 1 = (i + d + 1) + 1 by omega, atN_succ hx]
    omega
theorem of_inc (L : List In) : (ofP L).Pairwise (· < ·) := by
  by_cases h : ofE L = 0
  · obtain ⟨h1, h2, h3, h4⟩ := of_ok h
    rw [h4]
    unfold ofN
    rw [List.pairwise_map, List.pairwise_iff_getElem]
    intro i j hi hj hij
    simp only [List.getElem_range, List.length_range] at *
    have hj' : j < L.length + 1 := by simpa using hj
    have := atN_lt h1 (j - i - 1) i (by omega)
    rwa [show i + (j - i - 1) + 1 = j by omega] at this
  · have : ofP L = [] := if_neg h
    rw [this]; exact List.Pairwise.nil
theorem idx_count : ∀ {M : List Int} {x : Int}, M.Pairwise (· < ·) → x ∈ M → M.countP (· < x) = M.idxOf x
  | [], x, _, h => by simp at h
  | a :: r, x, hp, h => by
    rw [List.pairwise_cons] at hp
    by_cases hx : a = x
    · subst hx
      have : r.countP (· < a) = 0 := by
        rw [List.countP_eq_zero]
        intro y hy
        have := hp.1 y hy
        simp; omega
      simp [List.countP_cons, this]
    · have hm : x ∈ r := by
        rcases List.mem_cons.1 h with h | h
        · exact absurd h.symm hx
        · exact h
      have hlt := hp.1 x hm
      rw [List.countP_cons, idx_count hp.2 hm, List.idxOf_cons]
      have : (a == x) = false := by simpa using hx
      simp [this, hlt]
def whI (M : List Int) (x : Int) : Int := if x ∈ M then (M.idxOf x : Int) else -1
theorem wh_at : ∀ {M : List Int} {x : Int} {k : Nat}, (∀ j, j < k → M.getD j 0 ≠ x) → k < M.length → M.getD k 0 = x → x ∈ M ∧ M.idxOf x = k
  | [], x, k, _, h, _ => by simp at h
  | a :: r, x, 0, _, _, h => by
    obtain rfl : a = x := by simpa using h
    exact ⟨List.mem_cons_self, by simp⟩
  | a :: r, x, k + 1, hj, hk, h => by
    have ha : a ≠ x := by simpa using hj 0 (by omega)
    obtain ⟨h1, h2⟩ := wh_at (M := r) (x := x) (k := k) (fun j hjk => by simpa using hj (j + 1) (by omega)) (by simpa using hk) (by simpa using h)
    refine ⟨List.mem_cons_of_mem _ h1, ?_⟩
    have : (a == x) = false := by simpa using ha
    rw [List.idxOf_cons, h2]
    simp [this]
theorem wh_no {M : List Int} {x : Int} (h : ∀ j, j < M.length → M.getD j 0 ≠ x) : x ∉ M := by
  intro hm
  obtain ⟨j, hj, he⟩ := List.getElem_of_mem hm
  exact h j hj (by rw [List.getD_eq_getElem?_getD, List.getElem?_eq_getElem hj]; exact he)
def iaN (L : List In) (p : Int) : Int := if ofE L = 0 then (if p ∈ ofP L then ((ofP L).idxOf p : Int) else 0) else 0
def iaE (L : List In) (p : Int) : Int := if ofE L = 0 then (if p ∈ ofP L then 0 else 16) else ofE L

theorem bs_any {w : World} {B n c : Nat} {A : Option Addr} {M : List Int} (x : Int) (h : Row w B A M) (hn : M.length = n) (hb : n ≤ 1000000) (hs : M.Pairwise (· < ·)) :
    Calls Try.prog 59 #[.slice A n c, .int .i64 x] w fun e w' => e = .returned (.tuple #[.int .i64 (M.countP (· < x) : Nat), .bool (decide (x ∈ M))]) ∧ ∃ q, w' = w.drewN q := by
  rcases h with rfl | ⟨g, o, rfl, hg, hc⟩
  · obtain rfl : n = 0 := hn.symm
    exact (Try.slices_BinarySearch_int_empty A c x w).mono fun e w' ⟨h1, h2⟩ => ⟨by rw [h1]; rfl, 0, by rw [h2]; rfl⟩
  · have h := Try.slices_BinarySearch_int g o n c M x w (by omega) (by omega) (fun j hj => by
      rw [List.getD_eq_getElem?_getD, List.getElem?_eq_getElem hj]
      exact hc j _ (List.getElem?_eq_getElem hj)) (by
      rw [List.take_of_length_le (by omega)]
      exact hs.imp fun h => Int.le_of_lt h)
    rw [List.take_of_length_le (by omega)] at h
    refine h.mono fun e w' ⟨h1, h2⟩ => ⟨?_, h2⟩
    rw [h1]
    simp [List.contains_eq_mem]
set_option maxRecDepth 100000 in
theorem where_any {w : World} {B n c : Nat} {A : Option Addr} {M : List Int} (x : Int) (h : Row w B A M) (hn : M.length = n) (hb : n ≤ 1000000) :
    Calls Try.prog 60 #[.slice A n c, .int .i64 x] w fun e w' => e = .returned (.int .i64 (whI M x)) ∧ w = w' := by
  have HR := Lib.hid h
  have HN := Lib.hid hn
  clear h hn
  go_enter Try.func60, Try.ntmps60
  go_wp2
  go_loopw [5] (fun v wr => ∃ k : Nat, k ≤ n ∧ v = .int .i64 k ∧ (∀ j, j < k → M.getD j 0 ≠ x) ∧ wr = w) (fun v _ => n - (intOf v).toNat)
  case atStart => exact ⟨0, Nat.zero_le _, rfl, fun j hj => absurd hj (Nat.not_lt_zero _), rfl⟩
  case round =>
    obtain ⟨k, hk, rfl, hall, rfl⟩ := hrel
    have HL := Lib.hid hall
    clear hall
    by_cases hlt : k < n
    · obtain ⟨g, o, rfl, hg, hc⟩ := HR.out.at (by have := HN.out; omega)
      have hck := hc k (by have := HN.out; omega)
      clear hc
      have hk0 : (0 : Int) ≤ (k : Int) := by omega
      have hk1 : (k : Int) < (n : Int) := by omega
      obtain ⟨y, hy⟩ : ∃ y, M.getD k 0 = y := ⟨_, rfl⟩
      rw [hy] at hck
      have HY := Lib.hid hy
      clear hy
      by_cases h3 : y = x
      · subst h3
        have G := Lib.hid (show whI M y = (k : Int) by
          have g := wh_at HL.out (by rw [HN.out]; exact hlt) HY.out
          unfold whI
          rw [if_pos g.1, g.2])
        go_wp2
        go_ret
        exact ⟨by rw [G.out]; rfl, rfl⟩
      · have h3' := beqF h3
        have HX := Lib.hid h3
        clear h3
        go_wp2
        go_roundw
        case rel =>
          refine ⟨k + 1, hlt, by go_num, fun j hj => ?_, trivial⟩
          rcases (by omega : j < k ∨ j = k) with h | rfl
          · exact HL.out j h
          · rw [HY.out]; exact HX.out
        case measure => simp [intOf]; omega
    · obtain ⟨rfl⟩ : n = k := by omega
      have G := Lib.hid (show whI M x = -1 from if_neg (wh_no fun j hj => HL.out j (by rw [HN.out] at hj; exact hj)))
      go_wp2
      go_ret
      exact ⟨by rw [G.out]; rfl, rfl⟩

set_option maxRecDepth 100000 in
theorem ix_any {w0 : World} {A : Option Addr} {n c : Nat} {L : List In} (p : Int) (hn : L.length = n) (hN : n ≤ 1000) (hp : Ins w0 w0.heap.size A L) (w : World) (hb : Below w0.heap.size w0 w) :
    Calls Try.prog 23 #[.slice A n c, .int .i64 p] w fun e w' => e = .returned (.tuple #[.int .i64 (iaN L p), .int .i64 (iaE L p)]) ∧ Below w.heap.size w w' := by
  have HO := Lib.hid (offs_any (c := c) hn hN hp w hb)
  clear hp hb
  have hlen : (ofP L).length ≤ 1001 := by
    by_cases h : ofE L = 0
    · rw [(of_ok h).2.2.2, ofN_len]; omega
    · rw [show ofP L = [] from if_neg h]; simp
  by_cases h : ofE L = 0
  · have hX := Lib.hid (show iaN L p = (if p ∈ ofP L then ((ofP L).idxOf p : Int) else 0) ∧ iaE L p = (if p ∈ ofP L then 0 else 16) from ⟨if_pos h, if_pos h⟩)
    have HE := Lib.hid h
    clear h
    go_enter Try.func23, Try.ntmps23
    go_upto_region 2 with (go_at_call 21; refine HO.out.mono ?_; rintro e w1 ⟨A1, c1, rfl, _, _, _, hrow, hb1⟩; rw [HE.out])
    have HR := Lib.hid hrow
    clear hrow
    by_cases hm : p ∈ ofP L
    · have hx := hX.out
      rw [if_pos hm, if_pos hm] at hx
      replace hX := Lib.hid hx
      have hmd : decide (p ∈ ofP L) = true := decide_eq_true hm
      have HC := Lib.hid (idx_count (of_inc L) hm)
      clear hx hm
      go_wp2_with (go_at_call 59; refine (bs_any p HR.out rfl (by omega) (of_inc L)).mono ?_; rintro e w2 ⟨rfl, q, rfl⟩; rw [hmd, HC.out])
      go_ret2
      exact ⟨by rw [hX.out.1, hX.out.2]; rfl, below_dr hb1 _⟩
    · have hx := hX.out
      rw [if_neg hm, if_neg hm] at hx
      replace hX := Lib.hid hx
      have hmd : decide (p ∈ ofP L) = false := decide_eq_false hm
      clear hx hm
      go_wp2_with (go_at_call 59; refine (bs_any p HR.out rfl (by omega) (of_inc L)).mono ?_; rintro e w2 ⟨rfl, q, rfl⟩; rw [hmd])
      go_ret2
      exact ⟨by rw [hX.out.1, hX.out.2]; rfl, below_dr hb1 _⟩
  · have hX := Lib.hid (show iaN L p = 0 ∧ iaE L p = ofE L from ⟨if_neg h, if_neg h⟩)
    have hne := bneT' h
    clear h
    go_enter Try.func23, Try.ntmps23
    go_wp2_with (go_at_call 21; refine HO.out.mono ?_; rintro e w1 ⟨A1, c1, rfl, _, _, _, hrow, hb1⟩)
    go_ret2
    exact ⟨by rw [hX.out.1, hX.out.2]; rfl, hb1⟩

set_option maxRecDepth 100000 in
theorem rix_any {w0 : World} {A : Option Addr} {n c : Nat} {L : List In} (p : Int) (hn : L.length = n) (hN : n ≤ 1000) (hp : Ins w0 w0.heap.size A L) (w : World) (hb : Below w0.heap.size w0 w) :
    Calls Try.prog 24 #[.slice A n c, .int .i64 p] w fun e w' => e = .returned (.tuple #[.int .i64 (iaN L p), .int .i64 (iaE L p)]) ∧ Below w.heap.size w w' := by
  have HO := Lib.hid (roffs_any (c := c) hn hN hp w hb)
  clear hp hb
  have hlen : (ofP L).length ≤ 1001 := by
    by_cases h : ofE L = 0
    · rw [(of_ok h).2.2.2, ofN_len]; omega
    · rw [show ofP L = [] from if_neg h]; simp
  by_cases h : ofE L = 0
  · have hX := Lib.hid (show iaN L p = (if p ∈ ofP L then ((ofP L).idxOf p : Int) else 0) ∧ iaE L p = (if p ∈ ofP L then 0 else 16) from ⟨if_pos h, if_pos h⟩)
    have HE := Lib.hid h
    clear h
    go_enter Try.func24, Try.ntmps24
    go_upto_region 2 with (go_at_call 22; refine HO.out.mono ?_; rintro e w1 ⟨A1, c1, rfl, _, _, _, hrow, hb1⟩; rw [HE.out])
    have HR := Lib.hid hrow
    clear hrow
    by_cases hm : p ∈ ofP L
    · have hx := hX.out
      rw [if_pos hm, if_pos hm] at hx
      replace hX := Lib.hid hx
      have HW := Lib.hid (show whI (ofP L) p = ((ofP L).idxOf p : Int) from if_pos hm)
      clear hx hm
      go_wp2_with (go_at_call 60; refine (where_any p HR.out rfl (by omega)).mono ?_; rintro e w2 ⟨rfl, rfl⟩; rw [HW.out])
      go_ret2
      exact ⟨by rw [hX.out.1, hX.out.2]; rfl, hb1⟩
    · have hx := hX.out
      rw [if_neg hm, if_neg hm] at hx
      replace hX := Lib.hid hx
      have HW := Lib.hid (show whI (ofP L) p = -1 from if_neg hm)
      clear hx hm
      go_wp2_with (go_at_call 60; refine (where_any p HR.out rfl (by omega)).mono ?_; rintro e w2 ⟨rfl, rfl⟩; rw [HW.out])
      go_ret2
      exact ⟨by rw [hX.out.1, hX.out.2]; rfl, hb1⟩
  · have hX := Lib.hid (show iaN L p = 0 ∧ iaE L p = ofE L from ⟨if_neg h, if_neg h⟩)
    have hne := bneT' h
    clear h
    go_enter Try.func24, Try.ntmps24
    go_wp2_with (go_at_call 22; refine HO.out.mono ?_; rintro e w1 ⟨A1, c1, rfl, _, _, _, hrow, hb1⟩)
    go_ret2
    exact ⟨by rw [hX.out.1, hX.out.2]; rfl, hb1⟩

end Go.Proofs.Ytpghkdmljanncaa
