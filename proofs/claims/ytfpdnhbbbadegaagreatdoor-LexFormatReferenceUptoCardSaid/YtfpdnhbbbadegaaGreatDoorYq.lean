/- Layer 53: FormatToken, the text is not empty. (gen/yq.py) -/
import Derived.Test.YtfpdnhbbbadegaaGreatDoorYp
import Derived.Test.YtfpdnhbbbadegaaGreatDoorYj
import Derived.Lib.AppendIntMem
import Derived.Lib.ItoaLen
namespace Go.Proofs.YtfpdnhbbbadegaaGreatDoor
open Go.ChangeShapes Go.WideShapes Go.ChangeAt Go.RowKit Go.PlainAid
set_option linter.unusedSimpArgs false
set_option linter.unusedVariables false

def fmV (k : Int) (s : List UInt8) (n : Int) : Value := if fmB k s n = true then .tuple #[.string (bsB (txL k s n)), .int .i64 0] else .tuple #[.string ⟨#[]⟩, .int .i64 1]
theorem fm_way {k n x0 x2 x3 x4 : Int} {s x1 : ByteArray} {T : List UInt8} (hT : txL k s.data.toList n = T) (h0 : 0 < T.length)
    (hx : scV (scL T) = .tuple #[.agg #[.int .i64 x0, .string x1, .int .i64 x2, .int .i64 x3], .int .i64 x4]) :
    (x4 = (T.length : Int) → x0 = k → x1.toList = s.toList → x2 = n → fmV k s.data.toList n = .tuple #[.string (bsB T), .int .i64 0]) ∧
    (¬ (x4 = (T.length : Int) ∧ x0 = k ∧ x1.toList = s.toList ∧ x2 = n) → fmV k s.data.toList n = .tuple #[.string ⟨#[]⟩, .int .i64 1]) ∧ x3 = 0 := by
  unfold fmV fmB
  rw [hT]
  cases h : scL T with
  | none =>
    rw [h] at hx
    simp only [scV] at hx
    injection hx with hx
    simp at hx
    obtain ⟨⟨rfl, rfl, rfl, rfl⟩, rfl⟩ := hx
    exact ⟨fun h => by omega, fun _ => rfl, rfl⟩
  | some t =>
    rw [h] at hx
    simp only [scV] at hx
    injection hx with hx
    simp at hx
    obtain ⟨⟨rfl, rfl, rfl, rfl⟩, rfl⟩ := hx
    simp only [Lib.toList_data, bsB_data]
    refine ⟨fun h1 h2 h3 h4 => ?_, fun hn => ?_, trivial⟩
    · rw [if_pos]
      simp only [Bool.and_eq_true, decide_eq_true_eq]
      exact ⟨by omega, h2, h3, h4⟩
    · rw [if_neg]
      simp only [Bool.and_eq_true, decide_eq_true_eq]
      rintro ⟨h1, h2, h3, h4⟩
      exact hn ⟨by omega, h2, h3, h4⟩
theorem notEmpty {T : ByteArray} (h : 0 < T.size) : T.toList.isEmpty = false := by
  rw [Lib.toList_data]
  cases hl : T.data.toList with
  | nil => have := len_data T; rw [hl] at this; simp at this; omega
  | cons a r => rfl
theorem rp_le (l : List UInt8) : (rpL l).length ≤ 2 * l.length := by
  induction l with
  | nil => simp [rpL]
  | cons c r ih =>
    rw [rpL_cons, List.length_append, List.length_cons]
    split <;> simp <;> omega
theorem rp_pos {l : List UInt8} (h : l ≠ []) : 0 < (rpL l).length := by
  cases l with
  | nil => exact absurd rfl h
  | cons c r => rw [rpL_cons, List.length_append]; split <;> simp <;> omega
theorem it_pos (n : Int) : 0 < (Lib.itoa n).length := by
  unfold Lib.itoa
  split
  · simp
  · rw [Lib.decDigits_length]; exact Lib.nDigits_pos _

set_option maxRecDepth 100000 in
set_option maxHeartbeats 2000000 in
theorem fmt_own (k n a : Int) (s : ByteArray) (hs : s.size ≤ 1048576) (h0 : 0 < s.size) (h1 : k ≠ 1) (h3 : k ≠ 3) (h4 : k ≠ 4) (h5 : k ≠ 5) (w : World) (hL : Laid w) : Calls Tryz.prog 9 #[.agg #[.int .i64 k, .string s, .int .i64 n, .int .i64 a]] w fun e w' => e = .returned (fmV k s.data.toList n) ∧ Below w.heap.size w w' := by
  have e1 : (k == 1) = false := by simpa using h1
  have e3 : (k == 3) = false := by simpa using h3
  have e4 : (k == 4) = false := by simpa using h4
  have e5 : (k == 5) = false := by simpa using h5
  have hT : txL k s.data.toList n = s.data.toList := by unfold txL; rw [if_neg h1, if_neg h3, if_neg h4, if_neg h5]
  obtain ⟨T, hTT⟩ : ∃ T, s = T := ⟨_, rfl⟩
  have hT : txL k s.data.toList n = T.data.toList := by rw [hT, hTT]
  have h0 : 0 < T.size := by rw [← hTT]; exact h0
  have hs1 : T.size ≤ 5000000 := by rw [← hTT]; omega
  clear h1 h3 h4 h5
  obtain ⟨x0, x1, x2, x3, x4, hx⟩ := scV_form (scL T.data.toList)
  obtain ⟨hft, hff, rfl⟩ := fm_way (k := k) (n := n) (s := s) hT (by rw [len_data]; exact h0) hx
  obtain ⟨FV, hFV⟩ : ∃ FV, fmV k s.data.toList n = FV := ⟨_, rfl⟩
  rw [hFV] at hft hff
  rw [hFV]
  rw [len_data] at hft hff
  have HFT := Lib.hid hft
  have HFF := Lib.hid hff
  have HTB := Lib.hid (bsB_of (s := T) rfl)
  have hB0 := below_al (Below.refl w.heap.size w) (.cells #[.int .i64 k, .string s, .int .i64 n, .int .i64 a] 27)
  have HZ := Lib.hid (World.alloc_heap_new w (.cells #[.int .i64 k, .string s, .int .i64 n, .int .i64 a] 27))
  have HB := Lib.hid hB0
  have HLD := Lib.hid (hL.up hB0)
  have he := notEmpty h0
  have KS := Lib.hid (fun W (hW : Laid W) => (by have h := scan_any T hs1 h0 W hW; rw [hx] at h; exact h : Calls Tryz.prog 18 #[.string T] W fun e w' => e = .returned (.tuple #[.agg #[.int .i64 x0, .string x1, .int .i64 x2, .int .i64 0], .int .i64 x4]) ∧ Below W.heap.size W w'))
  clear hL hx hB0 hft hff hFV hT
  subst hTT
  go_enter Tryz.func9, Tryz.ntmps9
  go_upto_region 1 with fail
  generalize w.alloc (.cells #[.int .i64 k, .string s, .int .i64 n, .int .i64 a] 27) = W0 at HZ HB HLD ⊢
  obtain ⟨⟨z0, z1, z2, z3⟩, fz, yz⟩ := four_cellsT HZ.out
  go_wp2_with (first | (go_at_call 18; refine (KS.out _ HLD.out).mono ?_; rintro e w1 ⟨rfl, hb⟩; have HB2 := Lib.hid (below_on HB.out hb); have HZ2 := Lib.hid ((hb.block _ (lt_heap HZ.out)).trans HZ.out); obtain ⟨⟨y0, y1, y2, y3⟩, fy, yy⟩ := four_cellsT HZ2.out; clear hb))
  all_goals
    go_ret2
    refine ⟨?_, below_al (below_st HB2.out (Nat.le_refl _) _) _⟩
    first
    | (have hh := HFF.out (by rintro ⟨h1, h2, h3, h4⟩; first | contradiction | omega); rw [hh]; rfl)
    | (have hh := HFT.out (by assumption) (by assumption) (by assumption) (by assumption); rw [hh, ← HTB.out]; rfl)

set_option maxRecDepth 100000 in
set_option maxHeartbeats 2000000 in
theorem fmt_1 (n a : Int) (s : ByteArray) (hs : s.size ≤ 1048576) (h0 : 0 < s.size) (w : World) (hL : Laid w) : Calls Tryz.prog 9 #[.agg #[.int .i64 1, .string s, .int .i64 n, .int .i64 a]] w fun e w' => e = .returned (fmV 1 s.data.toList n) ∧ Below w.heap.size w w' := by
  have hne : s.data.toList ≠ [] := fun e => by have := len_data s; rw [e] at this; simp at this; omega
  obtain ⟨T, hTT⟩ : ∃ T, bsB (rpL s.data.toList) = T := ⟨_, rfl⟩
  have hT : txL 1 s.data.toList n = T.data.toList := by rw [← hTT]; rfl
  have h0 : 0 < T.size := by rw [← hTT, bsB_size]; exact rp_pos hne
  have hs1 : T.size ≤ 5000000 := by rw [← hTT, bsB_size]; have := rp_le s.data.toList; rw [len_data] at this; omega
  clear hne
  have KC := Lib.hid (fun W (hW : Laid W) => (by have h := rep_any s (by omega) W hW; rw [hTT] at h; exact h : Calls Tryz.prog 21 #[.string s, .string ⟨#[47]⟩, .string ⟨#[58, 58]⟩] W fun e w' => e = .returned (.string T) ∧ Below W.heap.size W w'))
  obtain ⟨x0, x1, x2, x3, x4, hx⟩ := scV_form (scL T.data.toList)
  obtain ⟨hft, hff, rfl⟩ := fm_way (k := 1) (n := n) (s := s) hT (by rw [len_data]; exact h0) hx
  obtain ⟨FV, hFV⟩ : ∃ FV, fmV 1 s.data.toList n = FV := ⟨_, rfl⟩
  rw [hFV] at hft hff
  rw [hFV]
  rw [len_data] at hft hff
  have HFT := Lib.hid hft
  have HFF := Lib.hid hff
  have HTB := Lib.hid (bsB_of (s := T) rfl)
  have hB0 := below_al (Below.refl w.heap.size w) (.cells #[.int .i64 1, .string s, .int .i64 n, .int .i64 a] 27)
  have HZ := Lib.hid (World.alloc_heap_new w (.cells #[.int .i64 1, .string s, .int .i64 n, .int .i64 a] 27))
  have HB := Lib.hid hB0
  have HLD := Lib.hid (hL.up hB0)
  have he := notEmpty h0
  have KS := Lib.hid (fun W (hW : Laid W) => (by have h := scan_any T hs1 h0 W hW; rw [hx] at h; exact h : Calls Tryz.prog 18 #[.string T] W fun e w' => e = .returned (.tuple #[.agg #[.int .i64 x0, .string x1, .int .i64 x2, .int .i64 0], .int .i64 x4]) ∧ Below W.heap.size W w'))
  clear hL hx hB0 hft hff hFV hT
  clear hTT
  go_enter Tryz.func9, Tryz.ntmps9
  go_upto_region 1 with fail
  generalize w.alloc (.cells #[.int .i64 1, .string s, .int .i64 n, .int .i64 a] 27) = W0 at HZ HB HLD ⊢
  obtain ⟨⟨z0, z1, z2, z3⟩, fz, yz⟩ := four_cellsT HZ.out
  go_wp2_with (first | (go_at_call 21; refine (KC.out _ HLD.out).mono ?_; rintro e w1 ⟨rfl, hb⟩; have HLD := Lib.hid (HLD.out.up hb); have HB := Lib.hid (below_on HB.out hb); have HZ := Lib.hid ((hb.block _ (lt_heap HZ.out)).trans HZ.out); obtain ⟨⟨z0, z1, z2, z3⟩, fz, yz⟩ := four_cellsT HZ.out; clear hb) | (go_at_call 18; refine (KS.out _ HLD.out).mono ?_; rintro e w1 ⟨rfl, hb⟩; have HB2 := Lib.hid (below_on HB.out hb); have HZ2 := Lib.hid ((hb.block _ (lt_heap HZ.out)).trans HZ.out); obtain ⟨⟨y0, y1, y2, y3⟩, fy, yy⟩ := four_cellsT HZ2.out; clear hb))
  all_goals
    go_ret2
    refine ⟨?_, below_al (below_st HB2.out (Nat.le_refl _) _) _⟩
    first
    | (have hh := HFF.out (by rintro ⟨h1, h2, h3, h4⟩; first | contradiction | omega); rw [hh]; rfl)
    | (have hh := HFT.out (by assumption) (by assumption) (by assumption) (by assumption); rw [hh, ← HTB.out]; rfl)

set_option maxRecDepth 100000 in
set_option maxHeartbeats 2000000 in
theorem fmt_3 (n a : Int) (s : ByteArray) (hs : s.size ≤ 1048576) (hn0 : -9223372036854775808 ≤ n) (hn1 : n ≤ 9223372036854775807) (w : World) (hL : Laid w) : Calls Tryz.prog 9 #[.agg #[.int .i64 3, .string s, .int .i64 n, .int .i64 a]] w fun e w' => e = .returned (fmV 3 s.data.toList n) ∧ Below w.heap.size w w' := by
  obtain ⟨T, hTT⟩ : ∃ T, bsB (Lib.itoa n) = T := ⟨_, rfl⟩
  have hT : txL 3 s.data.toList n = T.data.toList := by rw [← hTT]; rfl
  have h0 : 0 < T.size := by rw [← hTT, bsB_size]; exact it_pos n
  have hs1 : T.size ≤ 5000000 := by rw [← hTT, bsB_size]; have := Lib.itoa_length_le n hn0 hn1; omega
  have KC := Lib.hid (fun W (hW : Laid W) => (by have h := itoa_any n hn0 hn1 W hW; rw [hTT] at h; exact h : Calls Tryz.prog 22 #[.int .i64 n] W fun e w' => e = .returned (.string T) ∧ Below W.heap.size W w'))
  obtain ⟨x0, x1, x2, x3, x4, hx⟩ := scV_form (scL T.data.toList)
  obtain ⟨hft, hff, rfl⟩ := fm_way (k := 3) (n := n) (s := s) hT (by rw [len_data]; exact h0) hx
  obtain ⟨FV, hFV⟩ : ∃ FV, fmV 3 s.data.toList n = FV := ⟨_, rfl⟩
  rw [hFV] at hft hff
  rw [hFV]
  rw [len_data] at hft hff
  have HFT := Lib.hid hft
  have HFF := Lib.hid hff
  have HTB := Lib.hid (bsB_of (s := T) rfl)
  have hB0 := below_al (Below.refl w.heap.size w) (.cells #[.int .i64 3, .string s, .int .i64 n, .int .i64 a] 27)
  have HZ := Lib.hid (World.alloc_heap_new w (.cells #[.int .i64 3, .string s, .int .i64 n, .int .i64 a] 27))
  have HB := Lib.hid hB0
  have HLD := Lib.hid (hL.up hB0)
  have he := notEmpty h0
  have KS := Lib.hid (fun W (hW : Laid W) => (by have h := scan_any T hs1 h0 W hW; rw [hx] at h; exact h : Calls Tryz.prog 18 #[.string T] W fun e w' => e = .returned (.tuple #[.agg #[.int .i64 x0, .string x1, .int .i64 x2, .int .i64 0], .int .i64 x4]) ∧ Below W.heap.size W w'))
  clear hL hx hB0 hft hff hFV hT
  clear hTT
  go_enter Tryz.func9, Tryz.ntmps9
  go_upto_region 1 with fail
  generalize w.alloc (.cells #[.int .i64 3, .string s, .int .i64 n, .int .i64 a] 27) = W0 at HZ HB HLD ⊢
  obtain ⟨⟨z0, z1, z2, z3⟩, fz, yz⟩ := four_cellsT HZ.out
  go_wp2_with (first | (go_at_call 22; refine (KC.out _ HLD.out).mono ?_; rintro e w1 ⟨rfl, hb⟩; have HLD := Lib.hid (HLD.out.up hb); have HB := Lib.hid (below_on HB.out hb); have HZ := Lib.hid ((hb.block _ (lt_heap HZ.out)).trans HZ.out); obtain ⟨⟨z0, z1, z2, z3⟩, fz, yz⟩ := four_cellsT HZ.out; clear hb) | (go_at_call 18; refine (KS.out _ HLD.out).mono ?_; rintro e w1 ⟨rfl, hb⟩; have HB2 := Lib.hid (below_on HB.out hb); have HZ2 := Lib.hid ((hb.block _ (lt_heap HZ.out)).trans HZ.out); obtain ⟨⟨y0, y1, y2, y3⟩, fy, yy⟩ := four_cellsT HZ2.out; clear hb))
  all_goals
    go_ret2
    refine ⟨?_, below_al (below_st HB2.out (Nat.le_refl _) _) _⟩
    first
    | (have hh := HFF.out (by rintro ⟨h1, h2, h3, h4⟩; first | contradiction | omega); rw [hh]; rfl)
    | (have hh := HFT.out (by assumption) (by assumption) (by assumption) (by assumption); rw [hh, ← HTB.out]; rfl)

set_option maxRecDepth 100000 in
set_option maxHeartbeats 2000000 in
theorem fmt_4 (n a : Int) (s : ByteArray) (hs : s.size ≤ 1048576) (hn0 : -9223372036854775808 ≤ n) (hn1 : n ≤ 9223372036854775807) (w : World) (hL : Laid w) : Calls Tryz.prog 9 #[.agg #[.int .i64 4, .string s, .int .i64 n, .int .i64 a]] w fun e w' => e = .returned (fmV 4 s.data.toList n) ∧ Below w.heap.size w w' := by
  obtain ⟨U, hUU⟩ : ∃ U, bsB (Lib.itoa n) = U := ⟨_, rfl⟩
  have hus : U.size ≤ 21 := by rw [← hUU, bsB_size]; exact Lib.itoa_length_le n hn0 hn1
  obtain ⟨T, hTT⟩ : ∃ T, U ++ ⟨#[76]⟩ = T := ⟨_, rfl⟩
  have hzz : T.size = U.size + 1 := by rw [← hTT]; simp; rfl
  have hT : txL 4 s.data.toList n = T.data.toList := by rw [← hTT, ByteArray.data_append, Array.toList_append, ← hUU]; rfl
  have h0 : 0 < T.size := by omega
  have hs1 : T.size ≤ 5000000 := by omega
  have KC := Lib.hid (fun W (hW : Laid W) => (by have h := itoa_any n hn0 hn1 W hW; rw [hUU] at h; exact h : Calls Tryz.prog 22 #[.int .i64 n] W fun e w' => e = .returned (.string U) ∧ Below W.heap.size W w'))
  obtain ⟨x0, x1, x2, x3, x4, hx⟩ := scV_form (scL T.data.toList)
  obtain ⟨hft, hff, rfl⟩ := fm_way (k := 4) (n := n) (s := s) hT (by rw [len_data]; exact h0) hx
  obtain ⟨FV, hFV⟩ : ∃ FV, fmV 4 s.data.toList n = FV := ⟨_, rfl⟩
  rw [hFV] at hft hff
  rw [hFV]
  rw [len_data] at hft hff
  have HFT := Lib.hid hft
  have HFF := Lib.hid hff
  have HTB := Lib.hid (bsB_of (s := T) rfl)
  have hB0 := below_al (Below.refl w.heap.size w) (.cells #[.int .i64 4, .string s, .int .i64 n, .int .i64 a] 27)
  have HZ := Lib.hid (World.alloc_heap_new w (.cells #[.int .i64 4, .string s, .int .i64 n, .int .i64 a] 27))
  have HB := Lib.hid hB0
  have HLD := Lib.hid (hL.up hB0)
  have he := notEmpty h0
  have KS := Lib.hid (fun W (hW : Laid W) => (by have h := scan_any T hs1 h0 W hW; rw [hx] at h; exact h : Calls Tryz.prog 18 #[.string T] W fun e w' => e = .returned (.tuple #[.agg #[.int .i64 x0, .string x1, .int .i64 x2, .int .i64 0], .int .i64 x4]) ∧ Below W.heap.size W w'))
  clear hL hx hB0 hft hff hFV hT
  clear hUU hzz
  go_enter Tryz.func9, Tryz.ntmps9
  go_upto_region 1 with fail
  generalize w.alloc (.cells #[.int .i64 4, .string s, .int .i64 n, .int .i64 a] 27) = W0 at HZ HB HLD ⊢
  obtain ⟨⟨z0, z1, z2, z3⟩, fz, yz⟩ := four_cellsT HZ.out
  go_wp2_with (first | (go_at_call 22; refine (KC.out _ HLD.out).mono ?_; rintro e w1 ⟨rfl, hb⟩; have HLD := Lib.hid (HLD.out.up hb); have HB := Lib.hid (below_on HB.out hb); have HZ := Lib.hid ((hb.block _ (lt_heap HZ.out)).trans HZ.out); obtain ⟨⟨z0, z1, z2, z3⟩, fz, yz⟩ := four_cellsT HZ.out; clear hb) | (go_at_call 18; refine (KS.out _ HLD.out).mono ?_; rintro e w1 ⟨rfl, hb⟩; have HB2 := Lib.hid (below_on HB.out hb); have HZ2 := Lib.hid ((hb.block _ (lt_heap HZ.out)).trans HZ.out); obtain ⟨⟨y0, y1, y2, y3⟩, fy, yy⟩ := four_cellsT HZ2.out; clear hb))
  all_goals
    go_ret2
    refine ⟨?_, below_al (below_st HB2.out (Nat.le_refl _) _) _⟩
    first
    | (have hh := HFF.out (by rintro ⟨h1, h2, h3, h4⟩; first | contradiction | omega); rw [hh]; rfl)
    | (have hh := HFT.out (by assumption) (by assumption) (by assumption) (by assumption); rw [hh, ← HTB.out]; rfl)

set_option maxRecDepth 100000 in
set_option maxHeartbeats 2000000 in
theorem fmt_5 (n a : Int) (s : ByteArray) (hs : s.size ≤ 1048576) (w : World) (hL : Laid w) : Calls Tryz.prog 9 #[.agg #[.int .i64 5, .string s, .int .i64 n, .int .i64 a]] w fun e w' => e = .returned (fmV 5 s.data.toList n) ∧ Below w.heap.size w w' := by
  obtain ⟨T, hTT⟩ : ∃ T, bsB (quL s.data.toList) = T := ⟨_, rfl⟩
  have hT : txL 5 s.data.toList n = T.data.toList := by rw [← hTT]; rfl
  have hql := qt_len s.data.toList
  rw [len_data] at hql
  have hz : T.size = (s.data.toList.flatMap qtC).length + 2 := by rw [← hTT, bsB_size]; simp [quL]
  have h0 : 0 < T.size := by omega
  have hs1 : T.size ≤ 5000000 := by omega
  have KC := Lib.hid (fun W (hW : Laid W) => (by have h := quote_any s (by omega) W; rw [hTT] at h; exact h : Calls Tryz.prog 23 #[.string s] W fun e w' => e = .returned (.string T) ∧ Below W.heap.size W w'))
  obtain ⟨x0, x1, x2, x3, x4, hx⟩ := scV_form (scL T.data.toList)
  obtain ⟨hft, hff, rfl⟩ := fm_way (k := 5) (n := n) (s := s) hT (by rw [len_data]; exact h0) hx
  obtain ⟨FV, hFV⟩ : ∃ FV, fmV 5 s.data.toList n = FV := ⟨_, rfl⟩
  rw [hFV] at hft hff
  rw [hFV]
  rw [len_data] at hft hff
  have HFT := Lib.hid hft
  have HFF := Lib.hid hff
  have HTB := Lib.hid (bsB_of (s := T) rfl)
  have hB0 := below_al (Below.refl w.heap.size w) (.cells #[.int .i64 5, .string s, .int .i64 n, .int .i64 a] 27)
  have HZ := Lib.hid (World.alloc_heap_new w (.cells #[.int .i64 5, .string s, .int .i64 n, .int .i64 a] 27))
  have HB := Lib.hid hB0
  have HLD := Lib.hid (hL.up hB0)
  have he := notEmpty h0
  have KS := Lib.hid (fun W (hW : Laid W) => (by have h := scan_any T hs1 h0 W hW; rw [hx] at h; exact h : Calls Tryz.prog 18 #[.string T] W fun e w' => e = .returned (.tuple #[.agg #[.int .i64 x0, .string x1, .int .i64 x2, .int .i64 0], .int .i64 x4]) ∧ Below W.heap.size W w'))
  clear hL hx hB0 hft hff hFV hT
  clear hTT hz hql
  go_enter Tryz.func9, Tryz.ntmps9
  go_upto_region 1 with fail
  generalize w.alloc (.cells #[.int .i64 5, .string s, .int .i64 n, .int .i64 a] 27) = W0 at HZ HB HLD ⊢
  obtain ⟨⟨z0, z1, z2, z3⟩, fz, yz⟩ := four_cellsT HZ.out
  go_wp2_with (first | (go_at_call 23; refine (KC.out _ HLD.out).mono ?_; rintro e w1 ⟨rfl, hb⟩; have HLD := Lib.hid (HLD.out.up hb); have HB := Lib.hid (below_on HB.out hb); have HZ := Lib.hid ((hb.block _ (lt_heap HZ.out)).trans HZ.out); obtain ⟨⟨z0, z1, z2, z3⟩, fz, yz⟩ := four_cellsT HZ.out; clear hb) | (go_at_call 18; refine (KS.out _ HLD.out).mono ?_; rintro e w1 ⟨rfl, hb⟩; have HB2 := Lib.hid (below_on HB.out hb); have HZ2 := Lib.hid ((hb.block _ (lt_heap HZ.out)).trans HZ.out); obtain ⟨⟨y0, y1, y2, y3⟩, fy, yy⟩ := four_cellsT HZ2.out; clear hb))
  all_goals
    go_ret2
    refine ⟨?_, below_al (below_st HB2.out (Nat.le_refl _) _) _⟩
    first
    | (have hh := HFF.out (by rintro ⟨h1, h2, h3, h4⟩; first | contradiction | omega); rw [hh]; rfl)
    | (have hh := HFT.out (by assumption) (by assumption) (by assumption) (by assumption); rw [hh, ← HTB.out]; rfl)

end Go.Proofs.YtfpdnhbbbadegaaGreatDoor
