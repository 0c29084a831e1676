/- Layer 53, the reference: valid. (gen/tj.py) -/
import Derived.Test.YtfpdnhbbbadegaaGreatDoorTf
import Derived.Test.YtfpdnhbbbadegaaGreatDoorYd
namespace Go.Proofs.YtfpdnhbbbadegaaGreatDoor
open Go.ChangeShapes Go.WideShapes Go.ChangeAt Go.RowKit Go.PlainAid
set_option linter.unusedSimpArgs false
set_option linter.unusedVariables false

/-- a possible token -/
def Kd (t : Sc) : Prop :=
    (t.k = 1 ∧ clsT t.s = true ∧ kwB t.s = false ∧ t.n = 0) ∨ (t.k = 2 ∧ t.s ∈ kwL ∧ t.n = 0) ∨ (t.k = 3 ∧ t.s = [] ∧ ∃ u : Nat, t.n = u ∧ u < 2147483648) ∨ (t.k = 4 ∧ t.s = [] ∧ ∃ u : Nat, t.n = u ∧ u < 9223372036854775808) ∨
    (t.k = 5 ∧ t.s.length ≤ 1024 ∧ t.n = 0) ∨ (t.k = 6 ∧ t.s ∈ opL ∧ t.n = 0)
theorem kd_text {t : Sc} (h : Kd t) : scL (txL t.k t.s t.n) = some ⟨t.k, t.s, t.n, (txL t.k t.s t.n).length⟩ ∧ txL t.k t.s t.n ≠ [] := by
  rcases h with ⟨hk, hc, hw, hn⟩ | ⟨hk, hw, hn⟩ | ⟨hk, hs, u, hu, hb⟩ | ⟨hk, hs, u, hu, hb⟩ | ⟨hk, hl, hn⟩ | ⟨hk, hw, hn⟩
  · have hcl : clsL t.s = true := by unfold clsT at hc; rw [Bool.and_eq_true] at hc; exact hc.2
    have e : txL t.k t.s t.n = rpL t.s := by unfold txL; rw [hk, if_pos rfl]
    have hf := cls_first hcl
    obtain ⟨k1, k2⟩ := nmT_text hcl
    rw [e, scl_lt hf, hk, hn]
    refine ⟨?_, by obtain ⟨c, r, hr, _⟩ := hf; rw [hr]; simp⟩
    unfold scNm
    rw [k1, k2, if_pos hc, if_neg (by rw [hw]; decide)]
  · have e : txL t.k t.s t.n = t.s := by unfold txL; rw [hk, if_neg (by decide), if_neg (by decide), if_neg (by decide), if_neg (by decide)]
    rw [e, hk, hn]
    exact ⟨Sc.of_tup (kw_sc _ hw), kw_ne _ hw⟩
  · have e : txL t.k t.s t.n = Lib.itoa (u : Int) := by unfold txL; rw [hk, hu, if_neg (by decide), if_pos rfl]
    have hf := num_first u (by omega) []
    rw [List.append_nil] at hf
    rw [e, scl_dg hf, hk, hs, hu]
    exact ⟨int_text hb, by obtain ⟨c, r, hr, _⟩ := hf; rw [hr]; simp⟩
  · have e : txL t.k t.s t.n = Lib.itoa (u : Int) ++ [76] := by unfold txL; rw [hk, hu, if_neg (by decide), if_neg (by decide), if_pos rfl]
    have hf := num_first u hb [76]
    rw [e, scl_dg hf, hk, hs, hu]
    exact ⟨long_text hb, by simp⟩
  · have e : txL t.k t.s t.n = quL t.s := by unfold txL; rw [hk, if_neg (by decide), if_neg (by decide), if_neg (by decide), if_pos rfl]
    rw [e, scl_st, hk, hn]
    exact ⟨str_text hl, by unfold quL; simp⟩
  · have e : txL t.k t.s t.n = t.s := by unfold txL; rw [hk, if_neg (by decide), if_neg (by decide), if_neg (by decide), if_neg (by decide)]
    rw [e, hk, hn]
    exact ⟨Sc.of_tup (op_sc _ hw), op_ne _ hw⟩

theorem kd_fmt {k n : Int} {s : List UInt8} (h : Kd ⟨k, s, n, 0⟩) : fmB k s n = true := by
  unfold fmB
  rw [(kd_text h).1]
  simp
theorem fmt_kd {k n : Int} {s : List UInt8} (h : fmB k s n = true) : Kd ⟨k, s, n, 0⟩ := by
  have := sc_kind (fm_sc h)
  exact this
theorem fm_not {k n : Int} {s : List UInt8} (h : ¬ Kd ⟨k, s, n, 0⟩) : fmB k s n = false := by
  rw [Bool.eq_false_iff]
  exact fun hf => h (fmt_kd hf)
theorem kw_iff (s : List UInt8) : kwB s = true ↔ s ∈ kwL := by unfold kwB; simp
def opB (t : List UInt8) : Bool := opL.contains t
theorem op_iff (s : List UInt8) : opB s = true ↔ s ∈ opL := by unfold opB; simp
theorem cls_nil : clsT [] = false := by decide
theorem rhas_kw {W : World} {g : Nat} (h : ∀ (k : Nat) (x : List UInt8), kwL[k]? = some x → W.cell? ⟨g, k, none⟩ = some (.string (bsB x))) (t : ByteArray) :
    Calls Tryz.prog 54 #[.slice (some ⟨g, 0, none⟩) 28 28, .string t] W fun e w' => e = .returned (.bool (kwB t.data.toList)) ∧ W = w' := rhas_any (n := 28) (c := 28) (L := kwL) rfl (by decide) h t
theorem rhas_op {W : World} {g : Nat} (h : ∀ (k : Nat) (x : List UInt8), opL[k]? = some x → W.cell? ⟨g, k, none⟩ = some (.string (bsB x))) (t : ByteArray) :
    Calls Tryz.prog 54 #[.slice (some ⟨g, 0, none⟩) 30 30, .string t] W fun e w' => e = .returned (.bool (opB t.data.toList)) ∧ W = w' := rhas_any (n := 30) (c := 30) (L := opL) rfl (by decide) h t
set_option maxRecDepth 100000 in
set_option maxHeartbeats 4000000 in
theorem rval_3 (n a : Int) (s : ByteArray) (hs : s.size ≤ 1048576) (w : World) : Calls Tryz.prog 24 #[.agg #[.int .i64 3, .string s, .int .i64 n, .int .i64 a]] w fun e w' => e = .returned (.bool (fmB 3 s.data.toList n)) ∧ Below w.heap.size w w' := by
  have HZ := Lib.hid (World.alloc_heap_new w (.cells #[.int .i64 3, .string s, .int .i64 n, .int .i64 a] 27))
  have HB := Lib.hid (below_al (Below.refl w.heap.size w) (.cells #[.int .i64 3, .string s, .int .i64 n, .int .i64 a] 27))
  by_cases h0 : s.size = 0
  · have hsn : s.data.toList = [] := by have := empty_data h0; rwa [Lib.toList_data] at this
    have hne : s.toList.isEmpty = true := by rw [Lib.toList_data, hsn]; rfl
    have HSN := Lib.hid hsn
    clear hsn
    by_cases h1 : 0 ≤ n ∧ n ≤ 2147483647
    · obtain ⟨h1, h2⟩ := h1
      have HV := Lib.hid (show fmB 3 s.data.toList n = true from kd_fmt (Or.inr (Or.inr (Or.inl ⟨rfl, HSN.out, n.toNat, by simp only; omega, by omega⟩))))
      go_enter Tryz.func24, Tryz.ntmps24
      go_upto_region 1 with fail
      generalize w.alloc (.cells #[.int .i64 3, .string s, .int .i64 n, .int .i64 a] 27) = W0 at HZ HB ⊢
      obtain ⟨⟨z0, z1, z2, z3⟩, fz, yz⟩ := four_cellsT HZ.out
      go_wp2
      go_ret
      exact ⟨by rw [HV.out]; first | rfl | simp, HB.out⟩
    · have HV := Lib.hid (show fmB 3 s.data.toList n = false from fm_not (by
        rintro (⟨h, _⟩ | ⟨h, _⟩ | ⟨_, _, u, h, h2⟩ | ⟨h, _⟩ | ⟨h, _⟩ | ⟨h, _⟩)
        · cases h
        · cases h
        · simp only at h; omega
        · cases h
        · cases h
        · cases h))
      by_cases h2 : 0 ≤ n
      · have h3 : decide (n ≤ (2147483647 : Int)) = false := decide_eq_false (by omega)
        go_enter Tryz.func24, Tryz.ntmps24
        go_upto_region 1 with fail
        generalize w.alloc (.cells #[.int .i64 3, .string s, .int .i64 n, .int .i64 a] 27) = W0 at HZ HB ⊢
        obtain ⟨⟨z0, z1, z2, z3⟩, fz, yz⟩ := four_cellsT HZ.out
        go_wp2
        go_ret
        exact ⟨by rw [HV.out]; first | rfl | simp, HB.out⟩
      · have h3 : decide ((0 : Int) ≤ n) = false := decide_eq_false h2
        go_enter Tryz.func24, Tryz.ntmps24
        go_upto_region 1 with fail
        generalize w.alloc (.cells #[.int .i64 3, .string s, .int .i64 n, .int .i64 a] 27) = W0 at HZ HB ⊢
        obtain ⟨⟨z0, z1, z2, z3⟩, fz, yz⟩ := four_cellsT HZ.out
        go_wp2
        go_ret
        exact ⟨by rw [HV.out]; first | rfl | simp, HB.out⟩
  · have hne := notEmpty (T := s) (by omega)
    have hnl : s.data.toList ≠ [] := fun e => by have := len_data s; rw [e] at this; simp at this; omega
    have HV := Lib.hid (show fmB 3 s.data.toList n = false from fm_not (by
      rintro (⟨h, _⟩ | ⟨h, _⟩ | ⟨_, h, _⟩ | ⟨h, _⟩ | ⟨h, _⟩ | ⟨h, _⟩)
      · cases h
      · cases h
      · exact hnl h
      · cases h
      · cases h
      · cases h))
    go_enter Tryz.func24, Tryz.ntmps24
    go_upto_region 1 with fail
    generalize w.alloc (.cells #[.int .i64 3, .string s, .int .i64 n, .int .i64 a] 27) = W0 at HZ HB ⊢
    obtain ⟨⟨z0, z1, z2, z3⟩, fz, yz⟩ := four_cellsT HZ.out
    go_wp2
    go_ret
    exact ⟨by rw [HV.out]; first | rfl | simp, HB.out⟩
set_option maxRecDepth 100000 in
set_option maxHeartbeats 4000000 in
theorem rval_4 (n a : Int) (s : ByteArray) (hs : s.size ≤ 1048576) (hn1 : n ≤ 9223372036854775807) (w : World) : Calls Tryz.prog 24 #[.agg #[.int .i64 4, .string s, .int .i64 n, .int .i64 a]] w fun e w' => e = .returned (.bool (fmB 4 s.data.toList n)) ∧ Below w.heap.size w w' := by
  have HZ := Lib.hid (World.alloc_heap_new w (.cells #[.int .i64 4, .string s, .int .i64 n, .int .i64 a] 27))
  have HB := Lib.hid (below_al (Below.refl w.heap.size w) (.cells #[.int .i64 4, .string s, .int .i64 n, .int .i64 a] 27))
  by_cases h0 : s.size = 0
  · have hsn : s.data.toList = [] := by have := empty_data h0; rwa [Lib.toList_data] at this
    have hne : s.toList.isEmpty = true := by rw [Lib.toList_data, hsn]; rfl
    have HSN := Lib.hid hsn
    clear hsn
    by_cases h1 : 0 ≤ n
    · have HV := Lib.hid (show fmB 4 s.data.toList n = true from kd_fmt (Or.inr (Or.inr (Or.inr (Or.inl ⟨rfl, HSN.out, n.toNat, by simp only; omega, by omega⟩)))))
      go_enter Tryz.func24, Tryz.ntmps24
      go_upto_region 1 with fail
      generalize w.alloc (.cells #[.int .i64 4, .string s, .int .i64 n, .int .i64 a] 27) = W0 at HZ HB ⊢
      obtain ⟨⟨z0, z1, z2, z3⟩, fz, yz⟩ := four_cellsT HZ.out
      go_wp2
      go_ret
      exact ⟨by rw [HV.out]; first | rfl | simp, HB.out⟩
    · have HV := Lib.hid (show fmB 4 s.data.toList n = false from fm_not (by
        rintro (⟨h, _⟩ | ⟨h, _⟩ | ⟨h, _⟩ | ⟨_, _, u, h, h2⟩ | ⟨h, _⟩ | ⟨h, _⟩)
        · cases h
        · cases h
        · cases h
        · simp only at h; omega
        · cases h
        · cases h))
      have h3 : decide ((0 : Int) ≤ n) = false := decide_eq_false h1
      go_enter Tryz.func24, Tryz.ntmps24
      go_upto_region 1 with fail
      generalize w.alloc (.cells #[.int .i64 4, .string s, .int .i64 n, .int .i64 a] 27) = W0 at HZ HB ⊢
      obtain ⟨⟨z0, z1, z2, z3⟩, fz, yz⟩ := four_cellsT HZ.out
      go_wp2
      go_ret
      exact ⟨by rw [HV.out]; first | rfl | simp, HB.out⟩
  · have hne := notEmpty (T := s) (by omega)
    have hnl : s.data.toList ≠ [] := fun e => by have := len_data s; rw [e] at this; simp at this; omega
    have HV := Lib.hid (show fmB 4 s.data.toList n = false from fm_not (by
      rintro (⟨h, _⟩ | ⟨h, _⟩ | ⟨h, _⟩ | ⟨_, h, _⟩ | ⟨h, _⟩ | ⟨h, _⟩)
      · cases h
      · cases h
      · cases h
      · exact hnl h
      · cases h
      · cases h))
    go_enter Tryz.func24, Tryz.ntmps24
    go_upto_region 1 with fail
    generalize w.alloc (.cells #[.int .i64 4, .string s, .int .i64 n, .int .i64 a] 27) = W0 at HZ HB ⊢
    obtain ⟨⟨z0, z1, z2, z3⟩, fz, yz⟩ := four_cellsT HZ.out
    go_wp2
    go_ret
    exact ⟨by rw [HV.out]; first | rfl | simp, HB.out⟩
set_option maxRecDepth 100000 in
set_option maxHeartbeats 4000000 in
theorem rval_5 (n a : Int) (s : ByteArray) (hs : s.size ≤ 1048576) (w : World) : Calls Tryz.prog 24 #[.agg #[.int .i64 5, .string s, .int .i64 n, .int .i64 a]] w fun e w' => e = .returned (.bool (fmB 5 s.data.toList n)) ∧ Below w.heap.size w w' := by
  have HZ := Lib.hid (World.alloc_heap_new w (.cells #[.int .i64 5, .string s, .int .i64 n, .int .i64 a] 27))
  have HB := Lib.hid (below_al (Below.refl w.heap.size w) (.cells #[.int .i64 5, .string s, .int .i64 n, .int .i64 a] 27))
  by_cases h0 : s.size = 0
  · have hsn : s.data.toList = [] := by have := empty_data h0; rwa [Lib.toList_data] at this
    have hne : s.toList.isEmpty = true := by rw [Lib.toList_data, hsn]; rfl
    have HSN := Lib.hid hsn
    clear hsn
    by_cases h1 : n = 0
    · have e1 : (n == 0) = true := by simpa using h1
      have h2i : (s.size : Int) ≤ 1024 := by omega
      have HV := Lib.hid (show fmB 5 s.data.toList n = true from kd_fmt (Or.inr (Or.inr (Or.inr (Or.inr (Or.inl ⟨rfl, by simp only; rw [HSN.out]; decide, h1⟩))))))
      clear h1
      go_enter Tryz.func24, Tryz.ntmps24
      go_upto_region 1 with fail
      generalize w.alloc (.cells #[.int .i64 5, .string s, .int .i64 n, .int .i64 a] 27) = W0 at HZ HB ⊢
      obtain ⟨⟨z0, z1, z2, z3⟩, fz, yz⟩ := four_cellsT HZ.out
      go_wp2
      go_ret
      exact ⟨by rw [HV.out]; first | rfl | simp, HB.out⟩
    · have e1 : (n == 0) = false := by simpa using h1
      have HV := Lib.hid (show fmB 5 s.data.toList n = false from fm_not (by
        rintro (⟨h, _⟩ | ⟨h, _⟩ | ⟨h, _⟩ | ⟨h, _⟩ | ⟨_, _, h⟩ | ⟨h, _⟩)
        · cases h
        · cases h
        · cases h
        · cases h
        · exact h1 h
        · cases h))
      clear h1
      go_enter Tryz.func24, Tryz.ntmps24
      go_upto_region 1 with fail
      generalize w.alloc (.cells #[.int .i64 5, .string s, .int .i64 n, .int .i64 a] 27) = W0 at HZ HB ⊢
      obtain ⟨⟨z0, z1, z2, z3⟩, fz, yz⟩ := four_cellsT HZ.out
      go_wp2
      go_ret
      exact ⟨by rw [HV.out]; first | rfl | simp, HB.out⟩
  · have hne := notEmpty (T := s) (by omega)
    have hnl : s.data.toList ≠ [] := fun e => by have := len_data s; rw [e] at this; simp at this; omega
    by_cases h1 : n = 0
    · have e1 : (n == 0) = true := by simpa using h1
      by_cases h2 : s.size ≤ 1024
      · have h2i : (s.size : Int) ≤ 1024 := by omega
        have HV := Lib.hid (show fmB 5 s.data.toList n = true from kd_fmt (Or.inr (Or.inr (Or.inr (Or.inr (Or.inl ⟨rfl, by simp only; rw [len_data]; exact h2, h1⟩))))))
        clear h2 h1
        go_enter Tryz.func24, Tryz.ntmps24
        go_upto_region 1 with fail
        generalize w.alloc (.cells #[.int .i64 5, .string s, .int .i64 n, .int .i64 a] 27) = W0 at HZ HB ⊢
        obtain ⟨⟨z0, z1, z2, z3⟩, fz, yz⟩ := four_cellsT HZ.out
        go_wp2
        go_ret
        exact ⟨by rw [HV.out]; first | rfl | simp, HB.out⟩
      · have h2i : decide ((s.size : Int) ≤ 1024) = false := decide_eq_false (by omega)
        have h2j : decide (s.size ≤ 1024) = false := decide_eq_false (by omega)
        have HV := Lib.hid (show fmB 5 s.data.toList n = false from fm_not (by
          rintro (⟨h, _⟩ | ⟨h, _⟩ | ⟨h, _⟩ | ⟨h, _⟩ | ⟨_, h, _⟩ | ⟨h, _⟩)
          · cases h
          · cases h
          · cases h
          · cases h
          · simp only at h; rw [len_data] at h; omega
          · cases h))
        clear h2 h1
        go_enter Tryz.func24, Tryz.ntmps24
        go_upto_region 1 with fail
        generalize w.alloc (.cells #[.int .i64 5, .string s, .int .i64 n, .int .i64 a] 27) = W0 at HZ HB ⊢
        obtain ⟨⟨z0, z1, z2, z3⟩, fz, yz⟩ := four_cellsT HZ.out
        go_wp2
        go_ret
        exact ⟨by rw [HV.out]; first | rfl | simp, HB.out⟩
    · have e1 : (n == 0) = false := by simpa using h1
      have HV := Lib.hid (show fmB 5 s.data.toList n = false from fm_not (by
        rintro (⟨h, _⟩ | ⟨h, _⟩ | ⟨h, _⟩ | ⟨h, _⟩ | ⟨_, _, h⟩ | ⟨h, _⟩)
        · cases h
        · cases h
        · cases h
        · cases h
        · exact h1 h
        · cases h))
      clear h1
      go_enter Tryz.func24, Tryz.ntmps24
      go_upto_region 1 with fail
      generalize w.alloc (.cells #[.int .i64 5, .string s, .int .i64 n, .int .i64 a] 27) = W0 at HZ HB ⊢
      obtain ⟨⟨z0, z1, z2, z3⟩, fz, yz⟩ := four_cellsT HZ.out
      go_wp2
      go_ret
      exact ⟨by rw [HV.out]; first | rfl | simp, HB.out⟩
set_option maxRecDepth 100000 in
set_option maxHeartbeats 4000000 in
theorem rval_1 (n a : Int) (s : ByteArray) (hs : s.size ≤ 1048576) (w : World) : Calls Tryz.prog 24 #[.agg #[.int .i64 1, .string s, .int .i64 n, .int .i64 a]] w fun e w' => e = .returned (.bool (fmB 1 s.data.toList n)) ∧ Below w.heap.size w w' := by
  have HZ := Lib.hid (World.alloc_heap_new w (.cells #[.int .i64 1, .string s, .int .i64 n, .int .i64 a] 27))
  have HB := Lib.hid (below_al (Below.refl w.heap.size w) (.cells #[.int .i64 1, .string s, .int .i64 n, .int .i64 a] 27))
  by_cases h0 : s.size = 0
  · have hsn : s.data.toList = [] := by have := empty_data h0; rwa [Lib.toList_data] at this
    have hne : s.toList.isEmpty = true := by rw [Lib.toList_data, hsn]; rfl
    have HSN := Lib.hid hsn
    clear hsn
    have HV := Lib.hid (show fmB 1 s.data.toList n = false from fm_not (by
      rintro (⟨_, h, _⟩ | ⟨h, _⟩ | ⟨h, _⟩ | ⟨h, _⟩ | ⟨h, _⟩ | ⟨h, _⟩)
      · simp only at h; rw [HSN.out, cls_nil] at h; cases h
      · cases h
      · cases h
      · cases h
      · cases h
      · cases h))
    go_enter Tryz.func24, Tryz.ntmps24
    go_upto_region 1 with fail
    generalize w.alloc (.cells #[.int .i64 1, .string s, .int .i64 n, .int .i64 a] 27) = W0 at HZ HB ⊢
    obtain ⟨⟨z0, z1, z2, z3⟩, fz, yz⟩ := four_cellsT HZ.out
    go_wp2
    go_ret
    exact ⟨by rw [HV.out]; first | rfl | simp, HB.out⟩
  · have hne := notEmpty (T := s) (by omega)
    have hnl : s.data.toList ≠ [] := fun e => by have := len_data s; rw [e] at this; simp at this; omega
    have KC := Lib.hid (fun W => rcls_any s (by omega) W)
    have hcT := clsB_T s
    have hno : ¬ (clsT s.data.toList = true ∧ kwB s.data.toList = false ∧ n = 0) → fmB 1 s.data.toList n = false := fun hq => fm_not (by
      rintro (⟨_, h1, h2, h3⟩ | ⟨h, _⟩ | ⟨h, _⟩ | ⟨h, _⟩ | ⟨h, _⟩ | ⟨h, _⟩)
      · exact hq ⟨h1, h2, h3⟩
      · cases h
      · cases h
      · cases h
      · cases h
      · cases h)
    by_cases h1 : n = 0
    · have e1 : (n == 0) = true := by simpa using h1
      cases hc : clsB s with
      | false =>
        have HV := Lib.hid (hno (fun h => by rw [← hcT, hc] at h; cases h.1))
        rw [hc] at KC
        clear hno hcT hc hnl h1
        go_enter Tryz.func24, Tryz.ntmps24
        go_upto_region 1 with fail
        generalize w.alloc (.cells #[.int .i64 1, .string s, .int .i64 n, .int .i64 a] 27) = W0 at HZ HB ⊢
        obtain ⟨⟨z0, z1, z2, z3⟩, fz, yz⟩ := four_cellsT HZ.out
        go_upto_region 5 with fail
        go_quiet ((go_at_call 32; with_reducible exact Calls.quiet_of_same ((KC.out _).mono fun _ _ h => ⟨h.1, h.2.symm⟩)))
        go_wp2
        go_ret
        exact ⟨by rw [HV.out]; first | rfl | simp, below_dr HB.out _⟩
      | true =>
        rw [hc] at KC
        cases hk : kwB s.data.toList with
        | true =>
          have HV := Lib.hid (hno (fun h => by rw [hk] at h; cases h.2.1))
          clear hno hcT hc hnl h1
          go_enter Tryz.func24, Tryz.ntmps24
          go_upto_region 1 with fail
          generalize w.alloc (.cells #[.int .i64 1, .string s, .int .i64 n, .int .i64 a] 27) = W0 at HZ HB ⊢
          obtain ⟨⟨z0, z1, z2, z3⟩, fz, yz⟩ := four_cellsT HZ.out
          go_upto_region 5 with fail
          go_region_with (first | (go_at_call 32; refine (KC.out _).mono ?_; rintro e w9 ⟨rfl, rfl⟩) | (go_at_call 14; refine (rkws_any W0.drew).mono ?_; rintro e w9 ⟨rfl, hw9⟩; have HK2 := Lib.hid (show ∀ (k : Nat) (x : List UInt8), kwL[k]? = some x → w9.cell? ⟨W0.heap.size, k, none⟩ = some (.string (bsB x)) from hw9 ▸ kw_cells W0.drew); have HZ9 := Lib.hid (show w9.heap[w.heap.size]? = some (.cells #[.int .i64 1, .string s, .int .i64 n, .int .i64 a] 27) from hw9 ▸ laid_old (w := W0.drew) HZ.out); obtain ⟨⟨y0, y1, y2, y3⟩, fy, yy⟩ := four_cellsT HZ9.out; have HB9 := Lib.hid (show Below w.heap.size w w9 from hw9 ▸ below_al (below_dr HB.out 1) _); clear hw9) | (go_at_call 54; refine (rhas_kw HK2.out s).mono ?_; rintro e w8 ⟨rfl, rfl⟩))
          all_goals
            go_wp2
            go_ret
            exact ⟨by rw [HV.out]; first | rfl | simp, HB9.out⟩
        | false =>
          have HV := Lib.hid (show fmB 1 s.data.toList n = true from kd_fmt (Or.inl ⟨rfl, by simp only; rw [← hcT, hc], hk, h1⟩))
          clear hno hcT hc hnl h1
          go_enter Tryz.func24, Tryz.ntmps24
          go_upto_region 1 with fail
          generalize w.alloc (.cells #[.int .i64 1, .string s, .int .i64 n, .int .i64 a] 27) = W0 at HZ HB ⊢
          obtain ⟨⟨z0, z1, z2, z3⟩, fz, yz⟩ := four_cellsT HZ.out
          go_upto_region 5 with fail
          go_region_with (first | (go_at_call 32; refine (KC.out _).mono ?_; rintro e w9 ⟨rfl, rfl⟩) | (go_at_call 14; refine (rkws_any W0.drew).mono ?_; rintro e w9 ⟨rfl, hw9⟩; have HK2 := Lib.hid (show ∀ (k : Nat) (x : List UInt8), kwL[k]? = some x → w9.cell? ⟨W0.heap.size, k, none⟩ = some (.string (bsB x)) from hw9 ▸ kw_cells W0.drew); have HZ9 := Lib.hid (show w9.heap[w.heap.size]? = some (.cells #[.int .i64 1, .string s, .int .i64 n, .int .i64 a] 27) from hw9 ▸ laid_old (w := W0.drew) HZ.out); obtain ⟨⟨y0, y1, y2, y3⟩, fy, yy⟩ := four_cellsT HZ9.out; have HB9 := Lib.hid (show Below w.heap.size w w9 from hw9 ▸ below_al (below_dr HB.out 1) _); clear hw9) | (go_at_call 54; refine (rhas_kw HK2.out s).mono ?_; rintro e w8 ⟨rfl, rfl⟩))
          all_goals
            go_wp2
            go_ret
            exact ⟨by rw [HV.out]; first | rfl | simp, HB9.out⟩
    · have e1 : (n == 0) = false := by simpa using h1
      have HV := Lib.hid (hno (fun h => h1 h.2.2))
      clear hno hcT h1 hnl
      go_enter Tryz.func24, Tryz.ntmps24
      go_upto_region 1 with fail
      generalize w.alloc (.cells #[.int .i64 1, .string s, .int .i64 n, .int .i64 a] 27) = W0 at HZ HB ⊢
      obtain ⟨⟨z0, z1, z2, z3⟩, fz, yz⟩ := four_cellsT HZ.out
      go_upto_region 5 with fail
      go_quiet ((go_at_call 32; with_reducible exact Calls.quiet_of_same ((KC.out _).mono fun _ _ h => ⟨h.1, h.2.symm⟩)))
      go_wp2
      go_ret
      exact ⟨by rw [HV.out]; first | rfl | simp, below_dr HB.out _⟩
set_option maxRecDepth 100000 in
set_option maxHeartbeats 4000000 in
theorem rval_2 (n a : Int) (s : ByteArray) (hs : s.size ≤ 1048576) (w : World) : Calls Tryz.prog 24 #[.agg #[.int .i64 2, .string s, .int .i64 n, .int .i64 a]] w fun e w' => e = .returned (.bool (fmB 2 s.data.toList n)) ∧ Below w.heap.size w w' := by
  have HZ := Lib.hid (World.alloc_heap_new w (.cells #[.int .i64 2, .string s, .int .i64 n, .int .i64 a] 27))
  have HB := Lib.hid (below_al (Below.refl w.heap.size w) (.cells #[.int .i64 2, .string s, .int .i64 n, .int .i64 a] 27))
  by_cases h0 : s.size = 0
  · have hsn : s.data.toList = [] := by have := empty_data h0; rwa [Lib.toList_data] at this
    have hne : s.toList.isEmpty = true := by rw [Lib.toList_data, hsn]; rfl
    have HSN := Lib.hid hsn
    clear hsn
    have HV := Lib.hid (show fmB 2 s.data.toList n = false from fm_not (by
      rintro (⟨h, _⟩ | ⟨_, h1, h2⟩ | ⟨h, _⟩ | ⟨h, _⟩ | ⟨h, _⟩ | ⟨h, _⟩)
      · cases h
      · simp only at h1; rw [HSN.out] at h1; exact absurd h1 (by decide)
      · cases h
      · cases h
      · cases h
      · cases h
    ))
    go_enter Tryz.func24, Tryz.ntmps24
    go_upto_region 1 with fail
    generalize w.alloc (.cells #[.int .i64 2, .string s, .int .i64 n, .int .i64 a] 27) = W0 at HZ HB ⊢
    obtain ⟨⟨z0, z1, z2, z3⟩, fz, yz⟩ := four_cellsT HZ.out
    go_wp2
    go_ret
    exact ⟨by rw [HV.out]; first | rfl | simp, HB.out⟩
  · have hne := notEmpty (T := s) (by omega)
    have hnl : s.data.toList ≠ [] := fun e => by have := len_data s; rw [e] at this; simp at this; omega
    have hno : ¬ (kwB s.data.toList = true ∧ n = 0) → fmB 2 s.data.toList n = false := fun hq => fm_not (by
      rintro (⟨h, _⟩ | ⟨_, h1, h2⟩ | ⟨h, _⟩ | ⟨h, _⟩ | ⟨h, _⟩ | ⟨h, _⟩)
      · cases h
      · exact hq ⟨(kw_iff _).2 h1, h2⟩
      · cases h
      · cases h
      · cases h
      · cases h
    )
    by_cases h1 : n = 0
    · have e1 : (n == 0) = true := by simpa using h1
      cases hk : kwB s.data.toList with
      | true =>
        have HV := Lib.hid (show fmB 2 s.data.toList n = true from kd_fmt (Or.inr (Or.inl ⟨rfl, (kw_iff _).1 hk, h1⟩)))
        clear hno hnl h1
        go_enter Tryz.func24, Tryz.ntmps24
        go_upto_region 1 with fail
        generalize w.alloc (.cells #[.int .i64 2, .string s, .int .i64 n, .int .i64 a] 27) = W0 at HZ HB ⊢
        obtain ⟨⟨z0, z1, z2, z3⟩, fz, yz⟩ := four_cellsT HZ.out
        go_upto_region 7 with fail
        go_region_with (first | (go_at_call 14; refine (rkws_any W0.drew).mono ?_; rintro e w9 ⟨rfl, hw9⟩; have HK2 := Lib.hid (show ∀ (k : Nat) (x : List UInt8), kwL[k]? = some x → w9.cell? ⟨W0.heap.size, k, none⟩ = some (.string (bsB x)) from hw9 ▸ kw_cells W0.drew); have HZ9 := Lib.hid (show w9.heap[w.heap.size]? = some (.cells #[.int .i64 2, .string s, .int .i64 n, .int .i64 a] 27) from hw9 ▸ laid_old (w := W0.drew) HZ.out); obtain ⟨⟨y0, y1, y2, y3⟩, fy, yy⟩ := four_cellsT HZ9.out; have HB9 := Lib.hid (show Below w.heap.size w w9 from hw9 ▸ below_al (below_dr HB.out 1) _); clear hw9) | (go_at_call 54; refine (rhas_kw HK2.out s).mono ?_; rintro e w8 ⟨rfl, rfl⟩))
        all_goals
          go_wp2
          go_ret
          exact ⟨by rw [HV.out]; first | rfl | simp, HB9.out⟩
      | false =>
        have HV := Lib.hid (hno (fun h => by rw [hk] at h; cases h.1))
        clear hno hnl h1
        go_enter Tryz.func24, Tryz.ntmps24
        go_upto_region 1 with fail
        generalize w.alloc (.cells #[.int .i64 2, .string s, .int .i64 n, .int .i64 a] 27) = W0 at HZ HB ⊢
        obtain ⟨⟨z0, z1, z2, z3⟩, fz, yz⟩ := four_cellsT HZ.out
        go_upto_region 7 with fail
        go_region_with (first | (go_at_call 14; refine (rkws_any W0.drew).mono ?_; rintro e w9 ⟨rfl, hw9⟩; have HK2 := Lib.hid (show ∀ (k : Nat) (x : List UInt8), kwL[k]? = some x → w9.cell? ⟨W0.heap.size, k, none⟩ = some (.string (bsB x)) from hw9 ▸ kw_cells W0.drew); have HZ9 := Lib.hid (show w9.heap[w.heap.size]? = some (.cells #[.int .i64 2, .string s, .int .i64 n, .int .i64 a] 27) from hw9 ▸ laid_old (w := W0.drew) HZ.out); obtain ⟨⟨y0, y1, y2, y3⟩, fy, yy⟩ := four_cellsT HZ9.out; have HB9 := Lib.hid (show Below w.heap.size w w9 from hw9 ▸ below_al (below_dr HB.out 1) _); clear hw9) | (go_at_call 54; refine (rhas_kw HK2.out s).mono ?_; rintro e w8 ⟨rfl, rfl⟩))
        all_goals
          go_wp2
          go_ret
          exact ⟨by rw [HV.out]; first | rfl | simp, HB9.out⟩
    · have e1 : (n == 0) = false := by simpa using h1
      have HV := Lib.hid (hno (fun h => h1 h.2))
      have KC := Lib.hid (fun W => rcls_any s (by omega) W)
      clear hno h1 hnl
      go_enter Tryz.func24, Tryz.ntmps24
      go_upto_region 1 with fail
      generalize w.alloc (.cells #[.int .i64 2, .string s, .int .i64 n, .int .i64 a] 27) = W0 at HZ HB ⊢
      obtain ⟨⟨z0, z1, z2, z3⟩, fz, yz⟩ := four_cellsT HZ.out
      go_upto_region 7 with fail
      go_quiet ((go_at_call 32; with_reducible exact Calls.quiet_of_same ((KC.out _).mono fun _ _ h => ⟨h.1, h.2.symm⟩)))
      go_wp2
      go_ret
      exact ⟨by rw [HV.out]; first | rfl | simp, below_dr HB.out _⟩
set_option maxRecDepth 100000 in
set_option maxHeartbeats 4000000 in
theorem rval_6 (n a : Int) (s : ByteArray) (hs : s.size ≤ 1048576) (w : World) : Calls Tryz.prog 24 #[.agg #[.int .i64 6, .string s, .int .i64 n, .int .i64 a]] w fun e w' => e = .returned (.bool (fmB 6 s.data.toList n)) ∧ Below w.heap.size w w' := by
  have HZ := Lib.hid (World.alloc_heap_new w (.cells #[.int .i64 6, .string s, .int .i64 n, .int .i64 a] 27))
  have HB := Lib.hid (below_al (Below.refl w.heap.size w) (.cells #[.int .i64 6, .string s, .int .i64 n, .int .i64 a] 27))
  by_cases h0 : s.size = 0
  · have hsn : s.data.toList = [] := by have := empty_data h0; rwa [Lib.toList_data] at this
    have hne : s.toList.isEmpty = true := by rw [Lib.toList_data, hsn]; rfl
    have HSN := Lib.hid hsn
    clear hsn
    have HV := Lib.hid (show fmB 6 s.data.toList n = false from fm_not (by
      rintro (⟨h, _⟩ | ⟨h, _⟩ | ⟨h, _⟩ | ⟨h, _⟩ | ⟨h, _⟩ | ⟨_, h1, h2⟩)
      · cases h
      · cases h
      · cases h
      · cases h
      · cases h
      · simp only at h1; rw [HSN.out] at h1; exact absurd h1 (by decide)
    ))
    go_enter Tryz.func24, Tryz.ntmps24
    go_upto_region 1 with fail
    generalize w.alloc (.cells #[.int .i64 6, .string s, .int .i64 n, .int .i64 a] 27) = W0 at HZ HB ⊢
    obtain ⟨⟨z0, z1, z2, z3⟩, fz, yz⟩ := four_cellsT HZ.out
    go_wp2
    go_ret
    exact ⟨by rw [HV.out]; first | rfl | simp, HB.out⟩
  · have hne := notEmpty (T := s) (by omega)
    have hnl : s.data.toList ≠ [] := fun e => by have := len_data s; rw [e] at this; simp at this; omega
    have hno : ¬ (opB s.data.toList = true ∧ n = 0) → fmB 6 s.data.toList n = false := fun hq => fm_not (by
      rintro (⟨h, _⟩ | ⟨h, _⟩ | ⟨h, _⟩ | ⟨h, _⟩ | ⟨h, _⟩ | ⟨_, h1, h2⟩)
      · cases h
      · cases h
      · cases h
      · cases h
      · cases h
      · exact hq ⟨(op_iff _).2 h1, h2⟩
    )
    by_cases h1 : n = 0
    · have e1 : (n == 0) = true := by simpa using h1
      cases hk : opB s.data.toList with
      | true =>
        have HV := Lib.hid (show fmB 6 s.data.toList n = true from kd_fmt (Or.inr (Or.inr (Or.inr (Or.inr (Or.inr ⟨rfl, (op_iff _).1 hk, h1⟩))))))
        clear hno hnl h1
        go_enter Tryz.func24, Tryz.ntmps24
        go_upto_region 1 with fail
        generalize w.alloc (.cells #[.int .i64 6, .string s, .int .i64 n, .int .i64 a] 27) = W0 at HZ HB ⊢
        obtain ⟨⟨z0, z1, z2, z3⟩, fz, yz⟩ := four_cellsT HZ.out
        go_upto_region 15 with fail
        go_region_with (first | (go_at_call 55; refine (rsigns_any W0.drew).mono ?_; rintro e w9 ⟨rfl, hw9⟩; have HK2 := Lib.hid (show ∀ (k : Nat) (x : List UInt8), opL[k]? = some x → w9.cell? ⟨W0.heap.size, k, none⟩ = some (.string (bsB x)) from hw9 ▸ op_cells W0.drew); have HZ9 := Lib.hid (show w9.heap[w.heap.size]? = some (.cells #[.int .i64 6, .string s, .int .i64 n, .int .i64 a] 27) from hw9 ▸ laid_old (w := W0.drew) HZ.out); obtain ⟨⟨y0, y1, y2, y3⟩, fy, yy⟩ := four_cellsT HZ9.out; have HB9 := Lib.hid (show Below w.heap.size w w9 from hw9 ▸ below_al (below_dr HB.out 1) _); clear hw9) | (go_at_call 54; refine (rhas_op HK2.out s).mono ?_; rintro e w8 ⟨rfl, rfl⟩))
        all_goals
          go_wp2
          go_ret
          exact ⟨by rw [HV.out]; first | rfl | simp, HB9.out⟩
      | false =>
        have HV := Lib.hid (hno (fun h => by rw [hk] at h; cases h.1))
        clear hno hnl h1
        go_enter Tryz.func24, Tryz.ntmps24
        go_upto_region 1 with fail
        generalize w.alloc (.cells #[.int .i64 6, .string s, .int .i64 n, .int .i64 a] 27) = W0 at HZ HB ⊢
        obtain ⟨⟨z0, z1, z2, z3⟩, fz, yz⟩ := four_cellsT HZ.out
        go_upto_region 15 with fail
        go_region_with (first | (go_at_call 55; refine (rsigns_any W0.drew).mono ?_; rintro e w9 ⟨rfl, hw9⟩; have HK2 := Lib.hid (show ∀ (k : Nat) (x : List UInt8), opL[k]? = some x → w9.cell? ⟨W0.heap.size, k, none⟩ = some (.string (bsB x)) from hw9 ▸ op_cells W0.drew); have HZ9 := Lib.hid (show w9.heap[w.heap.size]? = some (.cells #[.int .i64 6, .string s, .int .i64 n, .int .i64 a] 27) from hw9 ▸ laid_old (w := W0.drew) HZ.out); obtain ⟨⟨y0, y1, y2, y3⟩, fy, yy⟩ := four_cellsT HZ9.out; have HB9 := Lib.hid (show Below w.heap.size w w9 from hw9 ▸ below_al (below_dr HB.out 1) _); clear hw9) | (go_at_call 54; refine (rhas_op HK2.out s).mono ?_; rintro e w8 ⟨rfl, rfl⟩))
        all_goals
          go_wp2
          go_ret
          exact ⟨by rw [HV.out]; first | rfl | simp, HB9.out⟩
    · have e1 : (n == 0) = false := by simpa using h1
      have HV := Lib.hid (hno (fun h => h1 h.2))
      have KC := Lib.hid (fun W => rcls_any s (by omega) W)
      clear hno h1 hnl
      go_enter Tryz.func24, Tryz.ntmps24
      go_upto_region 1 with fail
      generalize w.alloc (.cells #[.int .i64 6, .string s, .int .i64 n, .int .i64 a] 27) = W0 at HZ HB ⊢
      obtain ⟨⟨z0, z1, z2, z3⟩, fz, yz⟩ := four_cellsT HZ.out
      go_upto_region 15 with fail
      go_quiet ((go_at_call 32; with_reducible exact Calls.quiet_of_same ((KC.out _).mono fun _ _ h => ⟨h.1, h.2.symm⟩)))
      go_wp2
      go_ret
      exact ⟨by rw [HV.out]; first | rfl | simp, below_dr HB.out _⟩
set_option maxRecDepth 100000 in
set_option maxHeartbeats 4000000 in
theorem rval_no (k n a : Int) (s : ByteArray) (hs : s.size ≤ 1048576) (h1 : k ≠ 1) (h2 : k ≠ 2) (h3 : k ≠ 3) (h4 : k ≠ 4) (h5 : k ≠ 5) (h6 : k ≠ 6) (w : World) : Calls Tryz.prog 24 #[.agg #[.int .i64 k, .string s, .int .i64 n, .int .i64 a]] w fun e w' => e = .returned (.bool (fmB k s.data.toList n)) ∧ Below w.heap.size w w' := by
  have HZ := Lib.hid (World.alloc_heap_new w (.cells #[.int .i64 k, .string s, .int .i64 n, .int .i64 a] 27))
  have HB := Lib.hid (below_al (Below.refl w.heap.size w) (.cells #[.int .i64 k, .string s, .int .i64 n, .int .i64 a] 27))
  have e1 : (k == 1) = false := by simpa using h1
  have e2 : (k == 2) = false := by simpa using h2
  have e3 : (k == 3) = false := by simpa using h3
  have e4 : (k == 4) = false := by simpa using h4
  have e5 : (k == 5) = false := by simpa using h5
  have e5' : (k != 5) = true := by simpa using h5
  have e6 : (k == 6) = false := by simpa using h6
  have HV := Lib.hid (show fmB k s.data.toList n = false from fm_not (by
    rintro (⟨h, _⟩ | ⟨h, _⟩ | ⟨h, _⟩ | ⟨h, _⟩ | ⟨h, _⟩ | ⟨h, _⟩)
    · exact h1 h
    · exact h2 h
    · exact h3 h
    · exact h4 h
    · exact h5 h
    · exact h6 h))
  clear h1 h2 h3 h4 h5 h6
  by_cases h0 : s.size = 0
  · have hsn : s.data.toList = [] := by have := empty_data h0; rwa [Lib.toList_data] at this
    have hne : s.toList.isEmpty = true := by rw [Lib.toList_data, hsn]; rfl
    have HSN := Lib.hid hsn
    clear hsn
    go_enter Tryz.func24, Tryz.ntmps24
    go_upto_region 1 with fail
    generalize w.alloc (.cells #[.int .i64 k, .string s, .int .i64 n, .int .i64 a] 27) = W0 at HZ HB ⊢
    obtain ⟨⟨z0, z1, z2, z3⟩, fz, yz⟩ := four_cellsT HZ.out
    go_wp2
    go_ret
    exact ⟨by rw [HV.out]; first | rfl | simp, HB.out⟩
  · have hne := notEmpty (T := s) (by omega)
    have hnl : s.data.toList ≠ [] := fun e => by have := len_data s; rw [e] at this; simp at this; omega
    clear hnl
    go_enter Tryz.func24, Tryz.ntmps24
    go_upto_region 1 with fail
    generalize w.alloc (.cells #[.int .i64 k, .string s, .int .i64 n, .int .i64 a] 27) = W0 at HZ HB ⊢
    obtain ⟨⟨z0, z1, z2, z3⟩, fz, yz⟩ := four_cellsT HZ.out
    go_wp2
    go_ret
    exact ⟨by rw [HV.out]; first | rfl | simp, HB.out⟩
theorem rvalid_any (k n a : Int) (s : ByteArray) (hs : s.size ≤ 1048576) (hn1 : n ≤ 9223372036854775807) (w : World) : Calls Tryz.prog 24 #[.agg #[.int .i64 k, .string s, .int .i64 n, .int .i64 a]] w fun e w' => e = .returned (.bool (fmB k s.data.toList n)) ∧ Below w.heap.size w w' := by
  by_cases h1 : k = 1
  · subst h1; exact rval_1 n a s hs w
  by_cases h2 : k = 2
  · subst h2; exact rval_2 n a s hs w
  by_cases h3 : k = 3
  · subst h3; exact rval_3 n a s hs w
  by_cases h4 : k = 4
  · subst h4; exact rval_4 n a s hs hn1 w
  by_cases h5 : k = 5
  · subst h5; exact rval_5 n a s hs w
  by_cases h6 : k = 6
  · subst h6; exact rval_6 n a s hs w
  exact rval_no k n a s hs h1 h2 h3 h4 h5 h6 w

end Go.Proofs.YtfpdnhbbbadegaaGreatDoor
