/- Layer 17: VtypeReference (written by gen/vj.py). -/
import Derived.Test.YthifmcnemeiphaaDoorVk
namespace Go.Proofs.YthifmcnemeiphaaDoor
open Go.ChangeShapes Go.WideShapes Go.ChangeAt Go.RowKit Go.PlainAid
set_option linter.unusedSimpArgs false
set_option linter.unusedVariables false
attribute [local go_sem ↓] Go.wp_at_zero Go.wp_at_succ

theorem two_new (w : World) (a b : Obj) : ((w.alloc a).alloc b).heap[w.heap.size]? = some a ∧ ((w.alloc a).alloc b).heap[w.heap.size + 1]? = some b ∧ ((w.alloc a).alloc b).heap.size = w.heap.size + 2 := by
  have h := two_boxes (Below.refl ((w.alloc a).alloc b).heap.size ((w.alloc a).alloc b))
  exact ⟨h.1, h.2.1, by simp⟩
theorem ft_form (x y : Int) (z : ByteArray) : ∃ (fk fd fb : Int) (fs : ByteArray), ftV x y z = .agg #[.int .i64 fk, .int .i64 0, .int .i64 fd, .int .u8 fb, .string fs, .int .i64 0] := by
  unfold ftV
  split
  · exact ⟨_, _, _, _, rfl⟩
  · split
    · exact ⟨_, _, _, _, rfl⟩
    · split
      · exact ⟨_, _, _, _, rfl⟩
      · exact ⟨_, _, _, _, rfl⟩
set_option maxRecDepth 100000 in
set_option maxHeartbeats 4000000 in
theorem vref_case0 (k n d b p fk fd fb : Int) (s fs : ByteArray) (x y : Int) (z : ByteArray) (h0 : -9223372036854775808 ≤ n) (h1 : n ≤ 9223372036854775807) (hs : s.size ≤ 9223372036854775807) (hz : z.size ≤ 9223372036854775807) (hft : ftV x y z = .agg #[.int .i64 fk, .int .i64 0, .int .i64 fd, .int .u8 fb, .string fs, .int .i64 0]) (hne : ¬ k = fk) (w : World) (ht : Tab w) :
    Calls Tryd.prog 9 #[.agg #[.int .i64 k, .int .i64 n, .int .i64 d, .int .u8 b, .string s, .int .i64 p], .agg #[.int .i64 x, .int .u8 y, .string z]] w fun e w' => e = .returned (.bool true) ∧ Below w.heap.size w w' := by
  have HT := Lib.hid ht
  have hs1 : s.size ≤ 9223372036854775807 := by omega
  have hz1 : z.size ≤ 9223372036854775807 := by omega
  have HF := Lib.hid (fun (W : World) => from_any x y z W)
  have HRF := Lib.hid (fun (W : World) => rfrom_any x y z hz1 W)
  rw [hft] at HF HRF
  have HQ := Lib.hid (fun (W : World) => veq_any k n d b s p fk 0 fd fb fs 0 W)
  rw [show vqB k n d b s p fk 0 fd fb fs 0 = false from by simp [vqB, hne]] at HQ
  clear ht hft
  go_enter Tryd.func9, Tryd.ntmps9
  go_upto_region 1 with fail
  obtain ⟨R0, R1, E1⟩ := two_new w (.cells #[.int .i64 k, .int .i64 n, .int .i64 d, .int .u8 b, .string s, .int .i64 p] 43) (.cells #[.int .i64 x, .int .u8 y, .string z] 41)
  have hB := below_al (below_al (Below.refl w.heap.size w) (.cells #[.int .i64 k, .int .i64 n, .int .i64 d, .int .u8 b, .string s, .int .i64 p] 43)) (.cells #[.int .i64 x, .int .u8 y, .string z] 41)
  generalize (w.alloc (.cells #[.int .i64 k, .int .i64 n, .int .i64 d, .int .u8 b, .string s, .int .i64 p] 43)).alloc (.cells #[.int .i64 x, .int .u8 y, .string z] 41) = W at E1 R0 R1 hB ⊢
  have HTW := Lib.hid (tab_on HT.out hB)
  have HBW := Lib.hid hB
  obtain ⟨k0_0, k0_1, k0_2, k0_3, k0_4, k0_5, _⟩ := six_cells R0
  obtain ⟨k1_0, k1_1, k1_2, _, _, _⟩ := three_cells R1
  have hl0 : w.heap.size < W.heap.size := by omega
  have hl1 : w.heap.size + 1 < W.heap.size := by omega
  have KS := Lib.hid (fun (w' : World) (hb : Below W.heap.size W w') => show (fun (w' : World) => w'.cell? ⟨w.heap.size, 0, none⟩ = some (.int .i64 k) ∧ w'.cell? ⟨w.heap.size, 1, none⟩ = some (.int .i64 n) ∧ w'.cell? ⟨w.heap.size, 2, none⟩ = some (.int .i64 d) ∧ w'.cell? ⟨w.heap.size, 3, none⟩ = some (.int .u8 b) ∧ w'.cell? ⟨w.heap.size, 4, none⟩ = some (.string s) ∧ w'.cell? ⟨w.heap.size, 5, none⟩ = some (.int .i64 p) ∧ w'.cell? ⟨w.heap.size + 1, 0, none⟩ = some (.int .i64 x) ∧ w'.cell? ⟨w.heap.size + 1, 1, none⟩ = some (.int .u8 y) ∧ w'.cell? ⟨w.heap.size + 1, 2, none⟩ = some (.string z) ∧ Below W.heap.size W w') w' from ⟨(hb.cell (p := ⟨w.heap.size, 0, none⟩) hl0).trans k0_0, (hb.cell (p := ⟨w.heap.size, 1, none⟩) hl0).trans k0_1, (hb.cell (p := ⟨w.heap.size, 2, none⟩) hl0).trans k0_2, (hb.cell (p := ⟨w.heap.size, 3, none⟩) hl0).trans k0_3, (hb.cell (p := ⟨w.heap.size, 4, none⟩) hl0).trans k0_4, (hb.cell (p := ⟨w.heap.size, 5, none⟩) hl0).trans k0_5, (hb.cell (p := ⟨w.heap.size + 1, 0, none⟩) hl1).trans k1_0, (hb.cell (p := ⟨w.heap.size + 1, 1, none⟩) hl1).trans k1_1, (hb.cell (p := ⟨w.heap.size + 1, 2, none⟩) hl1).trans k1_2, hb⟩)
  clear R0 R1 hB
  have hW0 := Below.refl W.heap.size W
  go_region_held3 (fun (w' : World) => w'.cell? ⟨w.heap.size, 0, none⟩ = some (.int .i64 k) ∧ w'.cell? ⟨w.heap.size, 1, none⟩ = some (.int .i64 n) ∧ w'.cell? ⟨w.heap.size, 2, none⟩ = some (.int .i64 d) ∧ w'.cell? ⟨w.heap.size, 3, none⟩ = some (.int .u8 b) ∧ w'.cell? ⟨w.heap.size, 4, none⟩ = some (.string s) ∧ w'.cell? ⟨w.heap.size, 5, none⟩ = some (.int .i64 p) ∧ w'.cell? ⟨w.heap.size + 1, 0, none⟩ = some (.int .i64 x) ∧ w'.cell? ⟨w.heap.size + 1, 1, none⟩ = some (.int .u8 y) ∧ w'.cell? ⟨w.heap.size + 1, 2, none⟩ = some (.string z) ∧ Below W.heap.size W w') (((try go_split_ands); (first | (exact KS.out _ (below_on (w := W) (by assumption) hq)) | (exact KS.out _ (Below.drew (by assumption))) | ((repeat' apply And.intro) <;> (first | assumption | go_keep)))))
    (first | (go_at_call 32; (with_reducible refine (awake17_any _ (tab_on HTW.out ?_)).mono ?_); (first | assumption | (go_split_ands; assumption)); rintro e wq ⟨rfl, hq⟩) | (go_at_call 33; (with_reducible refine (vvalid_any _ _ _ _ _ _ _).mono ?_); rintro e wq ⟨rfl, hq⟩) | (go_at_call 34; (with_reducible refine (rvvalid_any _ _ _ _ _ _ hs1 _).mono ?_); rintro e wq ⟨rfl, hq⟩) | (go_at_call 35; (with_reducible refine (HF.out _).mono ?_); rintro e wq ⟨rfl, hq⟩) | (go_at_call 36; (with_reducible refine (HRF.out _).mono ?_); rintro e wq ⟨rfl, hq⟩) | (go_at_call 37; (with_reducible refine (vfmt_all _ _ _ _ _ _ h0 h1 _ (tab_on HTW.out ?_)).mono ?_); (first | assumption | (go_split_ands; assumption)); rintro e wq ⟨rfl, hq⟩) | (go_at_call 38; (with_reducible refine (rvfmt_all _ _ _ _ _ _ h0 h1 hs1 _ (tab_on HTW.out ?_)).mono ?_); (first | assumption | (go_split_ands; assumption)); rintro e wq ⟨rfl, hq⟩) | (go_at_call 39; (with_reducible refine (HQ.out _).mono ?_); rintro e wq ⟨rfl, hq⟩))
  go_wp2
  go_ret
  refine ⟨rfl, ?_⟩
  go_split_ands
  exact below_on HBW.out (by assumption)
set_option maxRecDepth 100000 in
set_option maxHeartbeats 4000000 in
theorem vref_case1 (k n d b p fd fb : Int) (s fs : ByteArray) (x y : Int) (z : ByteArray) (h0 : -9223372036854775808 ≤ n) (h1 : n ≤ 9223372036854775807) (hs : s.size ≤ 9223372036854775807) (hz : z.size ≤ 9223372036854775807) (hft : ftV x y z = .agg #[.int .i64 k, .int .i64 0, .int .i64 fd, .int .u8 fb, .string fs, .int .i64 0]) (hne : ¬ n = 0) (w : World) (ht : Tab w) :
    Calls Tryd.prog 9 #[.agg #[.int .i64 k, .int .i64 n, .int .i64 d, .int .u8 b, .string s, .int .i64 p], .agg #[.int .i64 x, .int .u8 y, .string z]] w fun e w' => e = .returned (.bool true) ∧ Below w.heap.size w w' := by
  have HT := Lib.hid ht
  have hs1 : s.size ≤ 9223372036854775807 := by omega
  have hz1 : z.size ≤ 9223372036854775807 := by omega
  have HF := Lib.hid (fun (W : World) => from_any x y z W)
  have HRF := Lib.hid (fun (W : World) => rfrom_any x y z hz1 W)
  rw [hft] at HF HRF
  have HQ := Lib.hid (fun (W : World) => veq_any k n d b s p k 0 fd fb fs 0 W)
  rw [show vqB k n d b s p k 0 fd fb fs 0 = false from by simp [vqB, hne]] at HQ
  clear ht hft
  go_enter Tryd.func9, Tryd.ntmps9
  go_upto_region 1 with fail
  obtain ⟨R0, R1, E1⟩ := two_new w (.cells #[.int .i64 k, .int .i64 n, .int .i64 d, .int .u8 b, .string s, .int .i64 p] 43) (.cells #[.int .i64 x, .int .u8 y, .string z] 41)
  have hB := below_al (below_al (Below.refl w.heap.size w) (.cells #[.int .i64 k, .int .i64 n, .int .i64 d, .int .u8 b, .string s, .int .i64 p] 43)) (.cells #[.int .i64 x, .int .u8 y, .string z] 41)
  generalize (w.alloc (.cells #[.int .i64 k, .int .i64 n, .int .i64 d, .int .u8 b, .string s, .int .i64 p] 43)).alloc (.cells #[.int .i64 x, .int .u8 y, .string z] 41) = W at E1 R0 R1 hB ⊢
  have HTW := Lib.hid (tab_on HT.out hB)
  have HBW := Lib.hid hB
  obtain ⟨k0_0, k0_1, k0_2, k0_3, k0_4, k0_5, _⟩ := six_cells R0
  obtain ⟨k1_0, k1_1, k1_2, _, _, _⟩ := three_cells R1
  have hl0 : w.heap.size < W.heap.size := by omega
  have hl1 : w.heap.size + 1 < W.heap.size := by omega
  have KS := Lib.hid (fun (w' : World) (hb : Below W.heap.size W w') => show (fun (w' : World) => w'.cell? ⟨w.heap.size, 0, none⟩ = some (.int .i64 k) ∧ w'.cell? ⟨w.heap.size, 1, none⟩ = some (.int .i64 n) ∧ w'.cell? ⟨w.heap.size, 2, none⟩ = some (.int .i64 d) ∧ w'.cell? ⟨w.heap.size, 3, none⟩ = some (.int .u8 b) ∧ w'.cell? ⟨w.heap.size, 4, none⟩ = some (.string s) ∧ w'.cell? ⟨w.heap.size, 5, none⟩ = some (.int .i64 p) ∧ w'.cell? ⟨w.heap.size + 1, 0, none⟩ = some (.int .i64 x) ∧ w'.cell? ⟨w.heap.size + 1, 1, none⟩ = some (.int .u8 y) ∧ w'.cell? ⟨w.heap.size + 1, 2, none⟩ = some (.string z) ∧ Below W.heap.size W w') w' from ⟨(hb.cell (p := ⟨w.heap.size, 0, none⟩) hl0).trans k0_0, (hb.cell (p := ⟨w.heap.size, 1, none⟩) hl0).trans k0_1, (hb.cell (p := ⟨w.heap.size, 2, none⟩) hl0).trans k0_2, (hb.cell (p := ⟨w.heap.size, 3, none⟩) hl0).trans k0_3, (hb.cell (p := ⟨w.heap.size, 4, none⟩) hl0).trans k0_4, (hb.cell (p := ⟨w.heap.size, 5, none⟩) hl0).trans k0_5, (hb.cell (p := ⟨w.heap.size + 1, 0, none⟩) hl1).trans k1_0, (hb.cell (p := ⟨w.heap.size + 1, 1, none⟩) hl1).trans k1_1, (hb.cell (p := ⟨w.heap.size + 1, 2, none⟩) hl1).trans k1_2, hb⟩)
  clear R0 R1 hB
  have hW0 := Below.refl W.heap.size W
  go_region_held3 (fun (w' : World) => w'.cell? ⟨w.heap.size, 0, none⟩ = some (.int .i64 k) ∧ w'.cell? ⟨w.heap.size, 1, none⟩ = some (.int .i64 n) ∧ w'.cell? ⟨w.heap.size, 2, none⟩ = some (.int .i64 d) ∧ w'.cell? ⟨w.heap.size, 3, none⟩ = some (.int .u8 b) ∧ w'.cell? ⟨w.heap.size, 4, none⟩ = some (.string s) ∧ w'.cell? ⟨w.heap.size, 5, none⟩ = some (.int .i64 p) ∧ w'.cell? ⟨w.heap.size + 1, 0, none⟩ = some (.int .i64 x) ∧ w'.cell? ⟨w.heap.size + 1, 1, none⟩ = some (.int .u8 y) ∧ w'.cell? ⟨w.heap.size + 1, 2, none⟩ = some (.string z) ∧ Below W.heap.size W w') (((try go_split_ands); (first | (exact KS.out _ (below_on (w := W) (by assumption) hq)) | (exact KS.out _ (Below.drew (by assumption))) | ((repeat' apply And.intro) <;> (first | assumption | go_keep)))))
    (first | (go_at_call 32; (with_reducible refine (awake17_any _ (tab_on HTW.out ?_)).mono ?_); (first | assumption | (go_split_ands; assumption)); rintro e wq ⟨rfl, hq⟩) | (go_at_call 33; (with_reducible refine (vvalid_any _ _ _ _ _ _ _).mono ?_); rintro e wq ⟨rfl, hq⟩) | (go_at_call 34; (with_reducible refine (rvvalid_any _ _ _ _ _ _ hs1 _).mono ?_); rintro e wq ⟨rfl, hq⟩) | (go_at_call 35; (with_reducible refine (HF.out _).mono ?_); rintro e wq ⟨rfl, hq⟩) | (go_at_call 36; (with_reducible refine (HRF.out _).mono ?_); rintro e wq ⟨rfl, hq⟩) | (go_at_call 37; (with_reducible refine (vfmt_all _ _ _ _ _ _ h0 h1 _ (tab_on HTW.out ?_)).mono ?_); (first | assumption | (go_split_ands; assumption)); rintro e wq ⟨rfl, hq⟩) | (go_at_call 38; (with_reducible refine (rvfmt_all _ _ _ _ _ _ h0 h1 hs1 _ (tab_on HTW.out ?_)).mono ?_); (first | assumption | (go_split_ands; assumption)); rintro e wq ⟨rfl, hq⟩) | (go_at_call 39; (with_reducible refine (HQ.out _).mono ?_); rintro e wq ⟨rfl, hq⟩))
  go_wp2
  go_ret
  refine ⟨rfl, ?_⟩
  go_split_ands
  exact below_on HBW.out (by assumption)
set_option maxRecDepth 100000 in
set_option maxHeartbeats 4000000 in
theorem vref_case2 (k d b p fd fb : Int) (s fs : ByteArray) (x y : Int) (z : ByteArray) (hs : s.size ≤ 9223372036854775807) (hz : z.size ≤ 9223372036854775807) (hft : ftV x y z = .agg #[.int .i64 k, .int .i64 0, .int .i64 fd, .int .u8 fb, .string fs, .int .i64 0]) (hne : ¬ d = fd) (w : World) (ht : Tab w) :
    Calls Tryd.prog 9 #[.agg #[.int .i64 k, .int .i64 0, .int .i64 d, .int .u8 b, .string s, .int .i64 p], .agg #[.int .i64 x, .int .u8 y, .string z]] w fun e w' => e = .returned (.bool true) ∧ Below w.heap.size w w' := by
  have h0 : (-9223372036854775808 : Int) ≤ 0 := by omega
  have h1 : (0 : Int) ≤ 9223372036854775807 := by omega
  have HT := Lib.hid ht
  have hs1 : s.size ≤ 9223372036854775807 := by omega
  have hz1 : z.size ≤ 9223372036854775807 := by omega
  have HF := Lib.hid (fun (W : World) => from_any x y z W)
  have HRF := Lib.hid (fun (W : World) => rfrom_any x y z hz1 W)
  rw [hft] at HF HRF
  have HQ := Lib.hid (fun (W : World) => veq_any k 0 d b s p k 0 fd fb fs 0 W)
  rw [show vqB k 0 d b s p k 0 fd fb fs 0 = false from by simp [vqB, hne]] at HQ
  clear ht hft
  go_enter Tryd.func9, Tryd.ntmps9
  go_upto_region 1 with fail
  obtain ⟨R0, R1, E1⟩ := two_new w (.cells #[.int .i64 k, .int .i64 0, .int .i64 d, .int .u8 b, .string s, .int .i64 p] 43) (.cells #[.int .i64 x, .int .u8 y, .string z] 41)
  have hB := below_al (below_al (Below.refl w.heap.size w) (.cells #[.int .i64 k, .int .i64 0, .int .i64 d, .int .u8 b, .string s, .int .i64 p] 43)) (.cells #[.int .i64 x, .int .u8 y, .string z] 41)
  generalize (w.alloc (.cells #[.int .i64 k, .int .i64 0, .int .i64 d, .int .u8 b, .string s, .int .i64 p] 43)).alloc (.cells #[.int .i64 x, .int .u8 y, .string z] 41) = W at E1 R0 R1 hB ⊢
  have HTW := Lib.hid (tab_on HT.out hB)
  have HBW := Lib.hid hB
  obtain ⟨k0_0, k0_1, k0_2, k0_3, k0_4, k0_5, _⟩ := six_cells R0
  obtain ⟨k1_0, k1_1, k1_2, _, _, _⟩ := three_cells R1
  have hl0 : w.heap.size < W.heap.size := by omega
  have hl1 : w.heap.size + 1 < W.heap.size := by omega
  have KS := Lib.hid (fun (w' : World) (hb : Below W.heap.size W w') => show (fun (w' : World) => w'.cell? ⟨w.heap.size, 0, none⟩ = some (.int .i64 k) ∧ w'.cell? ⟨w.heap.size, 1, none⟩ = some (.int .i64 0) ∧ w'.cell? ⟨w.heap.size, 2, none⟩ = some (.int .i64 d) ∧ w'.cell? ⟨w.heap.size, 3, none⟩ = some (.int .u8 b) ∧ w'.cell? ⟨w.heap.size, 4, none⟩ = some (.string s) ∧ w'.cell? ⟨w.heap.size, 5, none⟩ = some (.int .i64 p) ∧ w'.cell? ⟨w.heap.size + 1, 0, none⟩ = some (.int .i64 x) ∧ w'.cell? ⟨w.heap.size + 1, 1, none⟩ = some (.int .u8 y) ∧ w'.cell? ⟨w.heap.size + 1, 2, none⟩ = some (.string z) ∧ Below W.heap.size W w') w' from ⟨(hb.cell (p := ⟨w.heap.size, 0, none⟩) hl0).trans k0_0, (hb.cell (p := ⟨w.heap.size, 1, none⟩) hl0).trans k0_1, (hb.cell (p := ⟨w.heap.size, 2, none⟩) hl0).trans k0_2, (hb.cell (p := ⟨w.heap.size, 3, none⟩) hl0).trans k0_3, (hb.cell (p := ⟨w.heap.size, 4, none⟩) hl0).trans k0_4, (hb.cell (p := ⟨w.heap.size, 5, none⟩) hl0).trans k0_5, (hb.cell (p := ⟨w.heap.size + 1, 0, none⟩) hl1).trans k1_0, (hb.cell (p := ⟨w.heap.size + 1, 1, none⟩) hl1).trans k1_1, (hb.cell (p := ⟨w.heap.size + 1, 2, none⟩) hl1).trans k1_2, hb⟩)
  clear R0 R1 hB
  have hW0 := Below.refl W.heap.size W
  go_region_held3 (fun (w' : World) => w'.cell? ⟨w.heap.size, 0, none⟩ = some (.int .i64 k) ∧ w'.cell? ⟨w.heap.size, 1, none⟩ = some (.int .i64 0) ∧ w'.cell? ⟨w.heap.size, 2, none⟩ = some (.int .i64 d) ∧ w'.cell? ⟨w.heap.size, 3, none⟩ = some (.int .u8 b) ∧ w'.cell? ⟨w.heap.size, 4, none⟩ = some (.string s) ∧ w'.cell? ⟨w.heap.size, 5, none⟩ = some (.int .i64 p) ∧ w'.cell? ⟨w.heap.size + 1, 0, none⟩ = some (.int .i64 x) ∧ w'.cell? ⟨w.heap.size + 1, 1, none⟩ = some (.int .u8 y) ∧ w'.cell? ⟨w.heap.size + 1, 2, none⟩ = some (.string z) ∧ Below W.heap.size W w') (((try go_split_ands); (first | (exact KS.out _ (below_on (w := W) (by assumption) hq)) | (exact KS.out _ (Below.drew (by assumption))) | ((repeat' apply And.intro) <;> (first | assumption | go_keep)))))
    (first | (go_at_call 32; (with_reducible refine (awake17_any _ (tab_on HTW.out ?_)).mono ?_); (first | assumption | (go_split_ands; assumption)); rintro e wq ⟨rfl, hq⟩) | (go_at_call 33; (with_reducible refine (vvalid_any _ _ _ _ _ _ _).mono ?_); rintro e wq ⟨rfl, hq⟩) | (go_at_call 34; (with_reducible refine (rvvalid_any _ _ _ _ _ _ hs1 _).mono ?_); rintro e wq ⟨rfl, hq⟩) | (go_at_call 35; (with_reducible refine (HF.out _).mono ?_); rintro e wq ⟨rfl, hq⟩) | (go_at_call 36; (with_reducible refine (HRF.out _).mono ?_); rintro e wq ⟨rfl, hq⟩) | (go_at_call 37; (with_reducible refine (vfmt_all _ _ _ _ _ _ h0 h1 _ (tab_on HTW.out ?_)).mono ?_); (first | assumption | (go_split_ands; assumption)); rintro e wq ⟨rfl, hq⟩) | (go_at_call 38; (with_reducible refine (rvfmt_all _ _ _ _ _ _ h0 h1 hs1 _ (tab_on HTW.out ?_)).mono ?_); (first | assumption | (go_split_ands; assumption)); rintro e wq ⟨rfl, hq⟩) | (go_at_call 39; (with_reducible refine (HQ.out _).mono ?_); rintro e wq ⟨rfl, hq⟩))
  go_wp2
  go_ret
  refine ⟨rfl, ?_⟩
  go_split_ands
  exact below_on HBW.out (by assumption)
set_option maxRecDepth 100000 in
set_option maxHeartbeats 4000000 in
theorem vref_case3 (k d b p fb : Int) (s fs : ByteArray) (x y : Int) (z : ByteArray) (hs : s.size ≤ 9223372036854775807) (hz : z.size ≤ 9223372036854775807) (hft : ftV x y z = .agg #[.int .i64 k, .int .i64 0, .int .i64 d, .int .u8 fb, .string fs, .int .i64 0]) (hne : ¬ b = fb) (w : World) (ht : Tab w) :
    Calls Tryd.prog 9 #[.agg #[.int .i64 k, .int .i64 0, .int .i64 d, .int .u8 b, .string s, .int .i64 p], .agg #[.int .i64 x, .int .u8 y, .string z]] w fun e w' => e = .returned (.bool true) ∧ Below w.heap.size w w' := by
  have h0 : (-9223372036854775808 : Int) ≤ 0 := by omega
  have h1 : (0 : Int) ≤ 9223372036854775807 := by omega
  have HT := Lib.hid ht
  have hs1 : s.size ≤ 9223372036854775807 := by omega
  have hz1 : z.size ≤ 9223372036854775807 := by omega
  have HF := Lib.hid (fun (W : World) => from_any x y z W)
  have HRF := Lib.hid (fun (W : World) => rfrom_any x y z hz1 W)
  rw [hft] at HF HRF
  have HQ := Lib.hid (fun (W : World) => veq_any k 0 d b s p k 0 d fb fs 0 W)
  rw [show vqB k 0 d b s p k 0 d fb fs 0 = false from by simp [vqB, hne]] at HQ
  clear ht hft
  go_enter Tryd.func9, Tryd.ntmps9
  go_upto_region 1 with fail
  obtain ⟨R0, R1, E1⟩ := two_new w (.cells #[.int .i64 k, .int .i64 0, .int .i64 d, .int .u8 b, .string s, .int .i64 p] 43) (.cells #[.int .i64 x, .int .u8 y, .string z] 41)
  have hB := below_al (below_al (Below.refl w.heap.size w) (.cells #[.int .i64 k, .int .i64 0, .int .i64 d, .int .u8 b, .string s, .int .i64 p] 43)) (.cells #[.int .i64 x, .int .u8 y, .string z] 41)
  generalize (w.alloc (.cells #[.int .i64 k, .int .i64 0, .int .i64 d, .int .u8 b, .string s, .int .i64 p] 43)).alloc (.cells #[.int .i64 x, .int .u8 y, .string z] 41) = W at E1 R0 R1 hB ⊢
  have HTW := Lib.hid (tab_on HT.out hB)
  have HBW := Lib.hid hB
  obtain ⟨k0_0, k0_1, k0_2, k0_3, k0_4, k0_5, _⟩ := six_cells R0
  obtain ⟨k1_0, k1_1, k1_2, _, _, _⟩ := three_cells R1
  have hl0 : w.heap.size < W.heap.size := by omega
  have hl1 : w.heap.size + 1 < W.heap.size := by omega
  have KS := Lib.hid (fun (w' : World) (hb : Below W.heap.size W w') => show (fun (w' : World) => w'.cell? ⟨w.heap.size, 0, none⟩ = some (.int .i64 k) ∧ w'.cell? ⟨w.heap.size, 1, none⟩ = some (.int .i64 0) ∧ w'.cell? ⟨w.heap.size, 2, none⟩ = some (.int .i64 d) ∧ w'.cell? ⟨w.heap.size, 3, none⟩ = some (.int .u8 b) ∧ w'.cell? ⟨w.heap.size, 4, none⟩ = some (.string s) ∧ w'.cell? ⟨w.heap.size, 5, none⟩ = some (.int .i64 p) ∧ w'.cell? ⟨w.heap.size + 1, 0, none⟩ = some (.int .i64 x) ∧ w'.cell? ⟨w.heap.size + 1, 1, none⟩ = some (.int .u8 y) ∧ w'.cell? ⟨w.heap.size + 1, 2, none⟩ = some (.string z) ∧ Below W.heap.size W w') w' from ⟨(hb.cell (p := ⟨w.heap.size, 0, none⟩) hl0).trans k0_0, (hb.cell (p := ⟨w.heap.size, 1, none⟩) hl0).trans k0_1, (hb.cell (p := ⟨w.heap.size, 2, none⟩) hl0).trans k0_2, (hb.cell (p := ⟨w.heap.size, 3, none⟩) hl0).trans k0_3, (hb.cell (p := ⟨w.heap.size, 4, none⟩) hl0).trans k0_4, (hb.cell (p := ⟨w.heap.size, 5, none⟩) hl0).trans k0_5, (hb.cell (p := ⟨w.heap.size + 1, 0, none⟩) hl1).trans k1_0, (hb.cell (p := ⟨w.heap.size + 1, 1, none⟩) hl1).trans k1_1, (hb.cell (p := ⟨w.heap.size + 1, 2, none⟩) hl1).trans k1_2, hb⟩)
  clear R0 R1 hB
  have hW0 := Below.refl W.heap.size W
  go_region_held3 (fun (w' : World) => w'.cell? ⟨w.heap.size, 0, none⟩ = some (.int .i64 k) ∧ w'.cell? ⟨w.heap.size, 1, none⟩ = some (.int .i64 0) ∧ w'.cell? ⟨w.heap.size, 2, none⟩ = some (.int .i64 d) ∧ w'.cell? ⟨w.heap.size, 3, none⟩ = some (.int .u8 b) ∧ w'.cell? ⟨w.heap.size, 4, none⟩ = some (.string s) ∧ w'.cell? ⟨w.heap.size, 5, none⟩ = some (.int .i64 p) ∧ w'.cell? ⟨w.heap.size + 1, 0, none⟩ = some (.int .i64 x) ∧ w'.cell? ⟨w.heap.size + 1, 1, none⟩ = some (.int .u8 y) ∧ w'.cell? ⟨w.heap.size + 1, 2, none⟩ = some (.string z) ∧ Below W.heap.size W w') (((try go_split_ands); (first | (exact KS.out _ (below_on (w := W) (by assumption) hq)) | (exact KS.out _ (Below.drew (by assumption))) | ((repeat' apply And.intro) <;> (first | assumption | go_keep)))))
    (first | (go_at_call 32; (with_reducible refine (awake17_any _ (tab_on HTW.out ?_)).mono ?_); (first | assumption | (go_split_ands; assumption)); rintro e wq ⟨rfl, hq⟩) | (go_at_call 33; (with_reducible refine (vvalid_any _ _ _ _ _ _ _).mono ?_); rintro e wq ⟨rfl, hq⟩) | (go_at_call 34; (with_reducible refine (rvvalid_any _ _ _ _ _ _ hs1 _).mono ?_); rintro e wq ⟨rfl, hq⟩) | (go_at_call 35; (with_reducible refine (HF.out _).mono ?_); rintro e wq ⟨rfl, hq⟩) | (go_at_call 36; (with_reducible refine (HRF.out _).mono ?_); rintro e wq ⟨rfl, hq⟩) | (go_at_call 37; (with_reducible refine (vfmt_all _ _ _ _ _ _ h0 h1 _ (tab_on HTW.out ?_)).mono ?_); (first | assumption | (go_split_ands; assumption)); rintro e wq ⟨rfl, hq⟩) | (go_at_call 38; (with_reducible refine (rvfmt_all _ _ _ _ _ _ h0 h1 hs1 _ (tab_on HTW.out ?_)).mono ?_); (first | assumption | (go_split_ands; assumption)); rintro e wq ⟨rfl, hq⟩) | (go_at_call 39; (with_reducible refine (HQ.out _).mono ?_); rintro e wq ⟨rfl, hq⟩))
  go_wp2
  go_ret
  refine ⟨rfl, ?_⟩
  go_split_ands
  exact below_on HBW.out (by assumption)
set_option maxRecDepth 100000 in
set_option maxHeartbeats 4000000 in
theorem vref_case4 (k d b p : Int) (s fs : ByteArray) (x y : Int) (z : ByteArray) (hs : s.size ≤ 9223372036854775807) (hz : z.size ≤ 9223372036854775807) (hft : ftV x y z = .agg #[.int .i64 k, .int .i64 0, .int .i64 d, .int .u8 b, .string fs, .int .i64 0]) (hne : ¬ s.toList = fs.toList) (w : World) (ht : Tab w) :
    Calls Tryd.prog 9 #[.agg #[.int .i64 k, .int .i64 0, .int .i64 d, .int .u8 b, .string s, .int .i64 p], .agg #[.int .i64 x, .int .u8 y, .string z]] w fun e w' => e = .returned (.bool true) ∧ Below w.heap.size w w' := by
  have h0 : (-9223372036854775808 : Int) ≤ 0 := by omega
  have h1 : (0 : Int) ≤ 9223372036854775807 := by omega
  have HT := Lib.hid ht
  have hs1 : s.size ≤ 9223372036854775807 := by omega
  have hz1 : z.size ≤ 9223372036854775807 := by omega
  have HF := Lib.hid (fun (W : World) => from_any x y z W)
  have HRF := Lib.hid (fun (W : World) => rfrom_any x y z hz1 W)
  rw [hft] at HF HRF
  have HQ := Lib.hid (fun (W : World) => veq_any k 0 d b s p k 0 d b fs 0 W)
  rw [show vqB k 0 d b s p k 0 d b fs 0 = false from by simp [vqB, hne]] at HQ
  clear ht hft
  go_enter Tryd.func9, Tryd.ntmps9
  go_upto_region 1 with fail
  obtain ⟨R0, R1, E1⟩ := two_new w (.cells #[.int .i64 k, .int .i64 0, .int .i64 d, .int .u8 b, .string s, .int .i64 p] 43) (.cells #[.int .i64 x, .int .u8 y, .string z] 41)
  have hB := below_al (below_al (Below.refl w.heap.size w) (.cells #[.int .i64 k, .int .i64 0, .int .i64 d, .int .u8 b, .string s, .int .i64 p] 43)) (.cells #[.int .i64 x, .int .u8 y, .string z] 41)
  generalize (w.alloc (.cells #[.int .i64 k, .int .i64 0, .int .i64 d, .int .u8 b, .string s, .int .i64 p] 43)).alloc (.cells #[.int .i64 x, .int .u8 y, .string z] 41) = W at E1 R0 R1 hB ⊢
  have HTW := Lib.hid (tab_on HT.out hB)
  have HBW := Lib.hid hB
  obtain ⟨k0_0, k0_1, k0_2, k0_3, k0_4, k0_5, _⟩ := six_cells R0
  obtain ⟨k1_0, k1_1, k1_2, _, _, _⟩ := three_cells R1
  have hl0 : w.heap.size < W.heap.size := by omega
  have hl1 : w.heap.size + 1 < W.heap.size := by omega
  have KS := Lib.hid (fun (w' : World) (hb : Below W.heap.size W w') => show (fun (w' : World) => w'.cell? ⟨w.heap.size, 0, none⟩ = some (.int .i64 k) ∧ w'.cell? ⟨w.heap.size, 1, none⟩ = some (.int .i64 0) ∧ w'.cell? ⟨w.heap.size, 2, none⟩ = some (.int .i64 d) ∧ w'.cell? ⟨w.heap.size, 3, none⟩ = some (.int .u8 b) ∧ w'.cell? ⟨w.heap.size, 4, none⟩ = some (.string s) ∧ w'.cell? ⟨w.heap.size, 5, none⟩ = some (.int .i64 p) ∧ w'.cell? ⟨w.heap.size + 1, 0, none⟩ = some (.int .i64 x) ∧ w'.cell? ⟨w.heap.size + 1, 1, none⟩ = some (.int .u8 y) ∧ w'.cell? ⟨w.heap.size + 1, 2, none⟩ = some (.string z) ∧ Below W.heap.size W w') w' from ⟨(hb.cell (p := ⟨w.heap.size, 0, none⟩) hl0).trans k0_0, (hb.cell (p := ⟨w.heap.size, 1, none⟩) hl0).trans k0_1, (hb.cell (p := ⟨w.heap.size, 2, none⟩) hl0).trans k0_2, (hb.cell (p := ⟨w.heap.size, 3, none⟩) hl0).trans k0_3, (hb.cell (p := ⟨w.heap.size, 4, none⟩) hl0).trans k0_4, (hb.cell (p := ⟨w.heap.size, 5, none⟩) hl0).trans k0_5, (hb.cell (p := ⟨w.heap.size + 1, 0, none⟩) hl1).trans k1_0, (hb.cell (p := ⟨w.heap.size + 1, 1, none⟩) hl1).trans k1_1, (hb.cell (p := ⟨w.heap.size + 1, 2, none⟩) hl1).trans k1_2, hb⟩)
  clear R0 R1 hB
  have hW0 := Below.refl W.heap.size W
  go_region_held3 (fun (w' : World) => w'.cell? ⟨w.heap.size, 0, none⟩ = some (.int .i64 k) ∧ w'.cell? ⟨w.heap.size, 1, none⟩ = some (.int .i64 0) ∧ w'.cell? ⟨w.heap.size, 2, none⟩ = some (.int .i64 d) ∧ w'.cell? ⟨w.heap.size, 3, none⟩ = some (.int .u8 b) ∧ w'.cell? ⟨w.heap.size, 4, none⟩ = some (.string s) ∧ w'.cell? ⟨w.heap.size, 5, none⟩ = some (.int .i64 p) ∧ w'.cell? ⟨w.heap.size + 1, 0, none⟩ = some (.int .i64 x) ∧ w'.cell? ⟨w.heap.size + 1, 1, none⟩ = some (.int .u8 y) ∧ w'.cell? ⟨w.heap.size + 1, 2, none⟩ = some (.string z) ∧ Below W.heap.size W w') (((try go_split_ands); (first | (exact KS.out _ (below_on (w := W) (by assumption) hq)) | (exact KS.out _ (Below.drew (by assumption))) | ((repeat' apply And.intro) <;> (first | assumption | go_keep)))))
    (first | (go_at_call 32; (with_reducible refine (awake17_any _ (tab_on HTW.out ?_)).mono ?_); (first | assumption | (go_split_ands; assumption)); rintro e wq ⟨rfl, hq⟩) | (go_at_call 33; (with_reducible refine (vvalid_any _ _ _ _ _ _ _).mono ?_); rintro e wq ⟨rfl, hq⟩) | (go_at_call 34; (with_reducible refine (rvvalid_any _ _ _ _ _ _ hs1 _).mono ?_); rintro e wq ⟨rfl, hq⟩) | (go_at_call 35; (with_reducible refine (HF.out _).mono ?_); rintro e wq ⟨rfl, hq⟩) | (go_at_call 36; (with_reducible refine (HRF.out _).mono ?_); rintro e wq ⟨rfl, hq⟩) | (go_at_call 37; (with_reducible refine (vfmt_all _ _ _ _ _ _ h0 h1 _ (tab_on HTW.out ?_)).mono ?_); (first | assumption | (go_split_ands; assumption)); rintro e wq ⟨rfl, hq⟩) | (go_at_call 38; (with_reducible refine (rvfmt_all _ _ _ _ _ _ h0 h1 hs1 _ (tab_on HTW.out ?_)).mono ?_); (first | assumption | (go_split_ands; assumption)); rintro e wq ⟨rfl, hq⟩) | (go_at_call 39; (with_reducible refine (HQ.out _).mono ?_); rintro e wq ⟨rfl, hq⟩))
  go_wp2
  go_ret
  refine ⟨rfl, ?_⟩
  go_split_ands
  exact below_on HBW.out (by assumption)
set_option maxRecDepth 100000 in
set_option maxHeartbeats 4000000 in
theorem vref_case5 (k d b p : Int) (s : ByteArray) (x y : Int) (z : ByteArray) (hs : s.size ≤ 9223372036854775807) (hz : z.size ≤ 9223372036854775807) (hft : ftV x y z = .agg #[.int .i64 k, .int .i64 0, .int .i64 d, .int .u8 b, .string s, .int .i64 0]) (hne : ¬ p = 0) (w : World) (ht : Tab w) :
    Calls Tryd.prog 9 #[.agg #[.int .i64 k, .int .i64 0, .int .i64 d, .int .u8 b, .string s, .int .i64 p], .agg #[.int .i64 x, .int .u8 y, .string z]] w fun e w' => e = .returned (.bool true) ∧ Below w.heap.size w w' := by
  have h0 : (-9223372036854775808 : Int) ≤ 0 := by omega
  have h1 : (0 : Int) ≤ 9223372036854775807 := by omega
  have HT := Lib.hid ht
  have hs1 : s.size ≤ 9223372036854775807 := by omega
  have hz1 : z.size ≤ 9223372036854775807 := by omega
  have HF := Lib.hid (fun (W : World) => from_any x y z W)
  have HRF := Lib.hid (fun (W : World) => rfrom_any x y z hz1 W)
  rw [hft] at HF HRF
  have HQ := Lib.hid (fun (W : World) => veq_any k 0 d b s p k 0 d b s 0 W)
  rw [show vqB k 0 d b s p k 0 d b s 0 = false from by simp [vqB, hne]] at HQ
  clear ht hft
  go_enter Tryd.func9, Tryd.ntmps9
  go_upto_region 1 with fail
  obtain ⟨R0, R1, E1⟩ := two_new w (.cells #[.int .i64 k, .int .i64 0, .int .i64 d, .int .u8 b, .string s, .int .i64 p] 43) (.cells #[.int .i64 x, .int .u8 y, .string z] 41)
  have hB := below_al (below_al (Below.refl w.heap.size w) (.cells #[.int .i64 k, .int .i64 0, .int .i64 d, .int .u8 b, .string s, .int .i64 p] 43)) (.cells #[.int .i64 x, .int .u8 y, .string z] 41)
  generalize (w.alloc (.cells #[.int .i64 k, .int .i64 0, .int .i64 d, .int .u8 b, .string s, .int .i64 p] 43)).alloc (.cells #[.int .i64 x, .int .u8 y, .string z] 41) = W at E1 R0 R1 hB ⊢
  have HTW := Lib.hid (tab_on HT.out hB)
  have HBW := Lib.hid hB
  obtain ⟨k0_0, k0_1, k0_2, k0_3, k0_4, k0_5, _⟩ := six_cells R0
  obtain ⟨k1_0, k1_1, k1_2, _, _, _⟩ := three_cells R1
  have hl0 : w.heap.size < W.heap.size := by omega
  have hl1 : w.heap.size + 1 < W.heap.size := by omega
  have KS := Lib.hid (fun (w' : World) (hb : Below W.heap.size W w') => show (fun (w' : World) => w'.cell? ⟨w.heap.size, 0, none⟩ = some (.int .i64 k) ∧ w'.cell? ⟨w.heap.size, 1, none⟩ = some (.int .i64 0) ∧ w'.cell? ⟨w.heap.size, 2, none⟩ = some (.int .i64 d) ∧ w'.cell? ⟨w.heap.size, 3, none⟩ = some (.int .u8 b) ∧ w'.cell? ⟨w.heap.size, 4, none⟩ = some (.string s) ∧ w'.cell? ⟨w.heap.size, 5, none⟩ = some (.int .i64 p) ∧ w'.cell? ⟨w.heap.size + 1, 0, none⟩ = some (.int .i64 x) ∧ w'.cell? ⟨w.heap.size + 1, 1, none⟩ = some (.int .u8 y) ∧ w'.cell? ⟨w.heap.size + 1, 2, none⟩ = some (.string z) ∧ Below W.heap.size W w') w' from ⟨(hb.cell (p := ⟨w.heap.size, 0, none⟩) hl0).trans k0_0, (hb.cell (p := ⟨w.heap.size, 1, none⟩) hl0).trans k0_1, (hb.cell (p := ⟨w.heap.size, 2, none⟩) hl0).trans k0_2, (hb.cell (p := ⟨w.heap.size, 3, none⟩) hl0).trans k0_3, (hb.cell (p := ⟨w.heap.size, 4, none⟩) hl0).trans k0_4, (hb.cell (p := ⟨w.heap.size, 5, none⟩) hl0).trans k0_5, (hb.cell (p := ⟨w.heap.size + 1, 0, none⟩) hl1).trans k1_0, (hb.cell (p := ⟨w.heap.size + 1, 1, none⟩) hl1).trans k1_1, (hb.cell (p := ⟨w.heap.size + 1, 2, none⟩) hl1).trans k1_2, hb⟩)
  clear R0 R1 hB
  have hW0 := Below.refl W.heap.size W
  go_region_held3 (fun (w' : World) => w'.cell? ⟨w.heap.size, 0, none⟩ = some (.int .i64 k) ∧ w'.cell? ⟨w.heap.size, 1, none⟩ = some (.int .i64 0) ∧ w'.cell? ⟨w.heap.size, 2, none⟩ = some (.int .i64 d) ∧ w'.cell? ⟨w.heap.size, 3, none⟩ = some (.int .u8 b) ∧ w'.cell? ⟨w.heap.size, 4, none⟩ = some (.string s) ∧ w'.cell? ⟨w.heap.size, 5, none⟩ = some (.int .i64 p) ∧ w'.cell? ⟨w.heap.size + 1, 0, none⟩ = some (.int .i64 x) ∧ w'.cell? ⟨w.heap.size + 1, 1, none⟩ = some (.int .u8 y) ∧ w'.cell? ⟨w.heap.size + 1, 2, none⟩ = some (.string z) ∧ Below W.heap.size W w') (((try go_split_ands); (first | (exact KS.out _ (below_on (w := W) (by assumption) hq)) | (exact KS.out _ (Below.drew (by assumption))) | ((repeat' apply And.intro) <;> (first | assumption | go_keep)))))
    (first | (go_at_call 32; (with_reducible refine (awake17_any _ (tab_on HTW.out ?_)).mono ?_); (first | assumption | (go_split_ands; assumption)); rintro e wq ⟨rfl, hq⟩) | (go_at_call 33; (with_reducible refine (vvalid_any _ _ _ _ _ _ _).mono ?_); rintro e wq ⟨rfl, hq⟩) | (go_at_call 34; (with_reducible refine (rvvalid_any _ _ _ _ _ _ hs1 _).mono ?_); rintro e wq ⟨rfl, hq⟩) | (go_at_call 35; (with_reducible refine (HF.out _).mono ?_); rintro e wq ⟨rfl, hq⟩) | (go_at_call 36; (with_reducible refine (HRF.out _).mono ?_); rintro e wq ⟨rfl, hq⟩) | (go_at_call 37; (with_reducible refine (vfmt_all _ _ _ _ _ _ h0 h1 _ (tab_on HTW.out ?_)).mono ?_); (first | assumption | (go_split_ands; assumption)); rintro e wq ⟨rfl, hq⟩) | (go_at_call 38; (with_reducible refine (rvfmt_all _ _ _ _ _ _ h0 h1 hs1 _ (tab_on HTW.out ?_)).mono ?_); (first | assumption | (go_split_ands; assumption)); rintro e wq ⟨rfl, hq⟩) | (go_at_call 39; (with_reducible refine (HQ.out _).mono ?_); rintro e wq ⟨rfl, hq⟩))
  go_wp2
  go_ret
  refine ⟨rfl, ?_⟩
  go_split_ands
  exact below_on HBW.out (by assumption)
set_option maxRecDepth 100000 in
set_option maxHeartbeats 4000000 in
theorem vref_case6 (k d b : Int) (s : ByteArray) (x y : Int) (z : ByteArray) (hs : s.size ≤ 9223372036854775807) (hz : z.size ≤ 9223372036854775807) (hft : ftV x y z = .agg #[.int .i64 k, .int .i64 0, .int .i64 d, .int .u8 b, .string s, .int .i64 0]) (hne : True) (w : World) (ht : Tab w) :
    Calls Tryd.prog 9 #[.agg #[.int .i64 k, .int .i64 0, .int .i64 d, .int .u8 b, .string s, .int .i64 0], .agg #[.int .i64 x, .int .u8 y, .string z]] w fun e w' => e = .returned (.bool true) ∧ Below w.heap.size w w' := by
  have h0 : (-9223372036854775808 : Int) ≤ 0 := by omega
  have h1 : (0 : Int) ≤ 9223372036854775807 := by omega
  have HT := Lib.hid ht
  have hs1 : s.size ≤ 9223372036854775807 := by omega
  have hz1 : z.size ≤ 9223372036854775807 := by omega
  have HF := Lib.hid (fun (W : World) => from_any x y z W)
  have HRF := Lib.hid (fun (W : World) => rfrom_any x y z hz1 W)
  rw [hft] at HF HRF
  have HQ := Lib.hid (fun (W : World) => veq_any k 0 d b s 0 k 0 d b s 0 W)
  rw [show vqB k 0 d b s 0 k 0 d b s 0 = true from by simp [vqB]] at HQ
  clear ht hft
  go_enter Tryd.func9, Tryd.ntmps9
  go_upto_region 1 with fail
  obtain ⟨R0, R1, E1⟩ := two_new w (.cells #[.int .i64 k, .int .i64 0, .int .i64 d, .int .u8 b, .string s, .int .i64 0] 43) (.cells #[.int .i64 x, .int .u8 y, .string z] 41)
  have hB := below_al (below_al (Below.refl w.heap.size w) (.cells #[.int .i64 k, .int .i64 0, .int .i64 d, .int .u8 b, .string s, .int .i64 0] 43)) (.cells #[.int .i64 x, .int .u8 y, .string z] 41)
  generalize (w.alloc (.cells #[.int .i64 k, .int .i64 0, .int .i64 d, .int .u8 b, .string s, .int .i64 0] 43)).alloc (.cells #[.int .i64 x, .int .u8 y, .string z] 41) = W at E1 R0 R1 hB ⊢
  have HTW := Lib.hid (tab_on HT.out hB)
  have HBW := Lib.hid hB
  obtain ⟨k0_0, k0_1, k0_2, k0_3, k0_4, k0_5, _⟩ := six_cells R0
  obtain ⟨k1_0, k1_1, k1_2, _, _, _⟩ := three_cells R1
  have hl0 : w.heap.size < W.heap.size := by omega
  have hl1 : w.heap.size + 1 < W.heap.size := by omega
  have KS := Lib.hid (fun (w' : World) (hb : Below W.heap.size W w') => show (fun (w' : World) => w'.cell? ⟨w.heap.size, 0, none⟩ = some (.int .i64 k) ∧ w'.cell? ⟨w.heap.size, 1, none⟩ = some (.int .i64 0) ∧ w'.cell? ⟨w.heap.size, 2, none⟩ = some (.int .i64 d) ∧ w'.cell? ⟨w.heap.size, 3, none⟩ = some (.int .u8 b) ∧ w'.cell? ⟨w.heap.size, 4, none⟩ = some (.string s) ∧ w'.cell? ⟨w.heap.size, 5, none⟩ = some (.int .i64 0) ∧ w'.cell? ⟨w.heap.size + 1, 0, none⟩ = some (.int .i64 x) ∧ w'.cell? ⟨w.heap.size + 1, 1, none⟩ = some (.int .u8 y) ∧ w'.cell? ⟨w.heap.size + 1, 2, none⟩ = some (.string z) ∧ Below W.heap.size W w') w' from ⟨(hb.cell (p := ⟨w.heap.size, 0, none⟩) hl0).trans k0_0, (hb.cell (p := ⟨w.heap.size, 1, none⟩) hl0).trans k0_1, (hb.cell (p := ⟨w.heap.size, 2, none⟩) hl0).trans k0_2, (hb.cell (p := ⟨w.heap.size, 3, none⟩) hl0).trans k0_3, (hb.cell (p := ⟨w.heap.size, 4, none⟩) hl0).trans k0_4, (hb.cell (p := ⟨w.heap.size, 5, none⟩) hl0).trans k0_5, (hb.cell (p := ⟨w.heap.size + 1, 0, none⟩) hl1).trans k1_0, (hb.cell (p := ⟨w.heap.size + 1, 1, none⟩) hl1).trans k1_1, (hb.cell (p := ⟨w.heap.size + 1, 2, none⟩) hl1).trans k1_2, hb⟩)
  clear R0 R1 hB
  have hW0 := Below.refl W.heap.size W
  go_region_held3 (fun (w' : World) => w'.cell? ⟨w.heap.size, 0, none⟩ = some (.int .i64 k) ∧ w'.cell? ⟨w.heap.size, 1, none⟩ = some (.int .i64 0) ∧ w'.cell? ⟨w.heap.size, 2, none⟩ = some (.int .i64 d) ∧ w'.cell? ⟨w.heap.size, 3, none⟩ = some (.int .u8 b) ∧ w'.cell? ⟨w.heap.size, 4, none⟩ = some (.string s) ∧ w'.cell? ⟨w.heap.size, 5, none⟩ = some (.int .i64 0) ∧ w'.cell? ⟨w.heap.size + 1, 0, none⟩ = some (.int .i64 x) ∧ w'.cell? ⟨w.heap.size + 1, 1, none⟩ = some (.int .u8 y) ∧ w'.cell? ⟨w.heap.size + 1, 2, none⟩ = some (.string z) ∧ Below W.heap.size W w') (((try go_split_ands); (first | (exact KS.out _ (below_on (w := W) (by assumption) hq)) | (exact KS.out _ (Below.drew (by assumption))) | ((repeat' apply And.intro) <;> (first | assumption | go_keep)))))
    (first | (go_at_call 32; (with_reducible refine (awake17_any _ (tab_on HTW.out ?_)).mono ?_); (first | assumption | (go_split_ands; assumption)); rintro e wq ⟨rfl, hq⟩) | (go_at_call 33; (with_reducible refine (vvalid_any _ _ _ _ _ _ _).mono ?_); rintro e wq ⟨rfl, hq⟩) | (go_at_call 34; (with_reducible refine (rvvalid_any _ _ _ _ _ _ hs1 _).mono ?_); rintro e wq ⟨rfl, hq⟩) | (go_at_call 35; (with_reducible refine (HF.out _).mono ?_); rintro e wq ⟨rfl, hq⟩) | (go_at_call 36; (with_reducible refine (HRF.out _).mono ?_); rintro e wq ⟨rfl, hq⟩) | (go_at_call 37; (with_reducible refine (vfmt_all _ _ _ _ _ _ h0 h1 _ (tab_on HTW.out ?_)).mono ?_); (first | assumption | (go_split_ands; assumption)); rintro e wq ⟨rfl, hq⟩) | (go_at_call 38; (with_reducible refine (rvfmt_all _ _ _ _ _ _ h0 h1 hs1 _ (tab_on HTW.out ?_)).mono ?_); (first | assumption | (go_split_ands; assumption)); rintro e wq ⟨rfl, hq⟩) | (go_at_call 39; (with_reducible refine (HQ.out _).mono ?_); rintro e wq ⟨rfl, hq⟩))
  go_wp2
  go_ret
  refine ⟨rfl, ?_⟩
  go_split_ands
  exact below_on HBW.out (by assumption)
theorem vref_law (k n d b : Int) (s : ByteArray) (p x y : Int) (z : ByteArray) (h0 : -9223372036854775808 ≤ n) (h1 : n ≤ 9223372036854775807) (hs : s.size ≤ 9223372036854775807) (hz : z.size ≤ 9223372036854775807) (w : World) (ht : Tab w) :
    Calls Tryd.prog 9 #[.agg #[.int .i64 k, .int .i64 n, .int .i64 d, .int .u8 b, .string s, .int .i64 p], .agg #[.int .i64 x, .int .u8 y, .string z]] w fun e w' => e = .returned (.bool true) ∧ Below w.heap.size w w' := by
  obtain ⟨fk, fd, fb, fs, hft⟩ := ft_form x y z
  by_cases c0 : k = fk
  · subst c0
    by_cases c1 : n = 0
    · subst c1
      by_cases c2 : d = fd
      · subst c2
        by_cases c3 : b = fb
        · subst c3
          by_cases c4 : s.toList = fs.toList
          · have c4' : s = fs := by
              have h1 := congrArg List.toArray c4
              cases s; cases fs
              simpa [ByteArray.toList_eq] using c4
            subst c4'
            by_cases c5 : p = 0
            · subst c5
              exact vref_case6 _ _ _ _ x y z hs hz hft trivial w ht
            · exact vref_case5 _ _ _ _ _ x y z hs hz hft c5 w ht
          · exact vref_case4 _ _ _ _ _ _ x y z hs hz hft c4 w ht
        · exact vref_case3 _ _ _ _ _ _ _ x y z hs hz hft c3 w ht
      · exact vref_case2 _ _ _ _ _ _ _ _ x y z hs hz hft c2 w ht
    · exact vref_case1 _ _ _ _ _ _ _ _ _ x y z h0 h1 hs hz hft c1 w ht
  · exact vref_case0 _ _ _ _ _ _ _ _ _ _ x y z h0 h1 hs hz hft c0 w ht
end Go.Proofs.YthifmcnemeiphaaDoor
