/- Layer 4: desc.prefix at every string; the reference's take. -/
import Derived.Test.YthfegbhbokhlkaaGreatDoorDescPrefix
namespace Go.Proofs.YthfegbhbokhlkaaGreatDoor
open Go.ChangeShapes Go.WideShapes Go.ChangeAt Go.RowKit Go.PlainAid
set_option linter.unusedSimpArgs false
set_option linter.unusedVariables false

theorem name_cut (s : ByteArray) (i m : Nat) : (⟨((s.data.toList.drop i).take m).toArray⟩ : ByteArray) = s.extract i (i + m) := by
  apply ba_ext
  rw [data_extract, show i + m - i = m by omega]
theorem drop_drop' (s : ByteArray) (i k : Nat) : (s.data.toList.drop i).drop (k + 1) = s.data.toList.drop (i + k + 1) := by rw [List.drop_drop, Nat.add_assoc]

theorem prefix_any (s : ByteArray) (hs : s.size ≤ 140737488355328) (w : World) :
    Calls Tryz.prog 107 #[.string s] w fun e w' => e = .returned (.tuple #[.agg #[.int .i64 (preD s.data.toList), .int .u8 (preB s.data.toList), .string (preS s.data.toList)], .int .i64 (preN s.data.toList)]) ∧ Below w.heap.size w w' := by
  have hlen := len_data s
  have hle := lead_le s.data.toList
  have hd0 : s.data.toList.drop 0 = s.data.toList := List.drop_zero
  by_cases h : lead s.data.toList < s.data.toList.length
  · have hk : lead s.data.toList < s.size := by omega
    have h91 : ¬ bt s (lead s.data.toList) = 91 := by have := lead_not s 0 (by rw [hd0]; omega); rwa [hd0, Nat.zero_add] at this
    have hbt : ((s.data.toList.getD (lead s.data.toList) 0).toNat : Int) = bt s (lead s.data.toList) := by rw [bt_data]
    by_cases h76 : bt s (lead s.data.toList) = 76
    · by_cases ht : till (s.data.toList.drop (lead s.data.toList + 1)) < (s.data.toList.drop (lead s.data.toList + 1)).length
      · have hp := pre_cls h (by rw [hbt]; exact h76) ht
        rw [name_cut] at hp
        have htt := ht
        rw [drop_len] at htt
        cases hv : validB (lead s.data.toList) 76 (s.extract (lead s.data.toList + 1) (lead s.data.toList + 1 + till (s.data.toList.drop (lead s.data.toList + 1)))) with
        | true =>
          rw [pre_ok hv] at hp
          obtain ⟨p1, p2, p3, p4⟩ := pre_is hp
          rw [p1, p2, p3, p4]
          exact prefix_cls_ok s _ hs rfl _ hk h76 rfl (by omega) hv w
        | false =>
          rw [pre_bad hv] at hp
          obtain ⟨p1, p2, p3, p4⟩ := pre_is hp
          rw [p1, p2, p3, p4]
          exact prefix_cls_bad s _ hs rfl _ hk h76 rfl (by omega) hv w
      · obtain ⟨p1, p2, p3, p4⟩ := pre_is (pre_open h (by rw [hbt]; exact h76) ht)
        rw [p1, p2, p3, p4]
        exact prefix_open s _ hs rfl hk h76 ht w
    · have hp := pre_prim h (by rw [hbt]; exact h76)
      rw [hbt] at hp
      cases hv : validB (lead s.data.toList) (bt s (lead s.data.toList)) ⟨#[]⟩ with
      | true =>
        rw [pre_ok hv] at hp
        obtain ⟨p1, p2, p3, p4⟩ := pre_is hp
        rw [p1, p2, p3, p4]
        exact prefix_prim_ok s _ hs rfl hk h91 h76 hv w
      | false =>
        rw [pre_bad hv] at hp
        obtain ⟨p1, p2, p3, p4⟩ := pre_is hp
        rw [p1, p2, p3, p4]
        exact prefix_prim_bad s _ hs rfl hk h91 h76 hv w
  · obtain ⟨p1, p2, p3, p4⟩ := pre_is (pre_end h)
    rw [p1, p2, p3, p4]
    exact prefix_end s _ hs rfl (by omega) w

set_option maxHeartbeats 1000000 in
theorem take_end (s : ByteArray) (i k : Nat) (hs : s.size ≤ 140737488355328) (hi : i ≤ s.size) (hl : lead (s.data.toList.drop i) = k) (hk : i + k = s.size) (w : World) :
    Calls Tryz.prog 103 #[.string s, .int .i64 i] w fun e w' => e = .returned (.tuple #[.agg #[.int .i64 0, .int .u8 0, .string ⟨#[]⟩], .int .i64 (-1)]) ∧ Below w.heap.size w w' := by
  have hgb := get_bt s
  have hB : Below w.heap.size w w := Below.refl _ _
  have h91 : ∀ j, j < k → bt s (i + j) = 91 := fun j hj => lead_lt s i j (by omega)
  have H91 := Lib.hid h91; clear h91
  have hk0 : i + k ≤ s.size := by have := lead_bd s i hi; omega
  clear hl
  have hk2 : s.size ≤ i + k := by omega
  clear hk
  go_enter Tryz.func103, Tryz.ntmps103
  go_wp2
  go_loopw [1] (fun a wr => ∃ j : Nat, j ≤ k ∧ a = .int .i64 (i + j : Nat) ∧ wr = (w.alloc (.cells #[.int .i64 0, .int .u8 0, .string ⟨#[]⟩] 118)).alloc (.cells #[.int .i64 j, .int .u8 0, .string ⟨#[]⟩] 118)) (fun a _ => i + k - (intOf a).toNat)
  case atStart => exact ⟨0, Nat.zero_le _, rfl, rfl⟩
  case round =>
    obtain ⟨j, hj, rfl, rfl⟩ := hrel
    by_cases hlt : j < k
    · have hb := H91.out j hlt
      have hjs : i + j < s.size := by omega
      go_wp2
      go_roundw
      case rel => exact ⟨j + 1, by omega, by go_num, rfl⟩
      case measure => simp [intOf]; omega
    · obtain rfl : j = k := by omega
      go_wp2
      refine bodyPost_ret (v := .tuple #[.agg #[.int .i64 0, .int .u8 0, .string ⟨#[]⟩], .int .i64 (-1)]) ?_ rfl ⟨rfl, (by repeat (first | with_reducible exact hB | with_reducible exact Below.refl _ _ | with_reducible refine below_al ?_ _ | with_reducible refine below_st ?_ (by first | exact Nat.le_refl _ | exact Nat.le_add_right _ _ | (simp; omega)) _))⟩
      simp [results, Tryz.f103, go_sem]

set_option maxHeartbeats 1000000 in
theorem take_prim_ok (s : ByteArray) (i k : Nat) (hs : s.size ≤ 140737488355328) (hi : i ≤ s.size) (hl : lead (s.data.toList.drop i) = k) (hk : i + k < s.size) (hb : ¬ bt s (i + k) = 91) (h76 : ¬ bt s (i + k) = 76) (hv : validB k (bt s (i + k)) ⟨#[]⟩ = true) (w : World) :
    Calls Tryz.prog 103 #[.string s, .int .i64 i] w fun e w' => e = .returned (.tuple #[.agg #[.int .i64 k, .int .u8 (bt s (i + k)), .string ⟨#[]⟩], .int .i64 (i + k + 1 : Nat)]) ∧ Below w.heap.size w w' := by
  have hgb := get_bt s
  have hB : Below w.heap.size w w := Below.refl _ _
  have h91 : ∀ j, j < k → bt s (i + j) = 91 := fun j hj => lead_lt s i j (by omega)
  have H91 := Lib.hid h91; clear h91
  have hk0 : i + k ≤ s.size := by have := lead_bd s i hi; omega
  clear hl
  have hb' := beqF hb
  have h76' := beqF h76
  clear hb h76
  go_enter Tryz.func103, Tryz.ntmps103
  go_wp2
  go_loopw [1] (fun a wr => ∃ j : Nat, j ≤ k ∧ a = .int .i64 (i + j : Nat) ∧ wr = (w.alloc (.cells #[.int .i64 0, .int .u8 0, .string ⟨#[]⟩] 118)).alloc (.cells #[.int .i64 j, .int .u8 0, .string ⟨#[]⟩] 118)) (fun a _ => i + k - (intOf a).toNat)
  case atStart => exact ⟨0, Nat.zero_le _, rfl, rfl⟩
  case round =>
    obtain ⟨j, hj, rfl, rfl⟩ := hrel
    by_cases hlt : j < k
    · have hb := H91.out j hlt
      have hjs : i + j < s.size := by omega
      go_wp2
      go_roundw
      case rel => exact ⟨j + 1, by omega, by go_num, rfl⟩
      case measure => simp [intOf]; omega
    · obtain rfl : j = k := by omega
      go_wp2_with (go_at_call 108; refine (rvalid_any _ _ _ (by show 0 ≤ _; omega) _).mono ?_; rintro e w1 ⟨rfl, hb1⟩; obtain ⟨hc1, hf1⟩ := bcell hb1; have hz1 := hb1.size; (try simp only [World.size_alloc, World.size_setCell] at hz1); (try have hza : w.heap.size < w1.heap.size := by omega); (try have hzb : w.heap.size + 1 < w1.heap.size := by omega); (try have hzc : w.heap.size + 1 + 1 < w1.heap.size := by omega); (try have hzd : wa.heap.size < w1.heap.size := by omega); (try replace hR := (hb1.block w.heap.size (by first | exact lt_heap hR | (have := lt_heap hR; simp; omega))).trans (by first | with_reducible exact hR | with_reducible exact laid_old hR)); replace hB := below_on (w := w) ((by repeat (first | with_reducible exact hB | with_reducible exact Below.refl _ _ | with_reducible refine below_al ?_ _ | with_reducible refine below_st ?_ (by first | exact Nat.le_refl _ | exact Nat.le_add_right _ _ | (simp; omega)) _))) hb1; clear hb1)
      obtain ⟨d0, d1, d2⟩ := read3 (W := w1) (B := w.heap.size) (a := .int .i64 j) (b := .int .u8 (bt s (i + j))) (c := .string ⟨#[]⟩) (by rw [hc1 _ _ (by simp; try omega)]; simp) (by rw [hc1 _ _ (by simp; try omega)]; simp) (by rw [hc1 _ _ (by simp; try omega)]; simp)
      refine bodyPost_ret (v := .tuple #[.agg #[.int .i64 j, .int .u8 (bt s (i + j)), .string ⟨#[]⟩], .int .i64 (i + j + 1 : Nat)]) ?_ rfl ⟨rfl, (by repeat (first | with_reducible exact hB | with_reducible exact Below.refl _ _ | with_reducible refine below_al ?_ _ | with_reducible refine below_st ?_ (by first | exact Nat.le_refl _ | exact Nat.le_add_right _ _ | (simp; omega)) _))⟩
      simp [results, Tryz.f103, go_sem, d0, d1, d2]

set_option maxHeartbeats 1000000 in
theorem take_prim_bad (s : ByteArray) (i k : Nat) (hs : s.size ≤ 140737488355328) (hi : i ≤ s.size) (hl : lead (s.data.toList.drop i) = k) (hk : i + k < s.size) (hb : ¬ bt s (i + k) = 91) (h76 : ¬ bt s (i + k) = 76) (hv : validB k (bt s (i + k)) ⟨#[]⟩ = false) (w : World) :
    Calls Tryz.prog 103 #[.string s, .int .i64 i] w fun e w' => e = .returned (.tuple #[.agg #[.int .i64 0, .int .u8 0, .string ⟨#[]⟩], .int .i64 (-1)]) ∧ Below w.heap.size w w' := by
  have hgb := get_bt s
  have hB : Below w.heap.size w w := Below.refl _ _
  have h91 : ∀ j, j < k → bt s (i + j) = 91 := fun j hj => lead_lt s i j (by omega)
  have H91 := Lib.hid h91; clear h91
  have hk0 : i + k ≤ s.size := by have := lead_bd s i hi; omega
  clear hl
  have hb' := beqF hb
  have h76' := beqF h76
  clear hb h76
  go_enter Tryz.func103, Tryz.ntmps103
  go_wp2
  go_loopw [1] (fun a wr => ∃ j : Nat, j ≤ k ∧ a = .int .i64 (i + j : Nat) ∧ wr = (w.alloc (.cells #[.int .i64 0, .int .u8 0, .string ⟨#[]⟩] 118)).alloc (.cells #[.int .i64 j, .int .u8 0, .string ⟨#[]⟩] 118)) (fun a _ => i + k - (intOf a).toNat)
  case atStart => exact ⟨0, Nat.zero_le _, rfl, rfl⟩
  case round =>
    obtain ⟨j, hj, rfl, rfl⟩ := hrel
    by_cases hlt : j < k
    · have hb := H91.out j hlt
      have hjs : i + j < s.size := by omega
      go_wp2
      go_roundw
      case rel => exact ⟨j + 1, by omega, by go_num, rfl⟩
      case measure => simp [intOf]; omega
    · obtain rfl : j = k := by omega
      go_wp2_with (go_at_call 108; refine (rvalid_any _ _ _ (by show 0 ≤ _; omega) _).mono ?_; rintro e w1 ⟨rfl, hb1⟩; obtain ⟨hc1, hf1⟩ := bcell hb1; have hz1 := hb1.size; (try simp only [World.size_alloc, World.size_setCell] at hz1); (try have hza : w.heap.size < w1.heap.size := by omega); (try have hzb : w.heap.size + 1 < w1.heap.size := by omega); (try have hzc : w.heap.size + 1 + 1 < w1.heap.size := by omega); (try have hzd : wa.heap.size < w1.heap.size := by omega); (try replace hR := (hb1.block w.heap.size (by first | exact lt_heap hR | (have := lt_heap hR; simp; omega))).trans (by first | with_reducible exact hR | with_reducible exact laid_old hR)); replace hB := below_on (w := w) ((by repeat (first | with_reducible exact hB | with_reducible exact Below.refl _ _ | with_reducible refine below_al ?_ _ | with_reducible refine below_st ?_ (by first | exact Nat.le_refl _ | exact Nat.le_add_right _ _ | (simp; omega)) _))) hb1; clear hb1)
      obtain ⟨d0, d1, d2⟩ := read3 (W := w1) (B := w.heap.size) (a := .int .i64 0) (b := .int .u8 0) (c := .string ⟨#[]⟩) (by rw [hc1 _ _ (by simp; try omega)]; simp) (by rw [hc1 _ _ (by simp; try omega)]; simp) (by rw [hc1 _ _ (by simp; try omega)]; simp)
      refine bodyPost_ret (v := .tuple #[.agg #[.int .i64 0, .int .u8 0, .string ⟨#[]⟩], .int .i64 (-1)]) ?_ rfl ⟨rfl, (by repeat (first | with_reducible exact hB | with_reducible exact Below.refl _ _ | with_reducible refine below_al ?_ _ | with_reducible refine below_st ?_ (by first | exact Nat.le_refl _ | exact Nat.le_add_right _ _ | (simp; omega)) _))⟩
      simp [results, Tryz.f103, go_sem, d0, d1, d2]

set_option maxHeartbeats 1000000 in
theorem take_open (s : ByteArray) (i k : Nat) (hs : s.size ≤ 140737488355328) (hi : i ≤ s.size) (hl : lead (s.data.toList.drop i) = k) (m : Nat) (hk : i + k < s.size) (h76 : bt s (i + k) = 76) (hm : till (s.data.toList.drop (i + k + 1)) = m) (ht : i + k + 1 + m = s.size) (w : World) :
    Calls Tryz.prog 103 #[.string s, .int .i64 i] w fun e w' => e = .returned (.tuple #[.agg #[.int .i64 0, .int .u8 0, .string ⟨#[]⟩], .int .i64 (-1)]) ∧ Below w.heap.size w w' := by
  have hgb := get_bt s
  have hB : Below w.heap.size w w := Below.refl _ _
  have h91 : ∀ j, j < k → bt s (i + j) = 91 := fun j hj => lead_lt s i j (by omega)
  have H91 := Lib.hid h91; clear h91
  have hk0 : i + k ≤ s.size := by have := lead_bd s i hi; omega
  clear hl
  have h59 : ∀ q, q < m → ¬ bt s (i + k + 1 + q) = 59 := fun q hq => till_lt s (i + k + 1) q (by omega)
  have H59 := Lib.hid h59; clear h59
  have h76' : (bt s (i + k) == 76) = true := by rw [h76]; rfl
  have ht1 : i + k + 1 + m ≤ s.size := by omega
  have ht2 : s.size ≤ i + k + 1 + m := by omega
  clear ht hm
  go_enter Tryz.func103, Tryz.ntmps103
  go_wp2
  go_loopw [1] (fun a wr => ∃ j : Nat, j ≤ k ∧ a = .int .i64 (i + j : Nat) ∧ wr = (w.alloc (.cells #[.int .i64 0, .int .u8 0, .string ⟨#[]⟩] 118)).alloc (.cells #[.int .i64 j, .int .u8 0, .string ⟨#[]⟩] 118)) (fun a _ => i + k - (intOf a).toNat)
  case atStart => exact ⟨0, Nat.zero_le _, rfl, rfl⟩
  case round =>
    obtain ⟨j, hj, rfl, rfl⟩ := hrel
    by_cases hlt : j < k
    · have hb := H91.out j hlt
      have hjs : i + j < s.size := by omega
      go_wp2
      go_roundw
      case rel => exact ⟨j + 1, by omega, by go_num, rfl⟩
      case measure => simp [intOf]; omega
    · obtain rfl : j = k := by omega
      go_wp2
      go_loop [1] (fun a => ∃ q : Nat, q ≤ m ∧ a = .int .i64 (i + j + 1 + q : Nat)) (fun a => i + j + 1 + m - (intOf a).toNat)
      case atStart => exact ⟨0, Nat.zero_le _, by go_num⟩
      case round =>
        obtain ⟨q, hq, rfl⟩ := hrel
        by_cases hlt2 : q < m
        · have hb2 := beqF (H59.out q hlt2)
          have hb3 : (bt s (i + j + 1 + q) != 59) = true := by simpa using hb2
          have hqs : i + j + 1 + q < s.size := by omega
          go_wp2
          go_round
          case rel => exact ⟨q + 1, by omega, by go_num⟩
          case measure => simp [intOf]; omega
        · obtain rfl : q = m := by omega
          go_wp2
          refine bodyPost_ret (v := .tuple #[.agg #[.int .i64 0, .int .u8 0, .string ⟨#[]⟩], .int .i64 (-1)]) ?_ rfl ⟨rfl, (by repeat (first | with_reducible exact hB | with_reducible exact Below.refl _ _ | with_reducible refine below_al ?_ _ | with_reducible refine below_st ?_ (by first | exact Nat.le_refl _ | exact Nat.le_add_right _ _ | (simp; omega)) _))⟩
          simp [results, Tryz.f103, go_sem]

set_option maxHeartbeats 1000000 in
theorem take_cls_ok (s : ByteArray) (i k : Nat) (hs : s.size ≤ 140737488355328) (hi : i ≤ s.size) (hl : lead (s.data.toList.drop i) = k) (m : Nat) (hk : i + k < s.size) (h76 : bt s (i + k) = 76) (hm : till (s.data.toList.drop (i + k + 1)) = m) (ht : i + k + 1 + m < s.size) (hv : validB k 76 (s.extract (i + k + 1) (i + k + 1 + m)) = true) (w : World) :
    Calls Tryz.prog 103 #[.string s, .int .i64 i] w fun e w' => e = .returned (.tuple #[.agg #[.int .i64 k, .int .u8 76, .string (s.extract (i + k + 1) (i + k + 1 + m))], .int .i64 (i + k + 1 + m + 1 : Nat)]) ∧ Below w.heap.size w w' := by
  have hgb := get_bt s
  have hB : Below w.heap.size w w := Below.refl _ _
  have h91 : ∀ j, j < k → bt s (i + j) = 91 := fun j hj => lead_lt s i j (by omega)
  have H91 := Lib.hid h91; clear h91
  have hk0 : i + k ≤ s.size := by have := lead_bd s i hi; omega
  clear hl
  have h59 : ∀ q, q < m → ¬ bt s (i + k + 1 + q) = 59 := fun q hq => till_lt s (i + k + 1) q (by omega)
  have H59 := Lib.hid h59; clear h59
  have h76' : (bt s (i + k) == 76) = true := by rw [h76]; rfl
  have h59e : bt s (i + k + 1 + m) = 59 := by rw [← hm]; exact till_is s _ (by rw [hm]; exact ht)
  clear hm
  go_enter Tryz.func103, Tryz.ntmps103
  go_wp2
  go_loopw [1] (fun a wr => ∃ j : Nat, j ≤ k ∧ a = .int .i64 (i + j : Nat) ∧ wr = (w.alloc (.cells #[.int .i64 0, .int .u8 0, .string ⟨#[]⟩] 118)).alloc (.cells #[.int .i64 j, .int .u8 0, .string ⟨#[]⟩] 118)) (fun a _ => i + k - (intOf a).toNat)
  case atStart => exact ⟨0, Nat.zero_le _, rfl, rfl⟩
  case round =>
    obtain ⟨j, hj, rfl, rfl⟩ := hrel
    by_cases hlt : j < k
    · have hb := H91.out j hlt
      have hjs : i + j < s.size := by omega
      go_wp2
      go_roundw
      case rel => exact ⟨j + 1, by omega, by go_num, rfl⟩
      case measure => simp [intOf]; omega
    · obtain rfl : j = k := by omega
      go_wp2
      go_loop [1] (fun a => ∃ q : Nat, q ≤ m ∧ a = .int .i64 (i + j + 1 + q : Nat)) (fun a => i + j + 1 + m - (intOf a).toNat)
      case atStart => exact ⟨0, Nat.zero_le _, by go_num⟩
      case round =>
        obtain ⟨q, hq, rfl⟩ := hrel
        by_cases hlt2 : q < m
        · have hb2 := beqF (H59.out q hlt2)
          have hb3 : (bt s (i + j + 1 + q) != 59) = true := by simpa using hb2
          have hqs : i + j + 1 + q < s.size := by omega
          go_wp2
          go_round
          case rel => exact ⟨q + 1, by omega, by go_num⟩
          case measure => simp [intOf]; omega
        · obtain rfl : q = m := by omega
          go_wp2_with (go_at_call 108; refine (rvalid_any _ _ _ (by simp; omega) _).mono ?_; rintro e w1 ⟨rfl, hb1⟩; obtain ⟨hc1, hf1⟩ := bcell hb1; have hz1 := hb1.size; (try simp only [World.size_alloc, World.size_setCell] at hz1); (try have hza : w.heap.size < w1.heap.size := by omega); (try have hzb : w.heap.size + 1 < w1.heap.size := by omega); (try have hzc : w.heap.size + 1 + 1 < w1.heap.size := by omega); (try have hzd : wa.heap.size < w1.heap.size := by omega); (try replace hR := (hb1.block w.heap.size (by first | exact lt_heap hR | (have := lt_heap hR; simp; omega))).trans (by first | with_reducible exact hR | with_reducible exact laid_old hR)); replace hB := below_on (w := w) ((by repeat (first | with_reducible exact hB | with_reducible exact Below.refl _ _ | with_reducible refine below_al ?_ _ | with_reducible refine below_st ?_ (by first | exact Nat.le_refl _ | exact Nat.le_add_right _ _ | (simp; omega)) _))) hb1; clear hb1)
          obtain ⟨d0, d1, d2⟩ := read3 (W := w1) (B := w.heap.size) (a := .int .i64 j) (b := .int .u8 76) (c := .string (s.extract (i + j + 1) (i + j + 1 + q))) (by rw [hc1 _ _ (by simp; try omega)]; simp) (by rw [hc1 _ _ (by simp; try omega)]; simp) (by rw [hc1 _ _ (by simp; try omega)]; simp)
          refine bodyPost_ret (v := .tuple #[.agg #[.int .i64 j, .int .u8 76, .string (s.extract (i + j + 1) (i + j + 1 + q))], .int .i64 (i + j + 1 + q + 1 : Nat)]) ?_ rfl ⟨rfl, (by repeat (first | with_reducible exact hB | with_reducible exact Below.refl _ _ | with_reducible refine below_al ?_ _ | with_reducible refine below_st ?_ (by first | exact Nat.le_refl _ | exact Nat.le_add_right _ _ | (simp; omega)) _))⟩
          simp [results, Tryz.f103, go_sem, d0, d1, d2]

set_option maxHeartbeats 1000000 in
theorem take_cls_bad (s : ByteArray) (i k : Nat) (hs : s.size ≤ 140737488355328) (hi : i ≤ s.size) (hl : lead (s.data.toList.drop i) = k) (m : Nat) (hk : i + k < s.size) (h76 : bt s (i + k) = 76) (hm : till (s.data.toList.drop (i + k + 1)) = m) (ht : i + k + 1 + m < s.size) (hv : validB k 76 (s.extract (i + k + 1) (i + k + 1 + m)) = false) (w : World) :
    Calls Tryz.prog 103 #[.string s, .int .i64 i] w fun e w' => e = .returned (.tuple #[.agg #[.int .i64 0, .int .u8 0, .string ⟨#[]⟩], .int .i64 (-1)]) ∧ Below w.heap.size w w' := by
  have hgb := get_bt s
  have hB : Below w.heap.size w w := Below.refl _ _
  have h91 : ∀ j, j < k → bt s (i + j) = 91 := fun j hj => lead_lt s i j (by omega)
  have H91 := Lib.hid h91; clear h91
  have hk0 : i + k ≤ s.size := by have := lead_bd s i hi; omega
  clear hl
  have h59 : ∀ q, q < m → ¬ bt s (i + k + 1 + q) = 59 := fun q hq => till_lt s (i + k + 1) q (by omega)
  have H59 := Lib.hid h59; clear h59
  have h76' : (bt s (i + k) == 76) = true := by rw [h76]; rfl
  have h59e : bt s (i + k + 1 + m) = 59 := by rw [← hm]; exact till_is s _ (by rw [hm]; exact ht)
  clear hm
  go_enter Tryz.func103, Tryz.ntmps103
  go_wp2
  go_loopw [1] (fun a wr => ∃ j : Nat, j ≤ k ∧ a = .int .i64 (i + j : Nat) ∧ wr = (w.alloc (.cells #[.int .i64 0, .int .u8 0, .string ⟨#[]⟩] 118)).alloc (.cells #[.int .i64 j, .int .u8 0, .string ⟨#[]⟩] 118)) (fun a _ => i + k - (intOf a).toNat)
  case atStart => exact ⟨0, Nat.zero_le _, rfl, rfl⟩
  case round =>
    obtain ⟨j, hj, rfl, rfl⟩ := hrel
    by_cases hlt : j < k
    · have hb := H91.out j hlt
      have hjs : i + j < s.size := by omega
      go_wp2
      go_roundw
      case rel => exact ⟨j + 1, by omega, by go_num, rfl⟩
      case measure => simp [intOf]; omega
    · obtain rfl : j = k := by omega
      go_wp2
      go_loop [1] (fun a => ∃ q : Nat, q ≤ m ∧ a = .int .i64 (i + j + 1 + q : Nat)) (fun a => i + j + 1 + m - (intOf a).toNat)
      case atStart => exact ⟨0, Nat.zero_le _, by go_num⟩
      case round =>
        obtain ⟨q, hq, rfl⟩ := hrel
        by_cases hlt2 : q < m
        · have hb2 := beqF (H59.out q hlt2)
          have hb3 : (bt s (i + j + 1 + q) != 59) = true := by simpa using hb2
          have hqs : i + j + 1 + q < s.size := by omega
          go_wp2
          go_round
          case rel => exact ⟨q + 1, by omega, by go_num⟩
          case measure => simp [intOf]; omega
        · obtain rfl : q = m := by omega
          go_wp2_with (go_at_call 108; refine (rvalid_any _ _ _ (by simp; omega) _).mono ?_; rintro e w1 ⟨rfl, hb1⟩; obtain ⟨hc1, hf1⟩ := bcell hb1; have hz1 := hb1.size; (try simp only [World.size_alloc, World.size_setCell] at hz1); (try have hza : w.heap.size < w1.heap.size := by omega); (try have hzb : w.heap.size + 1 < w1.heap.size := by omega); (try have hzc : w.heap.size + 1 + 1 < w1.heap.size := by omega); (try have hzd : wa.heap.size < w1.heap.size := by omega); (try replace hR := (hb1.block w.heap.size (by first | exact lt_heap hR | (have := lt_heap hR; simp; omega))).trans (by first | with_reducible exact hR | with_reducible exact laid_old hR)); replace hB := below_on (w := w) ((by repeat (first | with_reducible exact hB | with_reducible exact Below.refl _ _ | with_reducible refine below_al ?_ _ | with_reducible refine below_st ?_ (by first | exact Nat.le_refl _ | exact Nat.le_add_right _ _ | (simp; omega)) _))) hb1; clear hb1)
          obtain ⟨d0, d1, d2⟩ := read3 (W := w1) (B := w.heap.size) (a := .int .i64 0) (b := .int .u8 0) (c := .string ⟨#[]⟩) (by rw [hc1 _ _ (by simp; try omega)]; simp) (by rw [hc1 _ _ (by simp; try omega)]; simp) (by rw [hc1 _ _ (by simp; try omega)]; simp)
          refine bodyPost_ret (v := .tuple #[.agg #[.int .i64 0, .int .u8 0, .string ⟨#[]⟩], .int .i64 (-1)]) ?_ rfl ⟨rfl, (by repeat (first | with_reducible exact hB | with_reducible exact Below.refl _ _ | with_reducible refine below_al ?_ _ | with_reducible refine below_st ?_ (by first | exact Nat.le_refl _ | exact Nat.le_add_right _ _ | (simp; omega)) _))⟩
          simp [results, Tryz.f103, go_sem, d0, d1, d2]

end Go.Proofs.YthfegbhbokhlkaaGreatDoor
