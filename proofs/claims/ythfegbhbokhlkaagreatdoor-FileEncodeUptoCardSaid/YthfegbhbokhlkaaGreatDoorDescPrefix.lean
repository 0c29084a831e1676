/- Layer 4: desc.prefix. -/
import Derived.Test.YthfegbhbokhlkaaGreatDoorDescPre
namespace Go.Proofs.YthfegbhbokhlkaaGreatDoor
open Go.ChangeShapes Go.WideShapes Go.ChangeAt Go.RowKit Go.PlainAid
set_option linter.unusedSimpArgs false
set_option linter.unusedVariables false

set_option maxHeartbeats 1000000 in
theorem prefix_end (s : ByteArray) (k : Nat) (hs : s.size ≤ 140737488355328) (hl : lead s.data.toList = k) (hk : k = s.size) (w : World) :
    Calls Tryz.prog 107 #[.string s] w fun e w' => e = .returned (.tuple #[.agg #[.int .i64 0, .int .u8 0, .string ⟨#[]⟩], .int .i64 0]) ∧ Below w.heap.size w w' := by
  have hgb := get_bt s
  have hB : Below w.heap.size w w := Below.refl _ _
  have h91 : ∀ j, j < k → bt s j = 91 := fun j hj => by have := lead_lt s 0 j (by rw [List.drop_zero]; omega); rwa [Nat.zero_add] at this
  have H91 := Lib.hid h91; clear h91 hl
  have hk1 : k ≤ s.size := by omega
  have hk2 : s.size ≤ k := by omega
  clear hk
  go_enter Tryz.func107, Tryz.ntmps107
  go_wp2
  go_loop [4] (fun i => ∃ j : Nat, j ≤ k ∧ i = .int .i64 j) (fun i => s.size - (intOf i).toNat)
  case atStart => exact ⟨0, Nat.zero_le _, rfl⟩
  case round =>
    obtain ⟨j, hj, rfl⟩ := hrel
    by_cases hlt : j < k
    · have hb := H91.out j hlt
      have hjs : j < s.size := by omega
      go_wp2
      go_round
      case rel => exact ⟨j + 1, by omega, by go_num⟩
      case measure => simp [intOf]; omega
    · obtain rfl : j = k := by omega
      go_wp2
      refine bodyPost_ret (v := .tuple #[.agg #[.int .i64 0, .int .u8 0, .string ⟨#[]⟩], .int .i64 0]) ?_ rfl ⟨rfl, (by repeat (first | with_reducible exact hB | with_reducible exact Below.refl _ _ | with_reducible refine below_al ?_ _ | with_reducible refine below_st ?_ (by first | exact Nat.le_refl _ | exact Nat.le_add_right _ _ | (simp; omega)) _))⟩
      simp [results, Tryz.f107, go_sem]

set_option maxHeartbeats 1000000 in
theorem prefix_prim_ok (s : ByteArray) (k : Nat) (hs : s.size ≤ 140737488355328) (hl : lead s.data.toList = k) (hk : k < s.size) (hb : ¬ bt s k = 91) (h76 : ¬ bt s k = 76) (hv : validB k (bt s k) ⟨#[]⟩ = true) (w : World) :
    Calls Tryz.prog 107 #[.string s] w fun e w' => e = .returned (.tuple #[.agg #[.int .i64 k, .int .u8 (bt s k), .string ⟨#[]⟩], .int .i64 (k + 1)]) ∧ Below w.heap.size w w' := by
  have hgb := get_bt s
  have hB : Below w.heap.size w w := Below.refl _ _
  have h91 : ∀ j, j < k → bt s j = 91 := fun j hj => by have := lead_lt s 0 j (by rw [List.drop_zero]; omega); rwa [Nat.zero_add] at this
  have H91 := Lib.hid h91; clear h91 hl
  have hb' := beqF hb
  have h76' := beqF h76
  clear hb h76
  go_enter Tryz.func107, Tryz.ntmps107
  go_wp2
  go_loop [4] (fun i => ∃ j : Nat, j ≤ k ∧ i = .int .i64 j) (fun i => s.size - (intOf i).toNat)
  case atStart => exact ⟨0, Nat.zero_le _, rfl⟩
  case round =>
    obtain ⟨j, hj, rfl⟩ := hrel
    by_cases hlt : j < k
    · have hb := H91.out j hlt
      have hjs : j < s.size := by omega
      go_wp2
      go_round
      case rel => exact ⟨j + 1, by omega, by go_num⟩
      case measure => simp [intOf]; omega
    · obtain rfl : j = k := by omega
      have hne : ((j : Int) == (s.size : Int)) = false := beqF (by omega)
      go_wp2_with (go_at_call 112; refine (valid_any _ _ _ _).mono ?_; rintro e w1 ⟨rfl, hb1⟩; obtain ⟨hc1, hf1⟩ := bcell hb1; have hz1 := hb1.size; (try simp only [World.size_alloc, World.size_setCell] at hz1); (try have hza : w.heap.size < w1.heap.size := by omega); (try have hzb : w.heap.size + 1 < w1.heap.size := by omega); (try have hzc : w.heap.size + 1 + 1 < w1.heap.size := by omega); (try have hzd : wa.heap.size < w1.heap.size := by omega); (try replace hR := (hb1.block w.heap.size (by first | exact lt_heap hR | (have := lt_heap hR; simp; omega))).trans (by first | with_reducible exact hR | with_reducible exact laid_old hR)); replace hB := below_on (w := w) ((by repeat (first | with_reducible exact hB | with_reducible exact Below.refl _ _ | with_reducible refine below_al ?_ _ | with_reducible refine below_st ?_ (by first | exact Nat.le_refl _ | exact Nat.le_add_right _ _ | (simp; omega)) _))) hb1; clear hb1)
      obtain ⟨d0, d1, d2⟩ := read3 (W := w1) (B := w.heap.size) (a := .int .i64 j) (b := .int .u8 (bt s j)) (c := .string ⟨#[]⟩) (by rw [hc1 _ _ (by simp; try omega)]; simp) (by rw [hc1 _ _ (by simp; try omega)]; simp) (by rw [hc1 _ _ (by simp; try omega)]; simp)
      refine bodyPost_ret (v := .tuple #[.agg #[.int .i64 j, .int .u8 (bt s j), .string ⟨#[]⟩], .int .i64 (j + 1)]) ?_ rfl ⟨rfl, (by repeat (first | with_reducible exact hB | with_reducible exact Below.refl _ _ | with_reducible refine below_al ?_ _ | with_reducible refine below_st ?_ (by first | exact Nat.le_refl _ | exact Nat.le_add_right _ _ | (simp; omega)) _))⟩
      simp [results, Tryz.f107, go_sem, d0, d1, d2]

set_option maxHeartbeats 1000000 in
theorem prefix_prim_bad (s : ByteArray) (k : Nat) (hs : s.size ≤ 140737488355328) (hl : lead s.data.toList = k) (hk : k < s.size) (hb : ¬ bt s k = 91) (h76 : ¬ bt s k = 76) (hv : validB k (bt s k) ⟨#[]⟩ = false) (w : World) :
    Calls Tryz.prog 107 #[.string s] w fun e w' => e = .returned (.tuple #[.agg #[.int .i64 0, .int .u8 0, .string ⟨#[]⟩], .int .i64 0]) ∧ Below w.heap.size w w' := by
  have hgb := get_bt s
  have hB : Below w.heap.size w w := Below.refl _ _
  have h91 : ∀ j, j < k → bt s j = 91 := fun j hj => by have := lead_lt s 0 j (by rw [List.drop_zero]; omega); rwa [Nat.zero_add] at this
  have H91 := Lib.hid h91; clear h91 hl
  have hb' := beqF hb
  have h76' := beqF h76
  clear hb h76
  go_enter Tryz.func107, Tryz.ntmps107
  go_wp2
  go_loop [4] (fun i => ∃ j : Nat, j ≤ k ∧ i = .int .i64 j) (fun i => s.size - (intOf i).toNat)
  case atStart => exact ⟨0, Nat.zero_le _, rfl⟩
  case round =>
    obtain ⟨j, hj, rfl⟩ := hrel
    by_cases hlt : j < k
    · have hb := H91.out j hlt
      have hjs : j < s.size := by omega
      go_wp2
      go_round
      case rel => exact ⟨j + 1, by omega, by go_num⟩
      case measure => simp [intOf]; omega
    · obtain rfl : j = k := by omega
      have hne : ((j : Int) == (s.size : Int)) = false := beqF (by omega)
      go_wp2_with (go_at_call 112; refine (valid_any _ _ _ _).mono ?_; rintro e w1 ⟨rfl, hb1⟩; obtain ⟨hc1, hf1⟩ := bcell hb1; have hz1 := hb1.size; (try simp only [World.size_alloc, World.size_setCell] at hz1); (try have hza : w.heap.size < w1.heap.size := by omega); (try have hzb : w.heap.size + 1 < w1.heap.size := by omega); (try have hzc : w.heap.size + 1 + 1 < w1.heap.size := by omega); (try have hzd : wa.heap.size < w1.heap.size := by omega); (try replace hR := (hb1.block w.heap.size (by first | exact lt_heap hR | (have := lt_heap hR; simp; omega))).trans (by first | with_reducible exact hR | with_reducible exact laid_old hR)); replace hB := below_on (w := w) ((by repeat (first | with_reducible exact hB | with_reducible exact Below.refl _ _ | with_reducible refine below_al ?_ _ | with_reducible refine below_st ?_ (by first | exact Nat.le_refl _ | exact Nat.le_add_right _ _ | (simp; omega)) _))) hb1; clear hb1)
      obtain ⟨d0, d1, d2⟩ := read3 (W := w1) (B := w.heap.size) (a := .int .i64 0) (b := .int .u8 0) (c := .string ⟨#[]⟩) (by rw [hc1 _ _ (by simp; try omega)]; simp) (by rw [hc1 _ _ (by simp; try omega)]; simp) (by rw [hc1 _ _ (by simp; try omega)]; simp)
      refine bodyPost_ret (v := .tuple #[.agg #[.int .i64 0, .int .u8 0, .string ⟨#[]⟩], .int .i64 0]) ?_ rfl ⟨rfl, (by repeat (first | with_reducible exact hB | with_reducible exact Below.refl _ _ | with_reducible refine below_al ?_ _ | with_reducible refine below_st ?_ (by first | exact Nat.le_refl _ | exact Nat.le_add_right _ _ | (simp; omega)) _))⟩
      simp [results, Tryz.f107, go_sem, d0, d1, d2]

theorem index_byte (s : ByteArray) (c v : Int) (w : World) (h : Lib.indexByte s.data.toList c.toNat.toUInt8 = v) :
    Calls Tryz.prog 111 #[.string s, .int .u8 c] w fun e w' => e = .returned (.int .i64 v) ∧ w = w' :=
  (Tryz.strings_IndexByte s c w).mono fun e w' h' => ⟨by rw [h'.1, h], h'.2.symm⟩

set_option maxHeartbeats 1000000 in
theorem prefix_open (s : ByteArray) (k : Nat) (hs : s.size ≤ 140737488355328) (hl : lead s.data.toList = k) (hk : k < s.size) (h76 : bt s k = 76) (ht : ¬ till (s.data.toList.drop (k + 1)) < (s.data.toList.drop (k + 1)).length) (w : World) :
    Calls Tryz.prog 107 #[.string s] w fun e w' => e = .returned (.tuple #[.agg #[.int .i64 0, .int .u8 0, .string ⟨#[]⟩], .int .i64 0]) ∧ Below w.heap.size w w' := by
  have hgb := get_bt s
  have hB : Below w.heap.size w w := Below.refl _ _
  have h91 : ∀ j, j < k → bt s j = 91 := fun j hj => by have := lead_lt s 0 j (by rw [List.drop_zero]; omega); rwa [Nat.zero_add] at this
  have H91 := Lib.hid h91; clear h91 hl
  have hi : Lib.indexByte (s.extract (k + 1) s.size).data.toList 59 = -1 := by rw [data_extract, List.take_of_length_le (by rw [drop_len]; omega), index_till, if_neg ht]
  have HI := Lib.hid hi; clear hi ht
  go_enter Tryz.func107, Tryz.ntmps107
  go_wp2
  go_loop [4] (fun i => ∃ j : Nat, j ≤ k ∧ i = .int .i64 j) (fun i => s.size - (intOf i).toNat)
  case atStart => exact ⟨0, Nat.zero_le _, rfl⟩
  case round =>
    obtain ⟨j, hj, rfl⟩ := hrel
    by_cases hlt : j < k
    · have hb := H91.out j hlt
      have hjs : j < s.size := by omega
      go_wp2
      go_round
      case rel => exact ⟨j + 1, by omega, by go_num⟩
      case measure => simp [intOf]; omega
    · obtain rfl : j = k := by omega
      have hne : ((j : Int) == (s.size : Int)) = false := beqF (by omega)
      go_wp2_with (go_at_call 111; refine (index_byte _ _ _ _ HI.out).mono ?_; rintro e w' ⟨rfl, rfl⟩)
      refine bodyPost_ret (v := .tuple #[.agg #[.int .i64 0, .int .u8 0, .string ⟨#[]⟩], .int .i64 0]) ?_ rfl ⟨rfl, (by repeat (first | with_reducible exact hB | with_reducible exact Below.refl _ _ | with_reducible refine below_al ?_ _ | with_reducible refine below_st ?_ (by first | exact Nat.le_refl _ | exact Nat.le_add_right _ _ | (simp; omega)) _))⟩
      simp [results, Tryz.f107, go_sem]

set_option maxHeartbeats 1000000 in
theorem prefix_cls_ok (s : ByteArray) (k : Nat) (hs : s.size ≤ 140737488355328) (hl : lead s.data.toList = k) (m : Nat) (hk : k < s.size) (h76 : bt s k = 76) (ht : till (s.data.toList.drop (k + 1)) = m) (hm : k + 1 + m < s.size) (hv : validB k 76 (s.extract (k + 1) (k + 1 + m)) = true) (w : World) :
    Calls Tryz.prog 107 #[.string s] w fun e w' => e = .returned (.tuple #[.agg #[.int .i64 k, .int .u8 76, .string (s.extract (k + 1) (k + 1 + m))], .int .i64 (k + 1 + (m + 1))]) ∧ Below w.heap.size w w' := by
  have hgb := get_bt s
  have hB : Below w.heap.size w w := Below.refl _ _
  have h91 : ∀ j, j < k → bt s j = 91 := fun j hj => by have := lead_lt s 0 j (by rw [List.drop_zero]; omega); rwa [Nat.zero_add] at this
  have H91 := Lib.hid h91; clear h91 hl
  have hi : Lib.indexByte (s.extract (k + 1) s.size).data.toList 59 = m := by rw [data_extract, List.take_of_length_le (by rw [drop_len]; omega), index_till, ht, if_pos (by rw [drop_len]; omega)]
  have HI := Lib.hid hi; clear hi ht
  go_enter Tryz.func107, Tryz.ntmps107
  go_wp2
  go_loop [4] (fun i => ∃ j : Nat, j ≤ k ∧ i = .int .i64 j) (fun i => s.size - (intOf i).toNat)
  case atStart => exact ⟨0, Nat.zero_le _, rfl⟩
  case round =>
    obtain ⟨j, hj, rfl⟩ := hrel
    by_cases hlt : j < k
    · have hb := H91.out j hlt
      have hjs : j < s.size := by omega
      go_wp2
      go_round
      case rel => exact ⟨j + 1, by omega, by go_num⟩
      case measure => simp [intOf]; omega
    · obtain rfl : j = k := by omega
      have hne : ((j : Int) == (s.size : Int)) = false := beqF (by omega)
      go_wp2_with (first | (go_at_call 111; refine (index_byte _ _ _ _ HI.out).mono ?_; rintro e w' ⟨rfl, rfl⟩) | (go_at_call 112; refine (valid_any _ _ _ _).mono ?_; rintro e w1 ⟨rfl, hb1⟩; obtain ⟨hc1, hf1⟩ := bcell hb1; have hz1 := hb1.size; (try simp only [World.size_alloc, World.size_setCell] at hz1); (try have hza : w.heap.size < w1.heap.size := by omega); (try have hzb : w.heap.size + 1 < w1.heap.size := by omega); (try have hzc : w.heap.size + 1 + 1 < w1.heap.size := by omega); (try have hzd : wa.heap.size < w1.heap.size := by omega); (try replace hR := (hb1.block w.heap.size (by first | exact lt_heap hR | (have := lt_heap hR; simp; omega))).trans (by first | with_reducible exact hR | with_reducible exact laid_old hR)); replace hB := below_on (w := w) ((by repeat (first | with_reducible exact hB | with_reducible exact Below.refl _ _ | with_reducible refine below_al ?_ _ | with_reducible refine below_st ?_ (by first | exact Nat.le_refl _ | exact Nat.le_add_right _ _ | (simp; omega)) _))) hb1; clear hb1))
      obtain ⟨d0, d1, d2⟩ := read3 (W := w1) (B := w.heap.size) (a := .int .i64 j) (b := .int .u8 76) (c := .string (s.extract (j + 1) (j + 1 + m))) (by rw [hc1 _ _ (by simp; try omega)]; simp) (by rw [hc1 _ _ (by simp; try omega)]; simp) (by rw [hc1 _ _ (by simp; try omega)]; simp)
      refine bodyPost_ret (v := .tuple #[.agg #[.int .i64 j, .int .u8 76, .string (s.extract (j + 1) (j + 1 + m))], .int .i64 (j + 1 + (m + 1))]) ?_ rfl ⟨rfl, (by repeat (first | with_reducible exact hB | with_reducible exact Below.refl _ _ | with_reducible refine below_al ?_ _ | with_reducible refine below_st ?_ (by first | exact Nat.le_refl _ | exact Nat.le_add_right _ _ | (simp; omega)) _))⟩
      simp [results, Tryz.f107, go_sem, d0, d1, d2]

set_option maxHeartbeats 1000000 in
theorem prefix_cls_bad (s : ByteArray) (k : Nat) (hs : s.size ≤ 140737488355328) (hl : lead s.data.toList = k) (m : Nat) (hk : k < s.size) (h76 : bt s k = 76) (ht : till (s.data.toList.drop (k + 1)) = m) (hm : k + 1 + m < s.size) (hv : validB k 76 (s.extract (k + 1) (k + 1 + m)) = false) (w : World) :
    Calls Tryz.prog 107 #[.string s] w fun e w' => e = .returned (.tuple #[.agg #[.int .i64 0, .int .u8 0, .string ⟨#[]⟩], .int .i64 0]) ∧ Below w.heap.size w w' := by
  have hgb := get_bt s
  have hB : Below w.heap.size w w := Below.refl _ _
  have h91 : ∀ j, j < k → bt s j = 91 := fun j hj => by have := lead_lt s 0 j (by rw [List.drop_zero]; omega); rwa [Nat.zero_add] at this
  have H91 := Lib.hid h91; clear h91 hl
  have hi : Lib.indexByte (s.extract (k + 1) s.size).data.toList 59 = m := by rw [data_extract, List.take_of_length_le (by rw [drop_len]; omega), index_till, ht, if_pos (by rw [drop_len]; omega)]
  have HI := Lib.hid hi; clear hi ht
  go_enter Tryz.func107, Tryz.ntmps107
  go_wp2
  go_loop [4] (fun i => ∃ j : Nat, j ≤ k ∧ i = .int .i64 j) (fun i => s.size - (intOf i).toNat)
  case atStart => exact ⟨0, Nat.zero_le _, rfl⟩
  case round =>
    obtain ⟨j, hj, rfl⟩ := hrel
    by_cases hlt : j < k
    · have hb := H91.out j hlt
      have hjs : j < s.size := by omega
      go_wp2
      go_round
      case rel => exact ⟨j + 1, by omega, by go_num⟩
      case measure => simp [intOf]; omega
    · obtain rfl : j = k := by omega
      have hne : ((j : Int) == (s.size : Int)) = false := beqF (by omega)
      go_wp2_with (first | (go_at_call 111; refine (index_byte _ _ _ _ HI.out).mono ?_; rintro e w' ⟨rfl, rfl⟩) | (go_at_call 112; refine (valid_any _ _ _ _).mono ?_; rintro e w1 ⟨rfl, hb1⟩; obtain ⟨hc1, hf1⟩ := bcell hb1; have hz1 := hb1.size; (try simp only [World.size_alloc, World.size_setCell] at hz1); (try have hza : w.heap.size < w1.heap.size := by omega); (try have hzb : w.heap.size + 1 < w1.heap.size := by omega); (try have hzc : w.heap.size + 1 + 1 < w1.heap.size := by omega); (try have hzd : wa.heap.size < w1.heap.size := by omega); (try replace hR := (hb1.block w.heap.size (by first | exact lt_heap hR | (have := lt_heap hR; simp; omega))).trans (by first | with_reducible exact hR | with_reducible exact laid_old hR)); replace hB := below_on (w := w) ((by repeat (first | with_reducible exact hB | with_reducible exact Below.refl _ _ | with_reducible refine below_al ?_ _ | with_reducible refine below_st ?_ (by first | exact Nat.le_refl _ | exact Nat.le_add_right _ _ | (simp; omega)) _))) hb1; clear hb1))
      obtain ⟨d0, d1, d2⟩ := read3 (W := w1) (B := w.heap.size) (a := .int .i64 0) (b := .int .u8 0) (c := .string ⟨#[]⟩) (by rw [hc1 _ _ (by simp; try omega)]; simp) (by rw [hc1 _ _ (by simp; try omega)]; simp) (by rw [hc1 _ _ (by simp; try omega)]; simp)
      refine bodyPost_ret (v := .tuple #[.agg #[.int .i64 0, .int .u8 0, .string ⟨#[]⟩], .int .i64 0]) ?_ rfl ⟨rfl, (by repeat (first | with_reducible exact hB | with_reducible exact Below.refl _ _ | with_reducible refine below_al ?_ _ | with_reducible refine below_st ?_ (by first | exact Nat.le_refl _ | exact Nat.le_add_right _ _ | (simp; omega)) _))⟩
      simp [results, Tryz.f107, go_sem, d0, d1, d2]

end Go.Proofs.YthfegbhbokhlkaaGreatDoor
