/- Layer 17: the chapter's examples hold. -/
import Derived.Test.YthifmcnemeiphaaDoorVh
namespace Go.Proofs.YthifmcnemeiphaaDoor
open Go.ChangeShapes Go.WideShapes Go.ChangeAt Go.RowKit Go.PlainAid
set_option linter.unusedSimpArgs false
set_option linter.unusedVariables false
attribute [local go_sem ↓] Go.wp_at_zero Go.wp_at_succ

theorem from_ex (w : World) : Calls Tryd.prog 35 #[.agg #[.int .i64 2, .int .u8 73, .string ⟨#[]⟩]] w fun e w' => e = .returned (.agg #[.int .i64 4, .int .i64 0, .int .i64 2, .int .u8 73, .string ⟨#[]⟩, .int .i64 0]) ∧ Below w.heap.size w w' := by
  have h := from_any 2 73 ⟨#[]⟩ w
  have kk : kiV 2 73 ⟨#[]⟩ = 3 := by decide +kernel
  unfold ftV at h
  rw [kk] at h
  exact h
theorem fmt_ex (w : World) (ht : Tab w) : Calls Tryd.prog 37 #[.agg #[.int .i64 5, .int .i64 3, .int .i64 0, .int .u8 76, .string ⟨#[65]⟩, .int .i64 0]] w fun e w' => e = .returned (.string ⟨#[110, 101, 119, 32, 51, 32, 76, 65, 59]⟩) ∧ Below w.heap.size w w' := by
  have h := vfmt_any 5 3 0 76 ⟨#[65]⟩ 0 (by omega) (by omega) (by decide) w ht
  rw [show vfS 5 3 0 76 ⟨#[65]⟩ 0 = ⟨#[110, 101, 119, 32, 51, 32, 76, 65, 59]⟩ from by decide +kernel] at h
  exact h
theorem valid_ex (w : World) : Calls Tryd.prog 33 #[.agg #[.int .i64 5, .int .i64 3, .int .i64 0, .int .u8 76, .string ⟨#[65]⟩, .int .i64 0]] w fun e w' => e = .returned (.bool true) ∧ Below w.heap.size w w' := by
  have h := vvalid_any 5 3 0 76 ⟨#[65]⟩ 0 w
  rw [show vvB 5 3 0 76 ⟨#[65]⟩ 0 = true from by decide +kernel] at h
  exact h
theorem equal_ex (w : World) : Calls Tryd.prog 39 #[.agg #[.int .i64 4, .int .i64 0, .int .i64 2, .int .u8 73, .string ⟨#[]⟩, .int .i64 0], .agg #[.int .i64 4, .int .i64 0, .int .i64 2, .int .u8 73, .string ⟨#[]⟩, .int .i64 0]] w fun e w' => e = .returned (.bool true) ∧ Below w.heap.size w w' := by
  have h := veq_any 4 0 2 73 ⟨#[]⟩ 0 4 0 2 73 ⟨#[]⟩ 0 w
  rw [show vqB 4 0 2 73 ⟨#[]⟩ 0 4 0 2 73 ⟨#[]⟩ 0 = true from by decide +kernel] at h
  exact h
theorem lt_heap1 {W : World} {B : Nat} {o : Obj} (h : W.heap[B]? = some o) : B < W.heap.size := by
  rcases Nat.lt_or_ge B W.heap.size with h' | h'
  · exact h'
  · rw [Array.getElem?_eq_none h'] at h; cases h
theorem five_new (w : World) (a b c d e : Obj) : (((((w.alloc a).alloc b).alloc c).alloc d).alloc e).heap[w.heap.size]? = some a ∧ (((((w.alloc a).alloc b).alloc c).alloc d).alloc e).heap[w.heap.size + 1]? = some b ∧ (((((w.alloc a).alloc b).alloc c).alloc d).alloc e).heap[w.heap.size + 1 + 1]? = some c ∧ (((((w.alloc a).alloc b).alloc c).alloc d).alloc e).heap[w.heap.size + 1 + 1 + 1]? = some d ∧ (((((w.alloc a).alloc b).alloc c).alloc d).alloc e).heap.size = w.heap.size + 5 := by
  have n : ∀ (v : World) (o : Obj), (v.alloc o).heap[v.heap.size]? = some o := World.alloc_heap_new
  have s : ∀ (v : World) (o : Obj), (v.alloc o).heap.size = v.heap.size + 1 := fun v o => by simp
  have ol : ∀ (v : World) (o o' : Obj) (B : Nat), v.heap[B]? = some o' → (v.alloc o).heap[B]? = some o' := fun v o o' B h => by
    have hl := lt_heap1 h
    show (v.heap.push o)[B]? = some o'
    rw [Array.getElem?_push, if_neg (by omega)]
    exact h
  have s1 := s w a
  have s2 := (s (w.alloc a) b).trans (congrArg (· + 1) s1)
  have s3 := (s ((w.alloc a).alloc b) c).trans (congrArg (· + 1) s2)
  have s4 := (s (((w.alloc a).alloc b).alloc c) d).trans (congrArg (· + 1) s3)
  refine ⟨ol _ _ _ _ (ol _ _ _ _ (ol _ _ _ _ (ol _ _ _ _ (n w a)))), ?_, ?_, ?_, (s _ e).trans (by omega)⟩
  · have := n (w.alloc a) b; rw [s1] at this; exact ol _ _ _ _ (ol _ _ _ _ (ol _ _ _ _ this))
  · have := n ((w.alloc a).alloc b) c; rw [s2] at this; exact ol _ _ _ _ (ol _ _ _ _ this)
  · have := n (((w.alloc a).alloc b).alloc c) d; rw [s3] at this; exact ol _ _ _ _ this
set_option maxRecDepth 100000 in
set_option maxHeartbeats 4000000 in
theorem awake17_any (w : World) (ht : Tab w) : Calls Tryd.prog 32 #[] w fun e w' => e = .returned (.bool true) ∧ Below w.heap.size w w' := by
  have HT := Lib.hid ht
  clear ht
  go_enter Tryd.func32, Tryd.ntmps32
  go_upto_region 6 with fail
  have h5 := five_new w (.cells #[.int .i64 2, .int .u8 73, .string ⟨#[]⟩] 41) (.cells #[.int .i64 0, .int .u8 76, .string ⟨#[108, 97, 110, 103, 47, 79, 98, 106, 101, 99, 116]⟩] 41) (.cells #[.int .i64 1, .int .u8 76, .string ⟨#[108, 97, 110, 103, 47, 79, 98, 106, 101, 99, 116]⟩] 41) (.cells #[.int .i64 5, .int .i64 3, .int .i64 0, .int .u8 76, .string ⟨#[65]⟩, .int .i64 0] 43) (.cells #[.string ⟨#[108, 97, 110, 103, 47, 79, 98, 106, 101, 99, 116]⟩, .string ⟨#[]⟩, .slice none 0 0, .bool false] 30)
  obtain ⟨R0, R1, R2, R3, E1⟩ := h5
  have hB := below_al (below_al (below_al (below_al (below_al (Below.refl w.heap.size w) (.cells #[.int .i64 2, .int .u8 73, .string ⟨#[]⟩] 41)) (.cells #[.int .i64 0, .int .u8 76, .string ⟨#[108, 97, 110, 103, 47, 79, 98, 106, 101, 99, 116]⟩] 41)) (.cells #[.int .i64 1, .int .u8 76, .string ⟨#[108, 97, 110, 103, 47, 79, 98, 106, 101, 99, 116]⟩] 41)) (.cells #[.int .i64 5, .int .i64 3, .int .i64 0, .int .u8 76, .string ⟨#[65]⟩, .int .i64 0] 43)) (.cells #[.string ⟨#[108, 97, 110, 103, 47, 79, 98, 106, 101, 99, 116]⟩, .string ⟨#[]⟩, .slice none 0 0, .bool false] 30)
  generalize (((((w.alloc (.cells #[.int .i64 2, .int .u8 73, .string ⟨#[]⟩] 41)).alloc (.cells #[.int .i64 0, .int .u8 76, .string ⟨#[108, 97, 110, 103, 47, 79, 98, 106, 101, 99, 116]⟩] 41)).alloc (.cells #[.int .i64 1, .int .u8 76, .string ⟨#[108, 97, 110, 103, 47, 79, 98, 106, 101, 99, 116]⟩] 41)).alloc (.cells #[.int .i64 5, .int .i64 3, .int .i64 0, .int .u8 76, .string ⟨#[65]⟩, .int .i64 0] 43)).alloc (.cells #[.string ⟨#[108, 97, 110, 103, 47, 79, 98, 106, 101, 99, 116]⟩, .string ⟨#[]⟩, .slice none 0 0, .bool false] 30)) = W at E1 R0 R1 R2 R3 hB ⊢
  have HTW := Lib.hid (tab_on HT.out hB)
  have HBW := Lib.hid hB
  obtain ⟨k0_0, k0_1, k0_2, _, _, _⟩ := three_cells R0
  have hl0 : w.heap.size < W.heap.size := by omega
  obtain ⟨k1_0, k1_1, k1_2, _, _, _⟩ := three_cells R1
  have hl1 : w.heap.size + 1 < W.heap.size := by omega
  obtain ⟨k2_0, k2_1, k2_2, _, _, _⟩ := three_cells R2
  have hl2 : w.heap.size + 1 + 1 < W.heap.size := by omega
  obtain ⟨k3_0, k3_1, k3_2, k3_3, k3_4, k3_5, _⟩ := six_cells R3
  have hl3 : w.heap.size + 1 + 1 + 1 < W.heap.size := by omega
  have KS := Lib.hid (fun (w' : World) (hb : Below W.heap.size W w') => show (fun (w' : World) => w'.cell? ⟨w.heap.size, 0, none⟩ = some (.int .i64 2) ∧ w'.cell? ⟨w.heap.size, 1, none⟩ = some (.int .u8 73) ∧ w'.cell? ⟨w.heap.size, 2, none⟩ = some (.string ⟨#[]⟩) ∧ w'.cell? ⟨w.heap.size + 1, 0, none⟩ = some (.int .i64 0) ∧ w'.cell? ⟨w.heap.size + 1, 1, none⟩ = some (.int .u8 76) ∧ w'.cell? ⟨w.heap.size + 1, 2, none⟩ = some (.string ⟨#[108, 97, 110, 103, 47, 79, 98, 106, 101, 99, 116]⟩) ∧ w'.cell? ⟨w.heap.size + 1 + 1, 0, none⟩ = some (.int .i64 1) ∧ w'.cell? ⟨w.heap.size + 1 + 1, 1, none⟩ = some (.int .u8 76) ∧ w'.cell? ⟨w.heap.size + 1 + 1, 2, none⟩ = some (.string ⟨#[108, 97, 110, 103, 47, 79, 98, 106, 101, 99, 116]⟩) ∧ w'.cell? ⟨w.heap.size + 1 + 1 + 1, 0, none⟩ = some (.int .i64 5) ∧ w'.cell? ⟨w.heap.size + 1 + 1 + 1, 1, none⟩ = some (.int .i64 3) ∧ w'.cell? ⟨w.heap.size + 1 + 1 + 1, 2, none⟩ = some (.int .i64 0) ∧ w'.cell? ⟨w.heap.size + 1 + 1 + 1, 3, none⟩ = some (.int .u8 76) ∧ w'.cell? ⟨w.heap.size + 1 + 1 + 1, 4, none⟩ = some (.string ⟨#[65]⟩) ∧ w'.cell? ⟨w.heap.size + 1 + 1 + 1, 5, none⟩ = some (.int .i64 0) ∧ Below W.heap.size W w') w' from ⟨(hb.cell (p := ⟨w.heap.size, 0, none⟩) hl0).trans k0_0, (hb.cell (p := ⟨w.heap.size, 1, none⟩) hl0).trans k0_1, (hb.cell (p := ⟨w.heap.size, 2, none⟩) hl0).trans k0_2, (hb.cell (p := ⟨w.heap.size + 1, 0, none⟩) hl1).trans k1_0, (hb.cell (p := ⟨w.heap.size + 1, 1, none⟩) hl1).trans k1_1, (hb.cell (p := ⟨w.heap.size + 1, 2, none⟩) hl1).trans k1_2, (hb.cell (p := ⟨w.heap.size + 1 + 1, 0, none⟩) hl2).trans k2_0, (hb.cell (p := ⟨w.heap.size + 1 + 1, 1, none⟩) hl2).trans k2_1, (hb.cell (p := ⟨w.heap.size + 1 + 1, 2, none⟩) hl2).trans k2_2, (hb.cell (p := ⟨w.heap.size + 1 + 1 + 1, 0, none⟩) hl3).trans k3_0, (hb.cell (p := ⟨w.heap.size + 1 + 1 + 1, 1, none⟩) hl3).trans k3_1, (hb.cell (p := ⟨w.heap.size + 1 + 1 + 1, 2, none⟩) hl3).trans k3_2, (hb.cell (p := ⟨w.heap.size + 1 + 1 + 1, 3, none⟩) hl3).trans k3_3, (hb.cell (p := ⟨w.heap.size + 1 + 1 + 1, 4, none⟩) hl3).trans k3_4, (hb.cell (p := ⟨w.heap.size + 1 + 1 + 1, 5, none⟩) hl3).trans k3_5, hb⟩)
  clear R0 R1 R2 R3 hB
  have hW0 := Below.refl W.heap.size W
  go_region_held3 (fun (w' : World) => w'.cell? ⟨w.heap.size, 0, none⟩ = some (.int .i64 2) ∧ w'.cell? ⟨w.heap.size, 1, none⟩ = some (.int .u8 73) ∧ w'.cell? ⟨w.heap.size, 2, none⟩ = some (.string ⟨#[]⟩) ∧ w'.cell? ⟨w.heap.size + 1, 0, none⟩ = some (.int .i64 0) ∧ w'.cell? ⟨w.heap.size + 1, 1, none⟩ = some (.int .u8 76) ∧ w'.cell? ⟨w.heap.size + 1, 2, none⟩ = some (.string ⟨#[108, 97, 110, 103, 47, 79, 98, 106, 101, 99, 116]⟩) ∧ w'.cell? ⟨w.heap.size + 1 + 1, 0, none⟩ = some (.int .i64 1) ∧ w'.cell? ⟨w.heap.size + 1 + 1, 1, none⟩ = some (.int .u8 76) ∧ w'.cell? ⟨w.heap.size + 1 + 1, 2, none⟩ = some (.string ⟨#[108, 97, 110, 103, 47, 79, 98, 106, 101, 99, 116]⟩) ∧ w'.cell? ⟨w.heap.size + 1 + 1 + 1, 0, none⟩ = some (.int .i64 5) ∧ w'.cell? ⟨w.heap.size + 1 + 1 + 1, 1, none⟩ = some (.int .i64 3) ∧ w'.cell? ⟨w.heap.size + 1 + 1 + 1, 2, none⟩ = some (.int .i64 0) ∧ w'.cell? ⟨w.heap.size + 1 + 1 + 1, 3, none⟩ = some (.int .u8 76) ∧ w'.cell? ⟨w.heap.size + 1 + 1 + 1, 4, none⟩ = some (.string ⟨#[65]⟩) ∧ w'.cell? ⟨w.heap.size + 1 + 1 + 1, 5, none⟩ = some (.int .i64 0) ∧ Below W.heap.size W w') (((try go_split_ands); (first | (exact KS.out _ (below_on (w := W) (by assumption) hq)) | (exact KS.out _ (Below.drew (by assumption))) | ((repeat' apply And.intro) <;> (first | assumption | go_keep)))))
    (first | (go_at_call 63; (with_reducible refine (ta1 _ _).mono ?_); rintro e wq ⟨rfl, hq⟩) | (go_at_call 63; (with_reducible refine (ta2 _ _).mono ?_); rintro e wq ⟨rfl, hq⟩) | (go_at_call 63; (with_reducible refine (ta3 _ _).mono ?_); rintro e wq ⟨rfl, hq⟩) | (go_at_call 37; (with_reducible refine (fmt_ex _ (tab_on HTW.out ?_)).mono ?_); (first | assumption | (go_split_ands; assumption)); rintro e wq ⟨rfl, hq⟩) | (go_at_call 33; (with_reducible refine (valid_ex _).mono ?_); rintro e wq ⟨rfl, hq⟩) | (go_at_call 35; (with_reducible refine (from_ex _).mono ?_); rintro e wq ⟨rfl, hq⟩) | (go_at_call 64; (with_reducible refine (as1 _ _).mono ?_); rintro e wq ⟨rfl, hq⟩) | (go_at_call 64; (with_reducible refine (as2 _ _).mono ?_); rintro e wq ⟨rfl, hq⟩) | (go_at_call 39; (with_reducible refine (equal_ex _).mono ?_); rintro e wq ⟨rfl, hq⟩))
  go_wp2
  go_ret
  refine ⟨rfl, ?_⟩
  go_split_ands
  exact below_on HBW.out (by assumption)
end Go.Proofs.YthifmcnemeiphaaDoor
