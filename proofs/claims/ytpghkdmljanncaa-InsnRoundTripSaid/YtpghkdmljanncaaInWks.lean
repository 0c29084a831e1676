/- Layer 8: the chapter's examples, run. -/
import Derived.Test.YtpghkdmljanncaaInWk
namespace Go.Proofs.Ytpghkdmljanncaa
open Go.ChangeShapes Go.WideShapes Go.ChangeAt Go.RowKit Go.PlainAid
set_option linter.unusedSimpArgs false
set_option linter.unusedVariables false

theorem ins_new {W : World} {B : Nat} {L : List In} {t : TypeId} (h : W.heap[B]? = some (.cells (irow L).toArray t)) (hok : ∀ i ∈ L, i.ok W W.heap.size) : Ins W W.heap.size (some ⟨B, 0, none⟩) L := by
  refine Or.inr ⟨B, 0, rfl, lt_heap h, fun k i hk => ?_⟩
  have at' : ∀ j v, j < 10 → (icells i)[j]? = some v → W.cell? ⟨B, 0 + k * 10 + j, none⟩ = some v := by
    intro j v hj hv
    have := irow_at L k j i hj hk
    rw [hv] at this
    rw [Nat.zero_add]
    simp [World.cell?, h, this]
  exact ⟨hok i (List.mem_of_getElem? hk), at' 0 _ (by decide) rfl, at' 1 _ (by decide) rfl, at' 2 _ (by decide) rfl, at' 3 _ (by decide) rfl, at' 4 _ (by decide) rfl, at' 5 _ (by decide) rfl, at' 6 _ (by decide) rfl, at' 7 _ (by decide) rfl, at' 8 _ (by decide) rfl, at' 9 _ (by decide) rfl⟩
theorem row_new {W : World} {B : Nat} {M : List Int} {t : TypeId} (h : W.heap[B]? = some (.cells (Ri M).toArray t)) : Row W W.heap.size (some ⟨B, 0, none⟩) M := by
  refine Or.inr ⟨B, 0, rfl, lt_heap h, fun k x hk => ?_⟩
  rw [Nat.zero_add]
  simp [World.cell?, h, Ri, hk]
theorem inT_ok {W : World} {g B : Nat} (h : W.cell? ⟨g, 0, none⟩ = some (.int .i64 0)) (hg : g < B) : (inT (some ⟨g, 0, none⟩)).ok W B :=
  ⟨rfl, Nat.le_refl _, by show 0 ≤ 9223372036854775807; omega, Or.inl rfl, rfl, Nat.le_refl _, by show 1 ≤ 9223372036854775807; omega, Row.one h hg⟩
theorem inP_nz (op a b t : Int) : (inP op a b t).nz := ⟨fun _ => rfl, fun _ => rfl⟩
theorem lw_mem {P : In → Prop} (h1 : P (inP 2 (-1) 0 0)) (h2 : P (inP 52 0 0 0)) : ∀ i ∈ LW, P i := by
  intro i hi
  rcases List.mem_cons.1 hi with rfl | hi
  · exact h1
  · obtain rfl := List.mem_singleton.1 hi
    exact h2
theorem wk_e (w0 : World) (c : Nat) (A : Option Addr) (hp : Ins w0 w0.heap.size A LW) (w : World) (hb : Below w0.heap.size w0 w) : Calls Try.prog 25 #[.slice A 2 c] w fun e w' => e = .returned (.tuple #[.string (enS LW), .int .i64 0]) ∧ Below w.heap.size w w' := by
  have h := enc_any (c := c) (n := 2) (L := LW) rfl (by omega) (lw_mem (inP_nz _ _ _ _) (inP_nz _ _ _ _)) hp w hb
  rwa [wk_1.1] at h
theorem wk_o (w0 : World) (c : Nat) (A : Option Addr) (hp : Ins w0 w0.heap.size A LW) (w : World) (hb : Below w0.heap.size w0 w) : Calls Try.prog 21 #[.slice A 2 c] w fun e w' => ∃ A c, e = .returned (.tuple #[.slice A 3 c, .int .i64 0]) ∧ Row w' w'.heap.size A [0, 2, 5] ∧ Below w.heap.size w w' := by
  have h := offs_any (c := c) (n := 2) (L := LW) rfl (by omega) hp w hb
  refine h.mono ?_
  rintro e w' ⟨A, c, rfl, _, _, _, hr, hb⟩
  rw [wk_1.2.1, wk_1.2.2.1]
  rw [wk_1.2.2.1] at hr
  exact ⟨A, c, rfl, hr, hb⟩
theorem wk_t (w0 : World) (g : Nat) (c : Nat) (A : Option Addr) (hp : Ins w0 w0.heap.size A [inT (some ⟨g, 0, none⟩)]) (w : World) (hb : Below w0.heap.size w0 w) : Calls Try.prog 25 #[.slice A 1 c] w fun e w' => (∃ z, e = .returned (.tuple #[.string z, .int .i64 0]) ∧ z.size = 11) ∧ Below w.heap.size w w' := by
  have h := enc_any (c := c) (n := 1) (L := [inT (some ⟨g, 0, none⟩)]) rfl (by omega) (fun i hi => by obtain rfl := List.mem_singleton.1 hi; exact ⟨fun _ => rfl, fun h => by cases h⟩) hp w hb
  rw [(wk_3 _).1] at h
  exact h.mono fun e w' ⟨h1, h2⟩ => ⟨⟨_, h1, (wk_3 _).2⟩, h2⟩
def DecE (w : World) (x : Int) (e : Ending) (w' : World) : Prop := (∃ A n c, e = .returned (.tuple #[.slice A n c, .int .i64 x])) ∧ Below w.heap.size w w'
theorem wk_a (w : World) : Calls Try.prog 27 #[.string ⟨#[0]⟩] w fun e w' => (∃ A c, e = .returned (.tuple #[.slice A 1 c, .int .i64 0])) ∧ Below w.heap.size w w' := decA ⟨#[0]⟩ rfl wk_4.1 wk_4.2 w
theorem wk_b (w : World) : Calls Try.prog 27 #[.string ⟨#[2]⟩] w (DecE w 3) := decB ⟨#[2]⟩ 2 rfl wk_5.1 wk_5.2.1 (by decide) wk_5.2.2 w
theorem wk_c (w : World) : Calls Try.prog 27 #[.string ⟨#[250]⟩] w (DecE w 15) := decC ⟨#[250]⟩ 250 rfl wk_6.1 wk_6.2 (by decide) w
theorem wk_d (w : World) : Calls Try.prog 27 #[.string ⟨#[52, 0, 1]⟩] w (DecE w 16) := decD ⟨#[52, 0, 1]⟩ 52 1 rfl wk_7.1 wk_7.2.1 (by decide) wk_7.2.2.1 wk_7.2.2.2 (by decide) w
theorem ins_t (w7 : World) : Ins ((w7.alloc (.cells #[.int .i64 0] 3)).alloc (.cells #[.int .i64 53, .int .i64 7, .int .i64 0, .int .i64 0, .slice none 0 0, .slice (some ⟨w7.heap.size, 0, none⟩) 1 1, .string ⟨#[]⟩, .string ⟨#[]⟩, .string ⟨#[]⟩, .string ⟨#[]⟩] 26)) ((w7.alloc (.cells #[.int .i64 0] 3)).alloc (.cells #[.int .i64 53, .int .i64 7, .int .i64 0, .int .i64 0, .slice none 0 0, .slice (some ⟨w7.heap.size, 0, none⟩) 1 1, .string ⟨#[]⟩, .string ⟨#[]⟩, .string ⟨#[]⟩, .string ⟨#[]⟩] 26)).heap.size (some ⟨w7.heap.size + 1, 0, none⟩) [inT (some ⟨w7.heap.size, 0, none⟩)] :=
  ins_new (L := [inT (some ⟨w7.heap.size, 0, none⟩)]) (new_at (W := w7.alloc (.cells #[.int .i64 0] 3)) (o := (.cells #[.int .i64 53, .int .i64 7, .int .i64 0, .int .i64 0, .slice none 0 0, .slice (some ⟨w7.heap.size, 0, none⟩) 1 1, .string ⟨#[]⟩, .string ⟨#[]⟩, .string ⟨#[]⟩, .string ⟨#[]⟩] 26)) (by simp)) (fun i hi => by
    obtain rfl := List.mem_singleton.1 hi
    exact inT_ok (ten_cell0 (laid_old (new_at rfl))) (by simp; omega))
theorem wk_q {w8 : World} {A3 : Option Addr} {c3 : Nat} (hr : Row w8 w8.heap.size A3 [0, 2, 5]) : Calls Try.prog 18 #[.slice A3 3 c3, .slice (some ⟨w8.heap.size, 0, none⟩) 3 3] (w8.alloc (.cells #[.int .i64 0, .int .i64 2, .int .i64 5] 3)) fun e w' => e = .returned (.bool true) ∧ ∃ q, w' = (w8.alloc (.cells #[.int .i64 0, .int .i64 2, .int .i64 5] 3)).drewN q :=
  eqs_any (c := c3) (n := 3) (m := 3) (d := 3) (hr.up (below_al (Below.refl w8.heap.size w8) (.cells #[.int .i64 0, .int .i64 2, .int .i64 5] 3))) rfl (row_new (W := w8.alloc (.cells #[.int .i64 0, .int .i64 2, .int .i64 5] 3)) (M := [0, 2, 5]) (new_at rfl)) rfl (by omega) (by omega)
theorem wz : ∃ z : ByteArray, z = enS LW ∧ z.toList = [2, 255, 52, 0, 0] := ⟨enS LW, rfl, wk_2.1⟩
set_option maxRecDepth 100000 in
set_option maxHeartbeats 1000000 in
theorem works_any (w : World) : Calls Try.prog 15 #[] w fun e w' => e = .returned (.bool true) ∧ Below w.heap.size w w' := by
  have hB : Below w.heap.size w w := Below.refl _ _
  obtain ⟨z, hzx, hzq⟩ := wz
  have hwe := wk_e
  rw [← hzx] at hwe
  clear hzx
  have WE := Lib.hid hwe
  have WO := Lib.hid wk_o
  have WT := Lib.hid wk_t
  have HZQ := Lib.hid hzq
  clear hwe hzq
  go_enter Try.func15, Try.ntmps15
  go_upto_region 2 with fail
  have hN := World.alloc_heap_new w (.cells (irow LW).toArray 26)
  replace hB := below_al hB (.cells (irow LW).toArray 26)
  have HI := Lib.hid (ins_new hN (lw_mem (inP_ok _ _ _ _ _ _) (inP_ok _ _ _ _ _ _)))
  rw [show w.alloc (.cells #[.int .i64 2, .int .i64 (-1), .int .i64 0, .int .i64 0, .slice none 0 0, .slice none 0 0, .string ⟨#[]⟩, .string ⟨#[]⟩, .string ⟨#[]⟩, .string ⟨#[]⟩, .int .i64 52, .int .i64 0, .int .i64 0, .int .i64 0, .slice none 0 0, .slice none 0 0, .string ⟨#[]⟩, .string ⟨#[]⟩, .string ⟨#[]⟩, .string ⟨#[]⟩] 26) = w.alloc (.cells (irow LW).toArray 26) from rfl]
  generalize w.alloc (.cells (irow LW).toArray 26) = W1 at hB HI ⊢
  clear hN
  have HB1 := Lib.hid (Below.refl W1.heap.size W1)
  go_upto_region 3 with (go_at_call 25; refine (WE.out W1 2 _ HI.out _ HB1.out).mono ?_; rintro e w2 ⟨rfl, hb1⟩; replace HB1 := Lib.hid (below_on HB1.out hb1); replace hB := below_on (w := w) hB hb1; clear hb1)
  go_upto_region 4 with (go_at_call 21; refine (WO.out W1 2 _ HI.out _ HB1.out).mono ?_; rintro e w3 ⟨A3, c3, rfl, hr, hb1⟩; have HR := Lib.hid hr; replace HB1 := Lib.hid (below_on HB1.out hb1); replace hB := below_on (w := w) hB hb1; clear hb1 hr)
  go_upto_region 5 with (go_at_call 27; refine (wk_a _).mono ?_; rintro e w4 ⟨⟨A4, c4, rfl⟩, hb1⟩; replace HR := Lib.hid (HR.out.up hb1); replace HB1 := Lib.hid (below_on HB1.out hb1); replace hB := below_on (w := w) hB hb1; clear hb1)
  go_upto_region 6 with (go_at_call 27; refine (wk_b _).mono ?_; rintro e w5 ⟨⟨A5, n5, c5, rfl⟩, hb1⟩; replace HR := Lib.hid (HR.out.up hb1); replace HB1 := Lib.hid (below_on HB1.out hb1); replace hB := below_on (w := w) hB hb1; clear hb1)
  go_upto_region 7 with (go_at_call 27; refine (wk_c _).mono ?_; rintro e w6 ⟨⟨A6, n6, c6, rfl⟩, hb1⟩; replace HR := Lib.hid (HR.out.up hb1); replace HB1 := Lib.hid (below_on HB1.out hb1); replace hB := below_on (w := w) hB hb1; clear hb1)
  go_upto_region 8 with (go_at_call 27; refine (wk_d _).mono ?_; rintro e w7 ⟨⟨A7, n7, c7, rfl⟩, hb1⟩; replace HR := Lib.hid (HR.out.up hb1); replace HB1 := Lib.hid (below_on HB1.out hb1); replace hB := below_on (w := w) hB hb1; clear hb1)
  have HB7 := Lib.hid (below_al (below_al hB (.cells #[.int .i64 0] 3)) (.cells #[.int .i64 53, .int .i64 7, .int .i64 0, .int .i64 0, .slice none 0 0, .slice (some ⟨w7.heap.size, 0, none⟩) 1 1, .string ⟨#[]⟩, .string ⟨#[]⟩, .string ⟨#[]⟩, .string ⟨#[]⟩] 26))
  have HR7 := Lib.hid (HR.out.up (below_al (below_al (Below.refl w7.heap.size w7) (.cells #[.int .i64 0] 3)) (.cells #[.int .i64 53, .int .i64 7, .int .i64 0, .int .i64 0, .slice none 0 0, .slice (some ⟨w7.heap.size, 0, none⟩) 1 1, .string ⟨#[]⟩, .string ⟨#[]⟩, .string ⟨#[]⟩, .string ⟨#[]⟩] 26)))
  have HT7 := Lib.hid (ins_t w7)
  clear HR hB HI HB1 WE WO
  go_upto_region 9 with (go_at_call 25; refine (WT.out _ w7.heap.size 1 _ HT7.out _ (Below.refl _ _)).mono ?_; rintro e w8 ⟨⟨z8, rfl, hz8⟩, hb1⟩; have HR8 := Lib.hid (HR7.out.up hb1); have hB8 := below_on (w := w) HB7.out hb1; clear hb1)
  have hzq := HZQ.out
  have HQ := Lib.hid (wk_q (c3 := c3) HR8.out)
  clear HR8 HR7 HT7 WT HZQ
  go_wp2_with (go_at_call 18; refine HQ.out.mono ?_; rintro e w9 ⟨rfl, q9, rfl⟩)
  all_goals go_ret
  all_goals exact ⟨rfl, below_dr (below_al hB8 _) _⟩

end Go.Proofs.Ytpghkdmljanncaa
