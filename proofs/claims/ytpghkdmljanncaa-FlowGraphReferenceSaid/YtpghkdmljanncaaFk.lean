/- Layer 19: the chapter's example runs. -/
import Derived.Test.YtpghkdmljanncaaFw
namespace Go.Proofs.Ytpghkdmljanncaa
open Go.ChangeShapes Go.WideShapes Go.ChangeAt Go.RowKit Go.PlainAid
set_option linter.unusedSimpArgs false
set_option linter.unusedVariables false

theorem ins_newF {W : World} {B : Nat} {L : List In} {t : TypeId} (h : W.heap[B]? = some (.cells (irow L).toArray t)) (hok : ∀ i ∈ L, i.ok W W.heap.size) : Ins W W.heap.size (some ⟨B, 0, none⟩) L := by
  refine Or.inr ⟨B, 0, rfl, lt_heap h, fun k i hk => ?_⟩
  have at' : ∀ j v, j < 10 → (icells i)[j]? = some v → W.cell? ⟨B, 0 + k * 10 + j, none⟩ = some v := by
    intro j v hj hv
    have := irow_at L k j i hj hk
    rw [hv] at this
    rw [Nat.zero_add]
    simp [World.cell?, h, this]
  exact ⟨hok i (List.mem_of_getElem? hk), at' 0 _ (by decide) rfl, at' 1 _ (by decide) rfl, at' 2 _ (by decide) rfl, at' 3 _ (by decide) rfl, at' 4 _ (by decide) rfl, at' 5 _ (by decide) rfl, at' 6 _ (by decide) rfl, at' 7 _ (by decide) rfl, at' 8 _ (by decide) rfl, at' 9 _ (by decide) rfl⟩

theorem exI_ok (op t : Int) (w : World) (B : Nat) : (exI op t).ok w B := ⟨rfl, Nat.le_refl _, by show 0 ≤ 9223372036854775807; omega, Or.inl rfl, rfl, Nat.le_refl _, by show 0 ≤ 9223372036854775807; omega, Or.inl rfl⟩
theorem exL_all {P : In → Prop} (h : ∀ op t, P (exI op t)) : ∀ i ∈ exL, P i := by
  intro i hi
  unfold exL at hi
  simp only [List.mem_cons, List.not_mem_nil, or_false] at hi
  rcases hi with rfl | rfl | rfl | rfl <;> exact h _ _
theorem exC_few (B : Nat) : (exC B).few := ⟨by show 4 ≤ 300; omega, by show 0 ≤ 40; omega, exL_all (P := fun i => i.tn ≤ 100) (fun _ _ => by show 0 ≤ 100; omega)⟩
theorem exC_ok {W : World} {B : Nat} (h : W.heap[B]? = some (.cells (irow exL).toArray 26)) : (exC B).ok W :=
  ⟨rfl, ins_newF h (exL_all (P := fun i => i.ok W W.heap.size) (fun op t => exI_ok op t _ _)), by show 4 ≤ 1000000; omega, rfl, Or.inl rfl, by show 0 ≤ 1000000; omega, exL_all (P := fun i => i.nz) (fun _ _ => ⟨fun _ => rfl, fun _ => rfl⟩), exL_all (P := fun i => i.tn ≤ 1000000) (fun _ _ => by show 0 ≤ 1000000; omega)⟩
theorem pd_ex {B : Nat} {W : World} (h : (exC B).ok W) : Calls Try.prog 39 #[(.agg #[.int .i64 0, .int .i64 0, .slice (some ⟨B, 0, none⟩) 4 4, .slice none 0 0, .slice none 0 0, .slice none 0 0])] W (PdRet W 4 (pdJ (exC B) 4 [])) := pd_any (exC B) W h (exC_few B)
theorem be_ex {B : Nat} {W : World} (h : (exC B).ok W) : Calls Try.prog 41 #[(.agg #[.int .i64 0, .int .i64 0, .slice (some ⟨B, 0, none⟩) 4 4, .slice none 0 0, .slice none 0 0, .slice none 0 0])] W (PairsOwn W [(2, 0)]) := by
  have := be_any (exC B) W h (exC_few B)
  rw [show (exC B).n = 4 from rfl, ex_be] at this
  exact this
theorem sc_ex {B : Nat} {W : World} (h : (exC B).ok W) : Calls Try.prog 33 #[(.agg #[.int .i64 0, .int .i64 0, .slice (some ⟨B, 0, none⟩) 4 4, .slice none 0 0, .slice none 0 0, .slice none 0 0]), .int .i64 1] W (IntsOwn W [2, 3]) := by
  have := scs_any (exC B) 1 W h
  rw [(ex_sc B).2.1] at this
  exact this
theorem ds_ex {B : Nat} {W : World} (h : (exC B).ok W) : Calls Try.prog 43 #[(.agg #[.int .i64 0, .int .i64 0, .slice (some ⟨B, 0, none⟩) 4 4, .slice none 0 0, .slice none 0 0, .slice none 0 0])] W (IntsOwn W [0, 1, 2, 2]) := by
  have := ds_any (exC B) W h (exC_few B)
  rw [ex_ds] at this
  exact this
theorem arr_eq (w : World) : (binOp .eql 61 (.agg #[.int .i64 2, .int .i64 0]) (.agg #[.int .i64 2, .int .i64 0])).run Try.prog w = .ok (.bool true) w := by kernel_rfl
theorem row_lit {W : World} {B : Nat} {L : List Int} (h : W.heap[B]? = some (.cells (Ri L).toArray 3)) : Row W W.heap.size (some ⟨B, 0, none⟩) L := by
  refine Or.inr ⟨B, 0, rfl, lt_heap h, fun j x hx => ?_⟩
  rw [Nat.zero_add]
  simp only [World.cell?, h]
  unfold Ri
  simp [hx]
set_option maxRecDepth 100000 in
set_option maxHeartbeats 1000000 in
theorem awake19_any (w : World) : Calls Try.prog 31 #[] w fun e w' => e = .returned (.bool true) ∧ Below w.heap.size w w' := by
  go_enter Try.func31, Try.ntmps31
  go_upto_region 2 with fail
  have h1 := World.alloc_heap_new w (.cells #[.int .i64 2, .int .i64 0, .int .i64 0, .int .i64 0, .slice none 0 0, .slice none 0 0, .string ⟨#[]⟩, .string ⟨#[]⟩, .string ⟨#[]⟩, .string ⟨#[]⟩, .int .i64 36, .int .i64 0, .int .i64 0, .int .i64 3, .slice none 0 0, .slice none 0 0, .string ⟨#[]⟩, .string ⟨#[]⟩, .string ⟨#[]⟩, .string ⟨#[]⟩, .int .i64 52, .int .i64 0, .int .i64 0, .int .i64 0, .slice none 0 0, .slice none 0 0, .string ⟨#[]⟩, .string ⟨#[]⟩, .string ⟨#[]⟩, .string ⟨#[]⟩, .int .i64 58, .int .i64 0, .int .i64 0, .int .i64 0, .slice none 0 0, .slice none 0 0, .string ⟨#[]⟩, .string ⟨#[]⟩, .string ⟨#[]⟩, .string ⟨#[]⟩] 26)
  have h2 := World.alloc_heap_new (w.alloc (.cells #[.int .i64 2, .int .i64 0, .int .i64 0, .int .i64 0, .slice none 0 0, .slice none 0 0, .string ⟨#[]⟩, .string ⟨#[]⟩, .string ⟨#[]⟩, .string ⟨#[]⟩, .int .i64 36, .int .i64 0, .int .i64 0, .int .i64 3, .slice none 0 0, .slice none 0 0, .string ⟨#[]⟩, .string ⟨#[]⟩, .string ⟨#[]⟩, .string ⟨#[]⟩, .int .i64 52, .int .i64 0, .int .i64 0, .int .i64 0, .slice none 0 0, .slice none 0 0, .string ⟨#[]⟩, .string ⟨#[]⟩, .string ⟨#[]⟩, .string ⟨#[]⟩, .int .i64 58, .int .i64 0, .int .i64 0, .int .i64 0, .slice none 0 0, .slice none 0 0, .string ⟨#[]⟩, .string ⟨#[]⟩, .string ⟨#[]⟩, .string ⟨#[]⟩] 26)) (.cells #[.int .i64 0, .int .i64 0, .slice (some ⟨w.heap.size, 0, none⟩) 4 4, .slice none 0 0, .slice none 0 0, .slice none 0 0] 50)
  have h3 := laid_old (o' := (.cells #[.int .i64 0, .int .i64 0, .slice (some ⟨w.heap.size, 0, none⟩) 4 4, .slice none 0 0, .slice none 0 0, .slice none 0 0] 50)) h1
  have HB0 := Lib.hid (below_al (below_al (Below.refl w.heap.size w) (.cells #[.int .i64 2, .int .i64 0, .int .i64 0, .int .i64 0, .slice none 0 0, .slice none 0 0, .string ⟨#[]⟩, .string ⟨#[]⟩, .string ⟨#[]⟩, .string ⟨#[]⟩, .int .i64 36, .int .i64 0, .int .i64 0, .int .i64 3, .slice none 0 0, .slice none 0 0, .string ⟨#[]⟩, .string ⟨#[]⟩, .string ⟨#[]⟩, .string ⟨#[]⟩, .int .i64 52, .int .i64 0, .int .i64 0, .int .i64 0, .slice none 0 0, .slice none 0 0, .string ⟨#[]⟩, .string ⟨#[]⟩, .string ⟨#[]⟩, .string ⟨#[]⟩, .int .i64 58, .int .i64 0, .int .i64 0, .int .i64 0, .slice none 0 0, .slice none 0 0, .string ⟨#[]⟩, .string ⟨#[]⟩, .string ⟨#[]⟩, .string ⟨#[]⟩] 26)) (.cells #[.int .i64 0, .int .i64 0, .slice (some ⟨w.heap.size, 0, none⟩) 4 4, .slice none 0 0, .slice none 0 0, .slice none 0 0] 50))
  have h2' : ((w.alloc (.cells #[.int .i64 2, .int .i64 0, .int .i64 0, .int .i64 0, .slice none 0 0, .slice none 0 0, .string ⟨#[]⟩, .string ⟨#[]⟩, .string ⟨#[]⟩, .string ⟨#[]⟩, .int .i64 36, .int .i64 0, .int .i64 0, .int .i64 3, .slice none 0 0, .slice none 0 0, .string ⟨#[]⟩, .string ⟨#[]⟩, .string ⟨#[]⟩, .string ⟨#[]⟩, .int .i64 52, .int .i64 0, .int .i64 0, .int .i64 0, .slice none 0 0, .slice none 0 0, .string ⟨#[]⟩, .string ⟨#[]⟩, .string ⟨#[]⟩, .string ⟨#[]⟩, .int .i64 58, .int .i64 0, .int .i64 0, .int .i64 0, .slice none 0 0, .slice none 0 0, .string ⟨#[]⟩, .string ⟨#[]⟩, .string ⟨#[]⟩, .string ⟨#[]⟩] 26)).alloc (.cells #[.int .i64 0, .int .i64 0, .slice (some ⟨w.heap.size, 0, none⟩) 4 4, .slice none 0 0, .slice none 0 0, .slice none 0 0] 50)).heap[w.heap.size + 1]? = some (.cells #[.int .i64 0, .int .i64 0, .slice (some ⟨w.heap.size, 0, none⟩) 4 4, .slice none 0 0, .slice none 0 0, .slice none 0 0] 50) := by simpa using h2
  generalize (w.alloc (.cells #[.int .i64 2, .int .i64 0, .int .i64 0, .int .i64 0, .slice none 0 0, .slice none 0 0, .string ⟨#[]⟩, .string ⟨#[]⟩, .string ⟨#[]⟩, .string ⟨#[]⟩, .int .i64 36, .int .i64 0, .int .i64 0, .int .i64 3, .slice none 0 0, .slice none 0 0, .string ⟨#[]⟩, .string ⟨#[]⟩, .string ⟨#[]⟩, .string ⟨#[]⟩, .int .i64 52, .int .i64 0, .int .i64 0, .int .i64 0, .slice none 0 0, .slice none 0 0, .string ⟨#[]⟩, .string ⟨#[]⟩, .string ⟨#[]⟩, .string ⟨#[]⟩, .int .i64 58, .int .i64 0, .int .i64 0, .int .i64 0, .slice none 0 0, .slice none 0 0, .string ⟨#[]⟩, .string ⟨#[]⟩, .string ⟨#[]⟩, .string ⟨#[]⟩] 26)).alloc (.cells #[.int .i64 0, .int .i64 0, .slice (some ⟨w.heap.size, 0, none⟩) 4 4, .slice none 0 0, .slice none 0 0, .slice none 0 0] 50) = W2 at h2' h3 HB0 ⊢
  have OK2 := Lib.hid (exC_ok (B := w.heap.size) (W := W2) h3)
  have RB := Lib.hid h2'
  clear h1 h2 h3 h2'
  obtain ⟨r0, r1, r2, r3, r4, r5⟩ := six_cells RB.out
  have yr := lt_heap RB.out
  go_upto_region 3 with (go_at_call 39; (with_reducible refine (pd_ex OK2.out).mono ?_); rintro e w3 ⟨W, vs, rfl, hp, hbW⟩)
  have hb3 : Below W2.heap.size W2 w3 := below_on hbW hp.bel
  obtain ⟨v0, hv0⟩ := get_someF (l := vs) (k := 0) (by have := hp.vl; omega)
  have hown0 := hp.own 0 v0 [2] hv0 (ex_pd _)
  obtain ⟨A0, c0, rfl, hc0a, hc0b, _⟩ := own_form hown0
  have HR0 := Lib.hid (Row.of_own hown0).1
  have hcell0 : w3.cell? ⟨W.heap.size, 0, none⟩ = some (.slice A0 1 c0) := by rw [hp.out.cellAt 0 (by omega), hv0]; rfl
  have hWl : W.heap.size < w3.heap.size := (hp.out.lt W.heap.size rfl).2
  have OK3 := Lib.hid (OK2.out.up hb3)
  have RB3 := Lib.hid ((hb3.block _ yr).trans RB.out)
  have HB3 := Lib.hid (below_on HB0.out hb3)
  clear hp hbW hb3 hv0 hown0 r0 r1 r2 r3 r4 r5 yr RB OK2 HB0
  obtain ⟨r0, r1, r2, r3, r4, r5⟩ := six_cells RB3.out
  have yr := lt_heap RB3.out
  go_upto_region 4 with (go_at_call 41; (with_reducible refine (be_ex OK3.out).mono ?_); rintro e w4 ⟨v4, rfl, ho4, hb4⟩)
  obtain ⟨g4, c4, hv4, _, hg4⟩ := ho4.form (by decide)
  obtain rfl := hv4
  have hk0 : w4.cell? ⟨g4, 0, none⟩ = some (.int .i64 2) := by rw [ho4.cellAt 0 (by decide)]; rfl
  have hk1 : w4.cell? ⟨g4, 1, none⟩ = some (.int .i64 0) := by rw [ho4.cellAt 1 (by decide)]; rfl
  have hcell4 := (hb4.cell (p := ⟨W.heap.size, 0, none⟩) hWl).trans hcell0
  have hW4 : W.heap.size < w4.heap.size := Nat.lt_of_lt_of_le hWl hb4.size
  have OK4 := Lib.hid (OK3.out.up hb4)
  have RB4 := Lib.hid ((hb4.block _ yr).trans RB3.out)
  have HB4 := Lib.hid (below_on HB3.out hb4)
  have HR04 := Lib.hid (HR0.out.up hb4)
  clear ho4 hb4 hcell0 hWl r0 r1 r2 r3 r4 r5 yr RB3 OK3 HB3 HR0
  obtain ⟨r0, r1, r2, r3, r4, r5⟩ := six_cells RB4.out
  have yr := lt_heap RB4.out
  have hae := arr_eq
  go_wp2_with (first
    | (go_at_call 33; (with_reducible refine (sc_ex OK4.out).mono ?_); rintro e w5 ⟨v5, rfl, ho5, hb5⟩; obtain ⟨A5, c5, rfl, _, _, _⟩ := own_form ho5; have HR5 := Lib.hid (Row.of_own ho5).1; have HW5 := Lib.hid hb5; obtain ⟨hc5, hf5⟩ := bcell hb5; have hz5 := hb5.size; clear ho5 hb5)
    | (go_at_call 32; have hlit : Row (w5.alloc (.cells #[.int .i64 2, .int .i64 3] 3)) (w5.alloc (.cells #[.int .i64 2, .int .i64 3] 3)).heap.size (some ⟨w5.heap.size, 0, none⟩) [2, 3] := row_lit (L := [2, 3]) (World.alloc_heap_new _ _); (with_reducible refine (ints19_yes (w := w5.alloc (.cells #[.int .i64 2, .int .i64 3] 3)) (n := 2) (L := [2, 3]) (HR5.out.up (below_al (Below.refl _ _) _)) hlit (by decide) (by decide)).mono ?_); rintro e w6 ⟨rfl, q6, rfl⟩; have HW6 := Lib.hid (below_dr (below_al HW5.out (.cells #[.int .i64 2, .int .i64 3] 3)) q6); have RB6 := (HW6.out.block _ yr).trans RB4.out; obtain ⟨t0, t1, t2, t3, t4, t5⟩ := six_cells RB6; have yr6 := lt_heap RB6; clear RB6)
    | (go_at_call 43; (with_reducible refine (ds_ex (OK4.out.up HW6.out)).mono ?_); rintro e w7 ⟨v7, rfl, ho7, hb7⟩; obtain ⟨A7, c7, rfl, _, _, _⟩ := own_form ho7; have HR7 := Lib.hid (Row.of_own ho7).1; have HW7 := Lib.hid (below_on HW6.out hb7); obtain ⟨hc7, hf7⟩ := bcell hb7; have hz7 := hb7.size; clear ho7 hb7)
    | (go_at_call 32; have hlit : Row (w7.alloc (.cells #[.int .i64 0, .int .i64 1, .int .i64 2, .int .i64 2] 3)) (w7.alloc (.cells #[.int .i64 0, .int .i64 1, .int .i64 2, .int .i64 2] 3)).heap.size (some ⟨w7.heap.size, 0, none⟩) [0, 1, 2, 2] := row_lit (L := [0, 1, 2, 2]) (World.alloc_heap_new _ _); (with_reducible refine (ints19_yes (w := w7.alloc (.cells #[.int .i64 0, .int .i64 1, .int .i64 2, .int .i64 2] 3)) (n := 4) (L := [0, 1, 2, 2]) (HR7.out.up (below_al (Below.refl _ _) _)) hlit (by decide) (by decide)).mono ?_); rintro e w8 ⟨rfl, q8, rfl⟩; have HW8 := Lib.hid (below_dr (below_al HW7.out (.cells #[.int .i64 0, .int .i64 1, .int .i64 2, .int .i64 2] 3)) q8); have u0 := (HW8.out.cell (p := ⟨W.heap.size, 0, none⟩) hW4).trans hcell4; have hW8 := Nat.lt_of_lt_of_le hW4 HW8.out.size)
    | (go_at_call 32; have hsz : ((w7.alloc (.cells #[.int .i64 0, .int .i64 1, .int .i64 2, .int .i64 2] 3)).drewN q8).heap.size = w7.heap.size + 1 := (by simp); have hlit : Row (((w7.alloc (.cells #[.int .i64 0, .int .i64 1, .int .i64 2, .int .i64 2] 3)).drewN q8).alloc (.cells #[.int .i64 2] 3)) (((w7.alloc (.cells #[.int .i64 0, .int .i64 1, .int .i64 2, .int .i64 2] 3)).drewN q8).alloc (.cells #[.int .i64 2] 3)).heap.size (some ⟨w7.heap.size + 1, 0, none⟩) [2] := (by rw [← hsz]; exact row_lit (L := [2]) (World.alloc_heap_new _ _)); (with_reducible refine (ints19_yes (w := ((w7.alloc (.cells #[.int .i64 0, .int .i64 1, .int .i64 2, .int .i64 2] 3)).drewN q8).alloc (.cells #[.int .i64 2] 3)) (n := 1) (L := [2]) (HR04.out.up (below_al HW8.out _)) hlit (by decide) (by decide)).mono ?_); rintro e w9 ⟨rfl, q9, rfl⟩; have HW9 := Lib.hid (below_dr (below_al HW8.out (.cells #[.int .i64 2] 3)) q9); have x0 := (HW9.out.cell (p := ⟨g4, 0, none⟩) hg4).trans hk0; have x1 := (HW9.out.cell (p := ⟨g4, 1, none⟩) hg4).trans hk1; have hg9 := Nat.lt_of_lt_of_le hg4 HW9.out.size))
  go_ret
  exact ⟨rfl, below_on HB4.out HW9.out⟩

end Go.Proofs.Ytpghkdmljanncaa
