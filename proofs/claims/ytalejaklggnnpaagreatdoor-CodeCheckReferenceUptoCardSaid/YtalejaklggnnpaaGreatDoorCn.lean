import Derived.Test.YtalejaklggnnpaaGreatDoorCm
import Derived.Test.YtalejaklggnnpaaGreatDoorCbS
/- Layer 9: the chapter's example; few. (Written by gen/cn.py.) -/
namespace Go.Proofs.YtalejaklggnnpaaGreatDoor.I
open Go.ChangeShapes Go.WideShapes Go.ChangeAt Go.RowKit Go.PlainAid
set_option linter.unusedSimpArgs false
set_option linter.unusedVariables false
theorem ins_new9 {W : World} {B : Nat} {L : List In} {t : TypeId} (h : W.heap[B]? = some (.cells (irow L).toArray t)) (hok : ∀ i ∈ L, i.ok W W.heap.size) : Ins W W.heap.size (some ⟨B, 0, none⟩) L := by
 refine Or.inr ⟨B, 0, rfl, lt_heap h, fun k i hk => ?_⟩
 have at' : ∀ j v, j < 10 → (icells i)[j]? = some v → W.cell? ⟨B, 0 + k * 10 + j, none⟩ = some v := by
  intro j v hj hv
  have := irow_at L k j i hj hk
  rw [hv] at this
  rw [Nat.zero_add]
  simp [World.cell?, h, this]
 exact ⟨hok i (List.mem_of_getElem? hk), at' 0 _ (by decide) rfl, at' 1 _ (by decide) rfl, at' 2 _ (by decide) rfl, at' 3 _ (by decide) rfl, at' 4 _ (by decide) rfl, at' 5 _ (by decide) rfl, at' 6 _ (by decide) rfl, at' 7 _ (by decide) rfl, at' 8 _ (by decide) rfl, at' 9 _ (by decide) rfl⟩
def exJ (op a t : Int) : In := ⟨op, a, 0, t, none, 0, 0, [], none, 0, 0, [], ⟨#[]⟩, ⟨#[]⟩, ⟨#[]⟩, ⟨#[]⟩⟩
theorem exJ_ok (op a t : Int) (w : World) (B : Nat) : (exJ op a t).ok w B := ⟨rfl, Nat.le_refl _, by show 0 ≤ 9223372036854775807; omega, Or.inl rfl, rfl, Nat.le_refl _, by show 0 ≤ 9223372036854775807; omega, Or.inl rfl⟩
def exX (L : List In) (B : Nat) : Cd := ⟨1, 0, some ⟨B, 0, none⟩, L.length, L.length, L, none, 0, 0, [], none, 0, 0, none, 0, 0⟩
def exA : List In := [exJ 2 1 0, exJ 55 0 0]
def exB9 : List In := [exJ 0 0 0, exJ 2 1 0]
def exC9 : List In := [exJ 2 1 0, exJ 36 0 3, exJ 0 0 0, exJ 58 0 0]
def Jay (i : In) : Prop := ∃ op a t, i = exJ op a t
theorem exX_m9 {L : List In} {W : World} {B : Nat} (hl : L.length ≤ 1000) (hj : ∀ i ∈ L, Jay i) (h : W.heap[B]? = some (.cells (irow L).toArray 50)) : (exX L B).m9 W [] [] := by
 refine ⟨⟨rfl, ins_new9 h (fun i hi => ?_), by show L.length ≤ 1000000; omega, rfl, Or.inl rfl, by show 0 ≤ 1000000; omega, fun i hi => ?_, fun i hi => ?_⟩, rfl, Or.inl rfl, by show 0 ≤ 1000000; omega, rfl, Or.inl rfl, by show 0 ≤ 1000000; omega⟩
 ·
  obtain ⟨op, a, t, rfl⟩ := hj i hi; exact exJ_ok _ _ _ _ _
 ·
  obtain ⟨op, a, t, rfl⟩ := hj i hi; exact ⟨fun _ => rfl, fun _ => rfl⟩
 ·
  obtain ⟨op, a, t, rfl⟩ := hj i hi; show 0 ≤ 17592186043904; omega
theorem jA : ∀ i ∈ exA, Jay i := by intro i hi; simp only [exA, List.mem_cons, List.not_mem_nil, or_false] at hi; rcases hi with rfl | rfl <;> exact ⟨_, _, _, rfl⟩
theorem jB : ∀ i ∈ exB9, Jay i := by intro i hi; simp only [exB9, List.mem_cons, List.not_mem_nil, or_false] at hi; rcases hi with rfl | rfl <;> exact ⟨_, _, _, rfl⟩
theorem jC : ∀ i ∈ exC9, Jay i := by intro i hi; simp only [exC9, List.mem_cons, List.not_mem_nil, or_false] at hi; rcases hi with rfl | rfl | rfl | rfl <;> exact ⟨_, _, _, rfl⟩
theorem ckA (B : Nat) : ckC [] (exX exA B) [] [] = (0, 0) := by kernel_rfl
theorem ckB (B : Nat) : ckC [] (exX exB9 B) [] [] = (1, 18) := by kernel_rfl
theorem btC (B : Nat) : btL (exX exC9 B) = [false, false, false, true] := by kernel_rfl
theorem bsC (B : Nat) : bsL (exX exC9 B) = [0, 2, 3] := by kernel_rfl
theorem nilP (w : World) (B : Nat) : Pool w B none [] := Or.inl rfl
theorem nilF : Fits [] := fun c h => by cases h
theorem ckA_ex {W : World} {B : Nat} (h : W.heap[B]? = some (.cells (irow exA).toArray 50)) : Calls Tryz.prog 10 #[.slice none 0 0, .agg #[.int .i64 1, .int .i64 0, .slice (some ⟨B, 0, none⟩) 2 2, .slice none 0 0, .slice none 0 0, .slice none 0 0]] W fun e w' => e = .returned (.tuple #[.int .i64 0, .int .i64 0]) ∧ Below W.heap.size W w' := by
 have := chk9_any (A := none) (n := 0) (cap := 0) (exX exA B) [] [] W nilF rfl (by omega) (nilP _ _) (exX_m9 (by decide) jA h)
 rw [ckA] at this
 exact this
theorem ckB_ex {W : World} {B : Nat} (h : W.heap[B]? = some (.cells (irow exB9).toArray 50)) : Calls Tryz.prog 10 #[.slice none 0 0, .agg #[.int .i64 1, .int .i64 0, .slice (some ⟨B, 0, none⟩) 2 2, .slice none 0 0, .slice none 0 0, .slice none 0 0]] W fun e w' => e = .returned (.tuple #[.int .i64 1, .int .i64 18]) ∧ Below W.heap.size W w' := by
 have := chk9_any (A := none) (n := 0) (cap := 0) (exX exB9 B) [] [] W nilF rfl (by omega) (nilP _ _) (exX_m9 (by decide) jB h)
 rw [ckB] at this
 exact this
theorem btC_ex {W : World} {B : Nat} (h : (exX exC9 B).m9 W [] []) : Calls Tryz.prog 21 #[.agg #[.int .i64 1, .int .i64 0, .slice (some ⟨B, 0, none⟩) 4 4, .slice none 0 0, .slice none 0 0, .slice none 0 0]] W (MarksRet W 4 [false, false, false, true]) := by
 have := bt_any (exX exC9 B) W h.c9
 rw [btC] at this
 exact this
theorem bsC_ex {W : World} {B : Nat} (h : (exX exC9 B).m9 W [] []) : Calls Tryz.prog 22 #[.agg #[.int .i64 1, .int .i64 0, .slice (some ⟨B, 0, none⟩) 4 4, .slice none 0 0, .slice none 0 0, .slice none 0 0]] W (IntsOwn W [0, 2, 3]) := by
 have := bs_any (exX exC9 B) W h.c9
 rw [bsC] at this
 exact this
set_option maxRecDepth 100000 in
set_option maxHeartbeats 8000000 in
theorem awake9_any (w : World) : Calls Tryz.prog 9 #[] w fun e w' => e = .returned (.bool true) ∧ Below w.heap.size w w' := by
 go_enter Tryz.func9, Tryz.ntmps9
 go_upto_region 2 with fail
 obtain ⟨H0, H1, hB⟩ := two_laid9 w (.cells #[.int .i64 2, .int .i64 1, .int .i64 0, .int .i64 0, .slice none 0 0, .slice none 0 0, .string ⟨#[]⟩, .string ⟨#[]⟩, .string ⟨#[]⟩, .string ⟨#[]⟩] 50) (.cells #[.int .i64 55, .int .i64 0, .int .i64 0, .int .i64 0, .slice none 0 0, .slice none 0 0, .string ⟨#[]⟩, .string ⟨#[]⟩, .string ⟨#[]⟩, .string ⟨#[]⟩] 50)
 generalize (w.alloc (.cells #[.int .i64 2, .int .i64 1, .int .i64 0, .int .i64 0, .slice none 0 0, .slice none 0 0, .string ⟨#[]⟩, .string ⟨#[]⟩, .string ⟨#[]⟩, .string ⟨#[]⟩] 50)).alloc (.cells #[.int .i64 55, .int .i64 0, .int .i64 0, .int .i64 0, .slice none 0 0, .slice none 0 0, .string ⟨#[]⟩, .string ⟨#[]⟩, .string ⟨#[]⟩, .string ⟨#[]⟩] 50) = W at H0 H1 hB ⊢
 have HP := Lib.hid H0
 have HB := Lib.hid hB
 obtain ⟨p0, p1, p2, p3, p4, p5, p6, p7, p8, p9⟩ := ten_cells H0
 obtain ⟨q0, q1, q2, q3, q4, q5, q6, q7, q8, q9⟩ := ten_cells H1
 have yp := lt_heap H0
 have yq := lt_heap H1
 clear H0 H1 hB
 go_upto_region 3 with (go_at_call 10; refine (ckA_ex (World.alloc_heap_new W (.cells #[.int .i64 2, .int .i64 1, .int .i64 0, .int .i64 0, .slice none 0 0, .slice none 0 0, .string ⟨#[]⟩, .string ⟨#[]⟩, .string ⟨#[]⟩, .string ⟨#[]⟩, .int .i64 55, .int .i64 0, .int .i64 0, .int .i64 0, .slice none 0 0, .slice none 0 0, .string ⟨#[]⟩, .string ⟨#[]⟩, .string ⟨#[]⟩, .string ⟨#[]⟩] 50))).mono ?_; rintro e w2 ⟨rfl, hb2⟩)
 have HB2 := Lib.hid (below_on (below_al HB.out (.cells #[.int .i64 2, .int .i64 1, .int .i64 0, .int .i64 0, .slice none 0 0, .slice none 0 0, .string ⟨#[]⟩, .string ⟨#[]⟩, .string ⟨#[]⟩, .string ⟨#[]⟩, .int .i64 55, .int .i64 0, .int .i64 0, .int .i64 0, .slice none 0 0, .slice none 0 0, .string ⟨#[]⟩, .string ⟨#[]⟩, .string ⟨#[]⟩, .string ⟨#[]⟩] 50)) hb2)
 have HP2 := Lib.hid ((hb2.block _ (by simp; omega)).trans (laid_old (o' := (.cells #[.int .i64 2, .int .i64 1, .int .i64 0, .int .i64 0, .slice none 0 0, .slice none 0 0, .string ⟨#[]⟩, .string ⟨#[]⟩, .string ⟨#[]⟩, .string ⟨#[]⟩, .int .i64 55, .int .i64 0, .int .i64 0, .int .i64 0, .slice none 0 0, .slice none 0 0, .string ⟨#[]⟩, .string ⟨#[]⟩, .string ⟨#[]⟩, .string ⟨#[]⟩] 50)) HP.out))
 clear p0 p1 p2 p3 p4 p5 p6 p7 p8 p9 q0 q1 q2 q3 q4 q5 q6 q7 q8 q9 yp yq hb2 HB HP
 obtain ⟨p0, p1, p2, p3, p4, p5, p6, p7, p8, p9⟩ := ten_cells HP2.out
 have yp := lt_heap HP2.out
 go_upto_region 4 with (go_at_call 10; refine (ckB_ex (World.alloc_heap_new w2 (.cells #[.int .i64 0, .int .i64 0, .int .i64 0, .int .i64 0, .slice none 0 0, .slice none 0 0, .string ⟨#[]⟩, .string ⟨#[]⟩, .string ⟨#[]⟩, .string ⟨#[]⟩, .int .i64 2, .int .i64 1, .int .i64 0, .int .i64 0, .slice none 0 0, .slice none 0 0, .string ⟨#[]⟩, .string ⟨#[]⟩, .string ⟨#[]⟩, .string ⟨#[]⟩] 50))).mono ?_; rintro e w3 ⟨rfl, hb3⟩)
 have HB3 := Lib.hid (below_on (below_al HB2.out (.cells #[.int .i64 0, .int .i64 0, .int .i64 0, .int .i64 0, .slice none 0 0, .slice none 0 0, .string ⟨#[]⟩, .string ⟨#[]⟩, .string ⟨#[]⟩, .string ⟨#[]⟩, .int .i64 2, .int .i64 1, .int .i64 0, .int .i64 0, .slice none 0 0, .slice none 0 0, .string ⟨#[]⟩, .string ⟨#[]⟩, .string ⟨#[]⟩, .string ⟨#[]⟩] 50)) hb3)
 have HP3 := Lib.hid ((hb3.block _ (by simp; omega)).trans (laid_old (o' := (.cells #[.int .i64 0, .int .i64 0, .int .i64 0, .int .i64 0, .slice none 0 0, .slice none 0 0, .string ⟨#[]⟩, .string ⟨#[]⟩, .string ⟨#[]⟩, .string ⟨#[]⟩, .int .i64 2, .int .i64 1, .int .i64 0, .int .i64 0, .slice none 0 0, .slice none 0 0, .string ⟨#[]⟩, .string ⟨#[]⟩, .string ⟨#[]⟩, .string ⟨#[]⟩] 50)) HP2.out))
 clear p0 p1 p2 p3 p4 p5 p6 p7 p8 p9 yp hb3 HB2 HP2
 obtain ⟨p0, p1, p2, p3, p4, p5, p6, p7, p8, p9⟩ := ten_cells HP3.out
 have yp := lt_heap HP3.out
 go_upto_region 5 with fail
 obtain ⟨K0, K1, kB⟩ := two_laid9 w3 (.cells #[.int .i64 2, .int .i64 1, .int .i64 0, .int .i64 0, .slice none 0 0, .slice none 0 0, .string ⟨#[]⟩, .string ⟨#[]⟩, .string ⟨#[]⟩, .string ⟨#[]⟩, .int .i64 36, .int .i64 0, .int .i64 0, .int .i64 3, .slice none 0 0, .slice none 0 0, .string ⟨#[]⟩, .string ⟨#[]⟩, .string ⟨#[]⟩, .string ⟨#[]⟩, .int .i64 0, .int .i64 0, .int .i64 0, .int .i64 0, .slice none 0 0, .slice none 0 0, .string ⟨#[]⟩, .string ⟨#[]⟩, .string ⟨#[]⟩, .string ⟨#[]⟩, .int .i64 58, .int .i64 0, .int .i64 0, .int .i64 0, .slice none 0 0, .slice none 0 0, .string ⟨#[]⟩, .string ⟨#[]⟩, .string ⟨#[]⟩, .string ⟨#[]⟩] 50) (.cells #[.int .i64 1, .int .i64 0, .slice (some ⟨w3.heap.size, 0, none⟩) 4 4, .slice none 0 0, .slice none 0 0, .slice none 0 0] 28)
 have EM := Lib.hid (exX_m9 (L := exC9) (B := w3.heap.size) (by decide) jC K0)
 have HBA := below_on HB3.out kB
 clear kB
 generalize hbx : w3.heap.size + 1 = BX at K1 ⊢
 generalize hb3 : w3.heap.size = B3 at K1 EM HBA ⊢
 generalize (w3.alloc (.cells #[.int .i64 2, .int .i64 1, .int .i64 0, .int .i64 0, .slice none 0 0, .slice none 0 0, .string ⟨#[]⟩, .string ⟨#[]⟩, .string ⟨#[]⟩, .string ⟨#[]⟩, .int .i64 36, .int .i64 0, .int .i64 0, .int .i64 3, .slice none 0 0, .slice none 0 0, .string ⟨#[]⟩, .string ⟨#[]⟩, .string ⟨#[]⟩, .string ⟨#[]⟩, .int .i64 0, .int .i64 0, .int .i64 0, .int .i64 0, .slice none 0 0, .slice none 0 0, .string ⟨#[]⟩, .string ⟨#[]⟩, .string ⟨#[]⟩, .string ⟨#[]⟩, .int .i64 58, .int .i64 0, .int .i64 0, .int .i64 0, .slice none 0 0, .slice none 0 0, .string ⟨#[]⟩, .string ⟨#[]⟩, .string ⟨#[]⟩, .string ⟨#[]⟩] 50)).alloc (.cells #[.int .i64 1, .int .i64 0, .slice (some ⟨B3, 0, none⟩) 4 4, .slice none 0 0, .slice none 0 0, .slice none 0 0] 28) = wA at K1 EM HBA ⊢
 replace HBA := Lib.hid HBA
 have RB := Lib.hid K1
 clear p0 p1 p2 p3 p4 p5 p6 p7 p8 p9 yp K0 K1 HP3 HB3
 try clear hbx hb3
 obtain ⟨r0, r1, r2, r3, r4, r5⟩ := six_cells RB.out
 have yr := lt_heap RB.out
 go_region_held3 (fun w' => w'.cell? ⟨BX, 0, none⟩ = some (.int .i64 1) ∧ w'.cell? ⟨BX, 1, none⟩ = some (.int .i64 0) ∧ w'.cell? ⟨BX, 2, none⟩ = some (.slice (some ⟨B3, 0, none⟩) 4 4) ∧ w'.cell? ⟨BX, 3, none⟩ = some (.slice none 0 0) ∧ w'.cell? ⟨BX, 4, none⟩ = some (.slice none 0 0) ∧ w'.cell? ⟨BX, 5, none⟩ = some (.slice none 0 0) ∧ BX < w'.heap.size ∧ Below wA.heap.size wA w') (((try go_split_ands); (repeat' apply And.intro) <;> (first | assumption | exact (Below.refl _ _).drew | (first | exact below_on (w := wA) (by assumption) hq | exact Below.drew (by assumption) | assumption) | exact (Below.cell hq (by first | omega | (simp; omega))).trans (by assumption) | (have := hq.size; omega) | (simp; omega) | go_keep)))
  (first | (go_at_call 21; (with_reducible refine (btC_ex (B := B3) (EM.out.up (by first | assumption | (go_split_ands; assumption)))).mono ?_); rintro e w2 ⟨WA, rfl, hm, hq1⟩; have hq := below_on hq1 hm.bel; have HA := Lib.hid hm; clear hm hq1) | (go_at_call 22; (with_reducible refine (bsC_ex (B := B3) (EM.out.up (by first | assumption | (go_split_ands; assumption)))).mono ?_); rintro e w2 ⟨vv, rfl, ho, hq⟩; replace HA := Lib.hid (HA.out.up hq); have HO := Lib.hid ho; clear ho))
 go_split_ands
 have hend : Below wA.heap.size wA w2 := by assumption
 obtain ⟨A4, c4, rfl, hc4, hm4, hn4⟩ := own_form HO.out
 have HRW := Lib.hid (Row.of_own HO.out).1
 rcases HRW.out with h0 | ⟨g4, o4, rfl, hg4, hc⟩
 ·
  cases h0
 have e0 : w2.cell? ⟨g4, o4, none⟩ = some (.int .i64 0) := hc 0 0 rfl
 have e1 := hc 1 2 rfl
 have e2 := hc 2 3 rfl
 rw [show ([0, 2, 3] : List Int).length = 3 from rfl]
 have m2 := HA.out.cell (j := 2) (b := false) rfl
 have m3 := HA.out.cell (j := 3) (b := true) rfl
 have hsz := HA.out.sz
 have HE := Lib.hid (below_on HBA.out hend)
 clear hend r0 r1 r2 r3 r4 r5 yr hc
 try clear hq
 go_wp2
 go_ret
 exact ⟨rfl, HE.out⟩
end Go.Proofs.YtalejaklggnnpaaGreatDoor.I
