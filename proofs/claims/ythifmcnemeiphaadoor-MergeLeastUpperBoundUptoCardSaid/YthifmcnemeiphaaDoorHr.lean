/- Layer 16: the reference's checkEntry. -/
import Derived.Test.YthifmcnemeiphaaDoorHq
import Derived.Test.YthifmcnemeiphaaDoorHo
import Derived.Test.YthifmcnemeiphaaDoorNameCls
import Derived.Test.YthifmcnemeiphaaDoorReg
import Derived.Deep.RegionHeld3
namespace Go.Proofs.YthifmcnemeiphaaDoor
open Go.ChangeShapes Go.WideShapes Go.ChangeAt Go.RowKit Go.PlainAid Go.Maps
set_option linter.unusedSimpArgs false
set_option linter.unusedVariables false

theorem CIs.take {w : World} {B : Nat} {A : Option Addr} {L : List CI} (h : CIs w B A L) (i : Nat) : CIs w B A (L.take i) := by
  rcases h with h | ⟨g, o, hA, hg, hc⟩
  · rw [h]; exact Or.inl (by simp)
  · refine Or.inr ⟨g, o, hA, hg, fun k x hk => hc k x ?_⟩
    rw [List.getElem?_take] at hk
    split at hk
    · exact hk
    · cases hk
theorem box_at {W1 W : World} {b : Nat} {x0 x1 x2 x3 : Value} (hb : Below W1.heap.size W1 W) (hl : b < W1.heap.size) (h : W1.cell? ⟨b, 0, none⟩ = some x0 ∧ W1.cell? ⟨b, 1, none⟩ = some x1 ∧ W1.cell? ⟨b, 2, none⟩ = some x2 ∧ W1.cell? ⟨b, 3, none⟩ = some x3) :
    W.cell? ⟨b, 0, none⟩ = some x0 ∧ W.cell? ⟨b, 1, none⟩ = some x1 ∧ W.cell? ⟨b, 2, none⟩ = some x2 ∧ W.cell? ⟨b, 3, none⟩ = some x3 :=
  ⟨(hb.cell (p := ⟨b, 0, none⟩) hl).trans h.1, (hb.cell (p := ⟨b, 1, none⟩) hl).trans h.2.1, (hb.cell (p := ⟨b, 2, none⟩) hl).trans h.2.2.1, (hb.cell (p := ⟨b, 3, none⟩) hl).trans h.2.2.2⟩
theorem box_dr {W w1 : World} {o : Obj} (h : Below ((W.alloc o).drew).heap.size ((W.alloc o).drew) w1) : w1.heap[W.heap.size]? = some o ∧ Below W.heap.size W w1 :=
  ⟨(h.block W.heap.size (show W.heap.size < (W.alloc o).heap.size by simp)).trans (World.alloc_heap_new W o), below_on (W := (W.alloc o).drew) (below_al (Below.refl W.heap.size W) o).drew h⟩
theorem box_dr0 {W w1 : World} (h : Below (W.drew).heap.size (W.drew) w1) : Below W.heap.size W w1 := below_on (Below.refl W.heap.size W).drew h
theorem take_dup {L : List CI} {i : Nat} {x : CI} (hx : L[i]? = some x) : fB (L.take i) x.nm = decide (fI L x.nm ≠ i) := by
  have hi := lt_of_some hx
  have hxe : L[i] = x := by rw [List.getElem?_eq_getElem hi] at hx; exact Option.some.inj hx
  have hle : fnd L x.nm ≤ i := by
    rcases Nat.lt_or_ge i (fnd L x.nm) with h | h
    · exact absurd (by rw [hxe]) (fnd_min h)
    · exact h
  have hl : fnd L x.nm < L.length := by omega
  have hfi : fI L x.nm = fnd L x.nm := (fI_of (fB_of hl)).1
  have hlt : (L.take i).length = i := by rw [List.length_take]; omega
  rw [hfi]
  by_cases he : fnd L x.nm = i
  · rw [decide_eq_false (by simpa using he)]
    unfold fB
    rw [fnd_none (L := L.take i)]
    · exact decide_eq_false (Nat.lt_irrefl _)
    · intro j hj
      rw [List.getElem_take]
      exact fnd_min (by omega)
  · rw [decide_eq_true (by simpa using he)]
    refine fB_of ?_
    rw [fnd_at (L := L.take i) (k := fnd L x.nm) (by omega)]
    · omega
    · intro j hj
      rw [List.getElem_take]
      exact fnd_min hj
    · rw [List.getElem_take, fnd_nm hl]
set_option maxRecDepth 100000 in
set_option maxHeartbeats 4000000 in
theorem rce_a (A : Option Addr) (n c : Nat) (L : List CI) (i : Nat) (w : World) (hn : L.length = n) (hs : Mid L) (h : CIs w w.heap.size A L) (hcap : n ≤ c) (hcm : c ≤ 9223372036854775807) (hi : i < n) (x : CI) (hx : L[i]? = some x) (h1 : clsB x.nm = false) :
    Calls Tryd.prog 57 #[.slice A n c, .int .i64 i] w fun e w' => e = .returned (.int .i64 12) ∧ Below w.heap.size w w' := by
  have HL := Lib.hid h
  have HN := Lib.hid hn
  have HS := Lib.hid hs
  have hn60 : n ≤ 60 := by rw [← hn]; exact hs.1
  have hiL : i < L.length := by rw [hn]; exact hi
  have hxe : L[i] = x := by rw [List.getElem?_eq_getElem hiL] at hx; exact Option.some.inj hx
  obtain ⟨g, o, rfl, hg, hok, c0, c1, c2, c3⟩ := h.at hiL
  rw [hxe] at hok c0 c1 c2 c3
  have HX := Lib.hid hx
  have HOK := Lib.hid hok
  have hz0 := hok.1
  clear hxe hx h hn hs hok
  go_enter Tryd.func57, Tryd.ntmps57
  go_upto_region 2 with fail
  have hbx := World.alloc_heap_new w (.cells #[.string x.nm, .string x.su, .slice x.iA x.n x.c, .bool x.isI] 30)
  have hB := below_al (Below.refl w.heap.size w) (.cells #[.string x.nm, .string x.su, .slice x.iA x.n x.c, .bool x.isI] 30)
  generalize w.alloc (.cells #[.string x.nm, .string x.su, .slice x.iA x.n x.c, .bool x.isI] 30) = W1 at hbx hB ⊢
  have hlw := lt_heap hbx
  obtain ⟨⟨x0, x1, x2, x3⟩, _⟩ := four_cells hbx
  have HB := Lib.hid hB
  have HBX := Lib.hid hbx
  have HL1 := Lib.hid (HL.out.up HB.out)
  have HOK1 := Lib.hid (HOK.out.up HB.out)
  have HXX := Lib.hid (And.intro x0 (And.intro x1 (And.intro x2 x3)))
  clear c0 c1 c2 c3 hbx hB
  go_wp2_with (go_at_call 90; (with_reducible refine (rcls_any _ hz0 _).mono ?_); rintro e w1 ⟨rfl, rfl⟩)
  go_ret
  exact ⟨rfl, HB.out⟩
set_option maxRecDepth 100000 in
set_option maxHeartbeats 4000000 in
theorem rce_b (A : Option Addr) (n c : Nat) (L : List CI) (i : Nat) (w : World) (hn : L.length = n) (hs : Mid L) (h : CIs w w.heap.size A L) (hcap : n ≤ c) (hcm : c ≤ 9223372036854775807) (hi : i < n) (x : CI) (hx : L[i]? = some x) (h1 : clsB x.nm = true) (h2 : fB (L.take i) x.nm = true) :
    Calls Tryd.prog 57 #[.slice A n c, .int .i64 i] w fun e w' => e = .returned (.int .i64 6) ∧ Below w.heap.size w w' := by
  have HL := Lib.hid h
  have HN := Lib.hid hn
  have HS := Lib.hid hs
  have hn60 : n ≤ 60 := by rw [← hn]; exact hs.1
  have hiL : i < L.length := by rw [hn]; exact hi
  have hxe : L[i] = x := by rw [List.getElem?_eq_getElem hiL] at hx; exact Option.some.inj hx
  obtain ⟨g, o, rfl, hg, hok, c0, c1, c2, c3⟩ := h.at hiL
  rw [hxe] at hok c0 c1 c2 c3
  have HX := Lib.hid hx
  have HOK := Lib.hid hok
  have hz0 := hok.1
  clear hxe hx h hn hs hok
  go_enter Tryd.func57, Tryd.ntmps57
  go_upto_region 2 with fail
  have hbx := World.alloc_heap_new w (.cells #[.string x.nm, .string x.su, .slice x.iA x.n x.c, .bool x.isI] 30)
  have hB := below_al (Below.refl w.heap.size w) (.cells #[.string x.nm, .string x.su, .slice x.iA x.n x.c, .bool x.isI] 30)
  generalize w.alloc (.cells #[.string x.nm, .string x.su, .slice x.iA x.n x.c, .bool x.isI] 30) = W1 at hbx hB ⊢
  have hlw := lt_heap hbx
  obtain ⟨⟨x0, x1, x2, x3⟩, _⟩ := four_cells hbx
  have HB := Lib.hid hB
  have HBX := Lib.hid hbx
  have HL1 := Lib.hid (HL.out.up HB.out)
  have HOK1 := Lib.hid (HOK.out.up HB.out)
  have HXX := Lib.hid (And.intro x0 (And.intro x1 (And.intro x2 x3)))
  clear c0 c1 c2 c3 hbx hB
  go_upto_region 4 with (go_at_call 90; (with_reducible refine (rcls_any _ hz0 _).mono ?_); rintro e w1 ⟨rfl, rfl⟩)
  have HK := Lib.hid (show ∀ (W : World) (hb : Below W1.heap.size W1 W), Calls Tryd.prog 21 #[.slice (some ⟨g, o, none⟩) i c, .string x.nm] W fun e w' => e = .returned (.tuple #[(Value.agg #[Value.string (CI.nm (lkC (L.take i) x.nm)), Value.string (CI.su (lkC (L.take i) x.nm)), Value.slice (CI.iA (lkC (L.take i) x.nm)) (CI.n (lkC (L.take i) x.nm)) (CI.c (lkC (L.take i) x.nm)), Value.bool (CI.isI (lkC (L.take i) x.nm))]), .bool (fB (L.take i) x.nm)]) ∧ Below W1.heap.size W1 w' ∧ Below W.heap.size W w' from fun W hb => (rlookup_any (some ⟨g, o, none⟩) i c (L.take i) x.nm W (by rw [List.length_take, HN.out]; omega) (by omega) ((((HL.out.up HB.out).up hb)).take i)).mono fun e w' h => ⟨h.1, below_on hb h.2, h.2⟩)
  rw [h2] at HK
  have hic : i ≤ c := by omega
  obtain ⟨y, hy⟩ : ∃ y, lkC (L.take i) x.nm = y := ⟨_, rfl⟩
  rw [hy] at HK
  clear hy h2
  go_region_with (go_at_call 21; (with_reducible refine (HK.out _ (by first | exact (Below.refl W1.heap.size W1).drew | exact below_al (Below.refl W1.heap.size W1).drew _ | exact (below_al (Below.refl W1.heap.size W1) _).drew)).mono ?_); rintro e w1 ⟨rfl, hb2, hb1⟩; obtain ⟨hc1, hf1⟩ := bcell hb1; have hz1 := hb1.size; (try simp only [World.size_alloc] at hz1); (try have hza : W1.heap.size < w1.heap.size := by omega); have HBN := Lib.hid hb2; have hbx1 := (hb2.block w.heap.size hlw).trans HBX.out; obtain ⟨⟨a0, a1, a2, a3⟩, _⟩ := four_cells hbx1; have hl1 := lt_heap hbx1; clear hb1 hb2 hbx1)
  all_goals (go_wp2; go_ret; exact ⟨rfl, below_on HB.out (by repeat (first | with_reducible exact HBN.out | with_reducible refine below_al ?_ _ | with_reducible refine below_st ?_ (by first | exact Nat.le_refl _ | omega | (simp; omega)) _))⟩)
set_option maxRecDepth 100000 in
set_option maxHeartbeats 4000000 in
theorem rce_c (A : Option Addr) (n c : Nat) (L : List CI) (i : Nat) (w : World) (hn : L.length = n) (hs : Mid L) (h : CIs w w.heap.size A L) (hcap : n ≤ c) (hcm : c ≤ 9223372036854775807) (hi : i < n) (x : CI) (hx : L[i]? = some x) (h1 : clsB x.nm = true) (h2 : fB (L.take i) x.nm = false) (h3 : abB L x = false) :
    Calls Tryd.prog 57 #[.slice A n c, .int .i64 i] w fun e w' => e = .returned (.int .i64 33) ∧ Below w.heap.size w w' := by
  have HL := Lib.hid h
  have HN := Lib.hid hn
  have HS := Lib.hid hs
  have hn60 : n ≤ 60 := by rw [← hn]; exact hs.1
  have hiL : i < L.length := by rw [hn]; exact hi
  have hxe : L[i] = x := by rw [List.getElem?_eq_getElem hiL] at hx; exact Option.some.inj hx
  obtain ⟨g, o, rfl, hg, hok, c0, c1, c2, c3⟩ := h.at hiL
  rw [hxe] at hok c0 c1 c2 c3
  have HX := Lib.hid hx
  have HOK := Lib.hid hok
  have hz0 := hok.1
  clear hxe hx h hn hs hok
  go_enter Tryd.func57, Tryd.ntmps57
  go_upto_region 2 with fail
  have hbx := World.alloc_heap_new w (.cells #[.string x.nm, .string x.su, .slice x.iA x.n x.c, .bool x.isI] 30)
  have hB := below_al (Below.refl w.heap.size w) (.cells #[.string x.nm, .string x.su, .slice x.iA x.n x.c, .bool x.isI] 30)
  generalize w.alloc (.cells #[.string x.nm, .string x.su, .slice x.iA x.n x.c, .bool x.isI] 30) = W1 at hbx hB ⊢
  have hlw := lt_heap hbx
  obtain ⟨⟨x0, x1, x2, x3⟩, _⟩ := four_cells hbx
  have HB := Lib.hid hB
  have HBX := Lib.hid hbx
  have HL1 := Lib.hid (HL.out.up HB.out)
  have HOK1 := Lib.hid (HOK.out.up HB.out)
  have HXX := Lib.hid (And.intro x0 (And.intro x1 (And.intro x2 x3)))
  clear c0 c1 c2 c3 hbx hB
  go_upto_region 4 with (go_at_call 90; (with_reducible refine (rcls_any _ hz0 _).mono ?_); rintro e w1 ⟨rfl, rfl⟩)
  have HK := Lib.hid (show ∀ (W : World) (hb : Below W1.heap.size W1 W), Calls Tryd.prog 21 #[.slice (some ⟨g, o, none⟩) i c, .string x.nm] W fun e w' => e = .returned (.tuple #[(Value.agg #[Value.string (CI.nm (lkC (L.take i) x.nm)), Value.string (CI.su (lkC (L.take i) x.nm)), Value.slice (CI.iA (lkC (L.take i) x.nm)) (CI.n (lkC (L.take i) x.nm)) (CI.c (lkC (L.take i) x.nm)), Value.bool (CI.isI (lkC (L.take i) x.nm))]), .bool (fB (L.take i) x.nm)]) ∧ Below W1.heap.size W1 w' ∧ Below W.heap.size W w' from fun W hb => (rlookup_any (some ⟨g, o, none⟩) i c (L.take i) x.nm W (by rw [List.length_take, HN.out]; omega) (by omega) ((((HL.out.up HB.out).up hb)).take i)).mono fun e w' h => ⟨h.1, below_on hb h.2, h.2⟩)
  rw [h2] at HK
  have hic : i ≤ c := by omega
  obtain ⟨y, hy⟩ : ∃ y, lkC (L.take i) x.nm = y := ⟨_, rfl⟩
  rw [hy] at HK
  clear hy h2
  go_region_with (go_at_call 21; (with_reducible refine (HK.out _ (by first | exact (Below.refl W1.heap.size W1).drew | exact below_al (Below.refl W1.heap.size W1).drew _ | exact (below_al (Below.refl W1.heap.size W1) _).drew)).mono ?_); rintro e w1 ⟨rfl, hb2, hb1⟩; obtain ⟨hc1, hf1⟩ := bcell hb1; have hz1 := hb1.size; (try simp only [World.size_alloc] at hz1); (try have hza : W1.heap.size < w1.heap.size := by omega); have HBN := Lib.hid hb2; have hbx1 := (hb2.block w.heap.size hlw).trans HBX.out; obtain ⟨⟨a0, a1, a2, a3⟩, _⟩ := four_cells hbx1; have hl1 := lt_heap hbx1; clear hb1 hb2 hbx1)
  all_goals
    go_wp2_with (go_at_call 91; (with_reducible refine (above_any _ n c L x _ HN.out (by omega) (HL1.out.up (by repeat (first | with_reducible exact HBN.out | with_reducible refine below_al ?_ _ | with_reducible refine below_st ?_ (by first | exact Nat.le_refl _ | omega | (simp; omega)) _))) (HOK1.out.up (by repeat (first | with_reducible exact HBN.out | with_reducible refine below_al ?_ _ | with_reducible refine below_st ?_ (by first | exact Nat.le_refl _ | omega | (simp; omega)) _)))).mono ?_); rintro e w2 ⟨rfl, hb3⟩; have HB3 := Lib.hid (below_on (w := W1) (by repeat (first | with_reducible exact HBN.out | with_reducible refine below_al ?_ _ | with_reducible refine below_st ?_ (by first | exact Nat.le_refl _ | omega | (simp; omega)) _)) hb3); clear hb3)
    go_ret
    exact ⟨rfl, below_on HB.out HB3.out⟩
theorem has_rc {L : List CI} {i : Nat} {x : CI} {R : List ByteArray} (hx : L[i]? = some x) (hi : fI L x.nm = i) (hm : ∀ t, t ∈ R ↔ Nr L x.nm t) : hasL R x.nm = rcB L i i := by
  have hil := lt_of_some hx
  have hxe : L[i] = x := by rw [List.getElem?_eq_getElem hil] at hx; exact Option.some.inj hx
  have hf : fB L x.nm = true := by
    refine fB_of ?_
    rcases Nat.lt_or_ge (fnd L x.nm) L.length with h | h
    · exact h
    · exact absurd (by rw [hxe]) (fnd_min (L := L) (s := x.nm) (j := i) (by omega))
  rw [Bool.eq_iff_iff, hasL_iff, rcB_iff, hm]
  constructor
  · intro h
    have := nr_place hf h hf
    rwa [hi] at this
  · intro h
    exact place_nr hf (hi ▸ h) _ hf hi
set_option maxRecDepth 100000 in
set_option maxHeartbeats 4000000 in
theorem rce_d (A : Option Addr) (n c : Nat) (L : List CI) (i : Nat) (w : World) (hn : L.length = n) (hs : Mid L) (h : CIs w w.heap.size A L) (hcap : n ≤ c) (hcm : c ≤ 9223372036854775807) (hi : i < n) (x : CI) (hx : L[i]? = some x) (h1 : clsB x.nm = true) (h2 : fB (L.take i) x.nm = false) (h3 : abB L x = true) (h4 : x.fs.all (ifOk L) = false) :
    Calls Tryd.prog 57 #[.slice A n c, .int .i64 i] w fun e w' => e = .returned (.int .i64 37) ∧ Below w.heap.size w w' := by
  have HL := Lib.hid h
  have HN := Lib.hid hn
  have HS := Lib.hid hs
  have hn60 : n ≤ 60 := by rw [← hn]; exact hs.1
  have hiL : i < L.length := by rw [hn]; exact hi
  have hxe : L[i] = x := by rw [List.getElem?_eq_getElem hiL] at hx; exact Option.some.inj hx
  obtain ⟨g, o, rfl, hg, hok, c0, c1, c2, c3⟩ := h.at hiL
  rw [hxe] at hok c0 c1 c2 c3
  have HX := Lib.hid hx
  have HOK := Lib.hid hok
  have hz0 := hok.1
  clear hxe hx h hn hs hok
  go_enter Tryd.func57, Tryd.ntmps57
  go_upto_region 2 with fail
  have hbx := World.alloc_heap_new w (.cells #[.string x.nm, .string x.su, .slice x.iA x.n x.c, .bool x.isI] 30)
  have hB := below_al (Below.refl w.heap.size w) (.cells #[.string x.nm, .string x.su, .slice x.iA x.n x.c, .bool x.isI] 30)
  generalize w.alloc (.cells #[.string x.nm, .string x.su, .slice x.iA x.n x.c, .bool x.isI] 30) = W1 at hbx hB ⊢
  have hlw := lt_heap hbx
  obtain ⟨⟨x0, x1, x2, x3⟩, _⟩ := four_cells hbx
  have HB := Lib.hid hB
  have HBX := Lib.hid hbx
  have HL1 := Lib.hid (HL.out.up HB.out)
  have HOK1 := Lib.hid (HOK.out.up HB.out)
  have HXX := Lib.hid (And.intro x0 (And.intro x1 (And.intro x2 x3)))
  clear c0 c1 c2 c3 hbx hB
  go_upto_region 4 with (go_at_call 90; (with_reducible refine (rcls_any _ hz0 _).mono ?_); rintro e w1 ⟨rfl, rfl⟩)
  have HK := Lib.hid (show ∀ (W : World) (hb : Below W1.heap.size W1 W), Calls Tryd.prog 21 #[.slice (some ⟨g, o, none⟩) i c, .string x.nm] W fun e w' => e = .returned (.tuple #[(Value.agg #[Value.string (CI.nm (lkC (L.take i) x.nm)), Value.string (CI.su (lkC (L.take i) x.nm)), Value.slice (CI.iA (lkC (L.take i) x.nm)) (CI.n (lkC (L.take i) x.nm)) (CI.c (lkC (L.take i) x.nm)), Value.bool (CI.isI (lkC (L.take i) x.nm))]), .bool (fB (L.take i) x.nm)]) ∧ Below W1.heap.size W1 w' ∧ Below W.heap.size W w' from fun W hb => (rlookup_any (some ⟨g, o, none⟩) i c (L.take i) x.nm W (by rw [List.length_take, HN.out]; omega) (by omega) ((((HL.out.up HB.out).up hb)).take i)).mono fun e w' h => ⟨h.1, below_on hb h.2, h.2⟩)
  rw [h2] at HK
  have hic : i ≤ c := by omega
  obtain ⟨y, hy⟩ : ∃ y, lkC (L.take i) x.nm = y := ⟨_, rfl⟩
  rw [hy] at HK
  clear hy h2
  go_region_with (go_at_call 21; (with_reducible refine (HK.out _ (by first | exact (Below.refl W1.heap.size W1).drew | exact below_al (Below.refl W1.heap.size W1).drew _ | exact (below_al (Below.refl W1.heap.size W1) _).drew)).mono ?_); rintro e w1 ⟨rfl, hb2, hb1⟩; obtain ⟨hc1, hf1⟩ := bcell hb1; have hz1 := hb1.size; (try simp only [World.size_alloc] at hz1); (try have hza : W1.heap.size < w1.heap.size := by omega); have HBN := Lib.hid hb2; have hbx1 := (hb2.block w.heap.size hlw).trans HBX.out; obtain ⟨⟨a0, a1, a2, a3⟩, _⟩ := four_cells hbx1; have hl1 := lt_heap hbx1; clear hb1 hb2 hbx1)
  all_goals
    go_wp2_with (first | (go_at_call 91; (with_reducible refine (above_any _ n c L x _ HN.out (by omega) (HL1.out.up (by repeat (first | with_reducible exact HBN.out | with_reducible refine below_al ?_ _ | with_reducible refine below_st ?_ (by first | exact Nat.le_refl _ | omega | (simp; omega)) _))) (HOK1.out.up (by repeat (first | with_reducible exact HBN.out | with_reducible refine below_al ?_ _ | with_reducible refine below_st ?_ (by first | exact Nat.le_refl _ | omega | (simp; omega)) _)))).mono ?_); rintro e w2 ⟨rfl, hb3⟩; have HB2 := Lib.hid (below_on (w := W1) (by repeat (first | with_reducible exact HBN.out | with_reducible refine below_al ?_ _ | with_reducible refine below_st ?_ (by first | exact Nat.le_refl _ | omega | (simp; omega)) _)) hb3); obtain ⟨p0, p1, p2, p3⟩ := box_at HB2.out hlw HXX.out; clear hb3) | (go_at_call 92; (with_reducible refine (ifaces_any _ n c L x _ HN.out (by omega) (HL1.out.up HB2.out) (HOK1.out.up HB2.out)).mono ?_); rintro e w3 ⟨rfl, hb4⟩; have HB3 := Lib.hid (below_on HB2.out hb4); clear hb4))
    go_ret
    exact ⟨rfl, below_on HB.out HB3.out⟩
set_option maxRecDepth 100000 in
set_option maxHeartbeats 4000000 in
theorem rce_et (A : Option Addr) (n c : Nat) (L : List CI) (i : Nat) (w : World) (hn : L.length = n) (hs : Mid L) (h : CIs w w.heap.size A L) (hcap : n ≤ c) (hcm : c ≤ 9223372036854775807) (hi : i < n) (x : CI) (hx : L[i]? = some x) (h1 : clsB x.nm = true) (h2 : fB (L.take i) x.nm = false) (h3 : abB L x = true) (h4 : x.fs.all (ifOk L) = true) (h5 : fI L x.nm = i) (h6 : rcB L i i = true) :
    Calls Tryd.prog 57 #[.slice A n c, .int .i64 i] w fun e w' => e = .returned (.int .i64 31) ∧ Below w.heap.size w w' := by
  have HL := Lib.hid h
  have HN := Lib.hid hn
  have HS := Lib.hid hs
  have hn60 : n ≤ 60 := by rw [← hn]; exact hs.1
  have hiL : i < L.length := by rw [hn]; exact hi
  have hxe : L[i] = x := by rw [List.getElem?_eq_getElem hiL] at hx; exact Option.some.inj hx
  obtain ⟨g, o, rfl, hg, hok, c0, c1, c2, c3⟩ := h.at hiL
  rw [hxe] at hok c0 c1 c2 c3
  have HX := Lib.hid hx
  have HOK := Lib.hid hok
  have hz0 := hok.1
  clear hxe hx h hn hs hok
  go_enter Tryd.func57, Tryd.ntmps57
  go_upto_region 2 with fail
  have hbx := World.alloc_heap_new w (.cells #[.string x.nm, .string x.su, .slice x.iA x.n x.c, .bool x.isI] 30)
  have hB := below_al (Below.refl w.heap.size w) (.cells #[.string x.nm, .string x.su, .slice x.iA x.n x.c, .bool x.isI] 30)
  generalize w.alloc (.cells #[.string x.nm, .string x.su, .slice x.iA x.n x.c, .bool x.isI] 30) = W1 at hbx hB ⊢
  have hlw := lt_heap hbx
  obtain ⟨⟨x0, x1, x2, x3⟩, _⟩ := four_cells hbx
  have HB := Lib.hid hB
  have HBX := Lib.hid hbx
  have HL1 := Lib.hid (HL.out.up HB.out)
  have HOK1 := Lib.hid (HOK.out.up HB.out)
  have HXX := Lib.hid (And.intro x0 (And.intro x1 (And.intro x2 x3)))
  clear c0 c1 c2 c3 hbx hB
  go_upto_region 4 with (go_at_call 90; (with_reducible refine (rcls_any _ hz0 _).mono ?_); rintro e w1 ⟨rfl, rfl⟩)
  have HK := Lib.hid (show ∀ (W : World) (hb : Below W1.heap.size W1 W), Calls Tryd.prog 21 #[.slice (some ⟨g, o, none⟩) i c, .string x.nm] W fun e w' => e = .returned (.tuple #[(Value.agg #[Value.string (CI.nm (lkC (L.take i) x.nm)), Value.string (CI.su (lkC (L.take i) x.nm)), Value.slice (CI.iA (lkC (L.take i) x.nm)) (CI.n (lkC (L.take i) x.nm)) (CI.c (lkC (L.take i) x.nm)), Value.bool (CI.isI (lkC (L.take i) x.nm))]), .bool (fB (L.take i) x.nm)]) ∧ Below W1.heap.size W1 w' ∧ Below W.heap.size W w' from fun W hb => (rlookup_any (some ⟨g, o, none⟩) i c (L.take i) x.nm W (by rw [List.length_take, HN.out]; omega) (by omega) ((((HL.out.up HB.out).up hb)).take i)).mono fun e w' h => ⟨h.1, below_on hb h.2, h.2⟩)
  rw [h2] at HK
  have hic : i ≤ c := by omega
  obtain ⟨y, hy⟩ : ∃ y, lkC (L.take i) x.nm = y := ⟨_, rfl⟩
  rw [hy] at HK
  clear hy h2
  go_region_with (go_at_call 21; (with_reducible refine (HK.out _ (by first | exact (Below.refl W1.heap.size W1).drew | exact below_al (Below.refl W1.heap.size W1).drew _ | exact (below_al (Below.refl W1.heap.size W1) _).drew)).mono ?_); rintro e w1 ⟨rfl, hb2, hb1⟩; obtain ⟨hc1, hf1⟩ := bcell hb1; have hz1 := hb1.size; (try simp only [World.size_alloc] at hz1); (try have hza : W1.heap.size < w1.heap.size := by omega); have HBN := Lib.hid hb2; have hbx1 := (hb2.block w.heap.size hlw).trans HBX.out; obtain ⟨⟨a0, a1, a2, a3⟩, _⟩ := four_cells hbx1; have hl1 := lt_heap hbx1; clear hb1 hb2 hbx1)
  all_goals
    go_upto_region 11 with (first | (go_at_call 91; (with_reducible refine (above_any _ n c L x _ HN.out (by omega) (HL1.out.up (by repeat (first | with_reducible exact HBN.out | with_reducible refine below_al ?_ _ | with_reducible refine below_st ?_ (by first | exact Nat.le_refl _ | omega | (simp; omega)) _))) (HOK1.out.up (by repeat (first | with_reducible exact HBN.out | with_reducible refine below_al ?_ _ | with_reducible refine below_st ?_ (by first | exact Nat.le_refl _ | omega | (simp; omega)) _)))).mono ?_); rintro e w2 ⟨rfl, hb3⟩; have HB2 := Lib.hid (below_on (w := W1) (by repeat (first | with_reducible exact HBN.out | with_reducible refine below_al ?_ _ | with_reducible refine below_st ?_ (by first | exact Nat.le_refl _ | omega | (simp; omega)) _)) hb3); obtain ⟨p0, p1, p2, p3⟩ := box_at HB2.out hlw HXX.out; clear hb3) | (go_at_call 92; (with_reducible refine (ifaces_any _ n c L x _ HN.out (by omega) (HL1.out.up HB2.out) (HOK1.out.up HB2.out)).mono ?_); rintro e w3 ⟨rfl, hb4⟩; have HB3 := Lib.hid (below_on HB2.out hb4); obtain ⟨q0, q1, q2, q3⟩ := box_at HB3.out hlw HXX.out; clear hb4))
    go_region_with (first | (go_at_call 60; (with_reducible refine (reach_any (some ⟨g, o, none⟩) n c L x.nm _ HN.out HS.out (HL1.out.up (by first | exact HB3.out | exact HB3.out.drew))).mono ?_); rintro e w4 ⟨v, R, rfl, hown, hmem, _, hlen, hb5⟩; obtain ⟨A4, c4, rfl, _, _⟩ := own_shape hown; have HO4 := Lib.hid (SRow.of_own hown).1; have HB4 := Lib.hid (below_on (show Below W1.heap.size W1 _ from (by first | exact HB3.out | exact HB3.out.drew)) hb5); have HH := Lib.hid (has_rc HX.out h5 hmem); obtain ⟨r0, r1, r2, r3⟩ := box_at HB4.out hlw HXX.out; clear hown hmem hb5) | (go_at_call 59; (with_reducible refine (has_any A4 R.length c4 R x.nm _ rfl (by omega) HO4.out).mono ?_); rintro e w5 ⟨rfl, hb6⟩; have HB5 := Lib.hid (below_on HB4.out hb6); rw [HH.out, h6]; clear hb6))
    all_goals (go_wp2; go_ret; exact ⟨rfl, below_on HB.out HB5.out⟩)
set_option maxRecDepth 100000 in
set_option maxHeartbeats 4000000 in
theorem rce_ef (A : Option Addr) (n c : Nat) (L : List CI) (i : Nat) (w : World) (hn : L.length = n) (hs : Mid L) (h : CIs w w.heap.size A L) (hcap : n ≤ c) (hcm : c ≤ 9223372036854775807) (hi : i < n) (x : CI) (hx : L[i]? = some x) (h1 : clsB x.nm = true) (h2 : fB (L.take i) x.nm = false) (h3 : abB L x = true) (h4 : x.fs.all (ifOk L) = true) (h5 : fI L x.nm = i) (h6 : rcB L i i = false) :
    Calls Tryd.prog 57 #[.slice A n c, .int .i64 i] w fun e w' => e = .returned (.int .i64 0) ∧ Below w.heap.size w w' := by
  have HL := Lib.hid h
  have HN := Lib.hid hn
  have HS := Lib.hid hs
  have hn60 : n ≤ 60 := by rw [← hn]; exact hs.1
  have hiL : i < L.length := by rw [hn]; exact hi
  have hxe : L[i] = x := by rw [List.getElem?_eq_getElem hiL] at hx; exact Option.some.inj hx
  obtain ⟨g, o, rfl, hg, hok, c0, c1, c2, c3⟩ := h.at hiL
  rw [hxe] at hok c0 c1 c2 c3
  have HX := Lib.hid hx
  have HOK := Lib.hid hok
  have hz0 := hok.1
  clear hxe hx h hn hs hok
  go_enter Tryd.func57, Tryd.ntmps57
  go_upto_region 2 with fail
  have hbx := World.alloc_heap_new w (.cells #[.string x.nm, .string x.su, .slice x.iA x.n x.c, .bool x.isI] 30)
  have hB := below_al (Below.refl w.heap.size w) (.cells #[.string x.nm, .string x.su, .slice x.iA x.n x.c, .bool x.isI] 30)
  generalize w.alloc (.cells #[.string x.nm, .string x.su, .slice x.iA x.n x.c, .bool x.isI] 30) = W1 at hbx hB ⊢
  have hlw := lt_heap hbx
  obtain ⟨⟨x0, x1, x2, x3⟩, _⟩ := four_cells hbx
  have HB := Lib.hid hB
  have HBX := Lib.hid hbx
  have HL1 := Lib.hid (HL.out.up HB.out)
  have HOK1 := Lib.hid (HOK.out.up HB.out)
  have HXX := Lib.hid (And.intro x0 (And.intro x1 (And.intro x2 x3)))
  clear c0 c1 c2 c3 hbx hB
  go_upto_region 4 with (go_at_call 90; (with_reducible refine (rcls_any _ hz0 _).mono ?_); rintro e w1 ⟨rfl, rfl⟩)
  have HK := Lib.hid (show ∀ (W : World) (hb : Below W1.heap.size W1 W), Calls Tryd.prog 21 #[.slice (some ⟨g, o, none⟩) i c, .string x.nm] W fun e w' => e = .returned (.tuple #[(Value.agg #[Value.string (CI.nm (lkC (L.take i) x.nm)), Value.string (CI.su (lkC (L.take i) x.nm)), Value.slice (CI.iA (lkC (L.take i) x.nm)) (CI.n (lkC (L.take i) x.nm)) (CI.c (lkC (L.take i) x.nm)), Value.bool (CI.isI (lkC (L.take i) x.nm))]), .bool (fB (L.take i) x.nm)]) ∧ Below W1.heap.size W1 w' ∧ Below W.heap.size W w' from fun W hb => (rlookup_any (some ⟨g, o, none⟩) i c (L.take i) x.nm W (by rw [List.length_take, HN.out]; omega) (by omega) ((((HL.out.up HB.out).up hb)).take i)).mono fun e w' h => ⟨h.1, below_on hb h.2, h.2⟩)
  rw [h2] at HK
  have hic : i ≤ c := by omega
  obtain ⟨y, hy⟩ : ∃ y, lkC (L.take i) x.nm = y := ⟨_, rfl⟩
  rw [hy] at HK
  clear hy h2
  go_region_with (go_at_call 21; (with_reducible refine (HK.out _ (by first | exact (Below.refl W1.heap.size W1).drew | exact below_al (Below.refl W1.heap.size W1).drew _ | exact (below_al (Below.refl W1.heap.size W1) _).drew)).mono ?_); rintro e w1 ⟨rfl, hb2, hb1⟩; obtain ⟨hc1, hf1⟩ := bcell hb1; have hz1 := hb1.size; (try simp only [World.size_alloc] at hz1); (try have hza : W1.heap.size < w1.heap.size := by omega); have HBN := Lib.hid hb2; have hbx1 := (hb2.block w.heap.size hlw).trans HBX.out; obtain ⟨⟨a0, a1, a2, a3⟩, _⟩ := four_cells hbx1; have hl1 := lt_heap hbx1; clear hb1 hb2 hbx1)
  all_goals
    go_upto_region 11 with (first | (go_at_call 91; (with_reducible refine (above_any _ n c L x _ HN.out (by omega) (HL1.out.up (by repeat (first | with_reducible exact HBN.out | with_reducible refine below_al ?_ _ | with_reducible refine below_st ?_ (by first | exact Nat.le_refl _ | omega | (simp; omega)) _))) (HOK1.out.up (by repeat (first | with_reducible exact HBN.out | with_reducible refine below_al ?_ _ | with_reducible refine below_st ?_ (by first | exact Nat.le_refl _ | omega | (simp; omega)) _)))).mono ?_); rintro e w2 ⟨rfl, hb3⟩; have HB2 := Lib.hid (below_on (w := W1) (by repeat (first | with_reducible exact HBN.out | with_reducible refine below_al ?_ _ | with_reducible refine below_st ?_ (by first | exact Nat.le_refl _ | omega | (simp; omega)) _)) hb3); obtain ⟨p0, p1, p2, p3⟩ := box_at HB2.out hlw HXX.out; clear hb3) | (go_at_call 92; (with_reducible refine (ifaces_any _ n c L x _ HN.out (by omega) (HL1.out.up HB2.out) (HOK1.out.up HB2.out)).mono ?_); rintro e w3 ⟨rfl, hb4⟩; have HB3 := Lib.hid (below_on HB2.out hb4); obtain ⟨q0, q1, q2, q3⟩ := box_at HB3.out hlw HXX.out; clear hb4))
    go_region_with (first | (go_at_call 60; (with_reducible refine (reach_any (some ⟨g, o, none⟩) n c L x.nm _ HN.out HS.out (HL1.out.up (by first | exact HB3.out | exact HB3.out.drew))).mono ?_); rintro e w4 ⟨v, R, rfl, hown, hmem, _, hlen, hb5⟩; obtain ⟨A4, c4, rfl, _, _⟩ := own_shape hown; have HO4 := Lib.hid (SRow.of_own hown).1; have HB4 := Lib.hid (below_on (show Below W1.heap.size W1 _ from (by first | exact HB3.out | exact HB3.out.drew)) hb5); have HH := Lib.hid (has_rc HX.out h5 hmem); obtain ⟨r0, r1, r2, r3⟩ := box_at HB4.out hlw HXX.out; clear hown hmem hb5) | (go_at_call 59; (with_reducible refine (has_any A4 R.length c4 R x.nm _ rfl (by omega) HO4.out).mono ?_); rintro e w5 ⟨rfl, hb6⟩; have HB5 := Lib.hid (below_on HB4.out hb6); rw [HH.out, h6]; clear hb6))
    all_goals (go_wp2; go_ret; exact ⟨rfl, below_on HB.out HB5.out⟩)
end Go.Proofs.YthifmcnemeiphaaDoor
