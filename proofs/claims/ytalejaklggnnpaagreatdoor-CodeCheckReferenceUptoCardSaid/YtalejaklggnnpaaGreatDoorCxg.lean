import Derived.Test.YtalejaklggnnpaaGreatDoorCxf
import Derived.Test.YtalejaklggnnpaaGreatDoorCk
/- Layer 9, the reference: places, row. (gen/cxg.py) -/
namespace Go.Proofs.YtalejaklggnnpaaGreatDoor.I
open Go.ChangeShapes Go.WideShapes Go.ChangeAt Go.RowKit Go.PlainAid
set_option linter.unusedSimpArgs false
set_option linter.unusedVariables false
set_option maxRecDepth 100000 in
set_option maxHeartbeats 8000000 in
theorem r9places_any {A A2 : Option Addr} {n cap m c2 : Nat} {L : List Cn} {P : List VT} (c : Cd) (w : World) (hS : Fits L) (hn : L.length = n) (hN : n ≤ 100000) (hp : Pool w w.heap.size A L) (hok : c.c9 w) (hv : VS w w.heap.size A2 P) (hm : P.length = m) (hM : m ≤ 9223372036854775807) :
  Calls Tryz.prog 127 #[.slice A n cap, (Value.agg #[Value.int IntKind.i64 (Cd.st c), Value.int IntKind.i64 (Cd.lo c), Value.slice (Cd.iA c) (Cd.n c) (Cd.ic c), Value.slice (Cd.hA c) (Cd.hn c) (Cd.hc c), Value.slice (Cd.mA c) (Cd.mn c) (Cd.mc c), Value.slice (Cd.lA c) (Cd.ln c) (Cd.lc c)]), .slice A2 m c2] w fun e w' => e = .returned (.bool (!P.any (nvB L c))) ∧ Below w.heap.size w w' := by
 have hB : Below w.heap.size w w := Below.refl _ _
 have K := Lib.hid (fun (v : VT) (W : World) (hW : Below w.heap.size w W) => r9known_any (cap := cap) c v W hS hn hN (hp.up hW) (hok.up hW))
 have HV := Lib.hid hv
 have HN := Lib.hid hm
 obtain ⟨r, hr⟩ : ∃ r, P.any (nvB L c) = r := ⟨_, rfl⟩
 have HR := Lib.hid hr
 rw [hr]
 clear hS hn hN hp hok hv hm hr
 go_enter Tryz.func127, Tryz.ntmps127
 go_upto_region 1 with fail
 have R := World.alloc_heap_new w (.cells #[.int .i64 c.st, .int .i64 c.lo, .slice c.iA c.n c.ic, .slice c.hA c.hn c.hc, .slice c.mA c.mn c.mc, .slice c.lA c.ln c.lc] 28)
 replace hB := below_al hB (.cells #[.int .i64 c.st, .int .i64 c.lo, .slice c.iA c.n c.ic, .slice c.hA c.hn c.hc, .slice c.mA c.mn c.mc, .slice c.lA c.ln c.lc] 28)
 generalize w.alloc (.cells #[.int .i64 c.st, .int .i64 c.lo, .slice c.iA c.n c.ic, .slice c.hA c.hn c.hc, .slice c.mA c.mn c.mc, .slice c.lA c.ln c.lc] 28) = W1 at R hB ⊢
 obtain ⟨r0, r1, r2, r3, r4, r5⟩ := six_cells R
 have y1 := lt_heap R
 replace R := Lib.hid R
 have HV1 := Lib.hid (HV.out.up hB)
 have HB := Lib.hid hB
 clear r0 r1 r2 r3 r4 r5 hB HV
 go_wp2
 go_loopw [7] (fun z wr => ∃ k : Nat, k ≤ m ∧ z = .int .i64 k ∧ (P.take k).any (nvB L c) = false ∧ Below W1.heap.size W1 wr) (fun z _ => m - (intOf z).toNat)
 case atStart => exact ⟨0, Nat.zero_le _, rfl, rfl, Below.refl _ _⟩
 case round =>
  obtain ⟨k, hk, rfl, hall, hb⟩ := hrel
  have HALL := Lib.hid hall
  have HBR := Lib.hid (below_on HB.out hb)
  have HBW := Lib.hid hb
  have RBr := Lib.hid ((hb.block _ y1).trans R.out)
  have HVr := Lib.hid (HV1.out.up hb)
  clear hall hb
  obtain ⟨r0, r1, r2, r3, r4, r5⟩ := six_cells RBr.out
  have yr := lt_heap RBr.out
  by_cases hlt : k < m
  ·
   obtain ⟨v, hi⟩ := get_someF (l := P) (k := k) (by rw [HN.out]; exact hlt)
   obtain ⟨g, o, rfl, hg, a0, a1, a2, a3, a4, a5⟩ := HVr.out.six hi
   have HAT := Lib.hid (any_take (p := nvB L c) hi)
   have HOF := Lib.hid (any_of (p := nvB L c) hi)
   have hk0 : (0 : Int) ≤ (k : Int) := by omega
   have hk1 : (k : Int) < (m : Int) := by omega
   clear hi
   have hnv : nvB L c v = !vvT L c v := rfl
   cases hc : vvT L c v with
   | false =>
    have HC := Lib.hid hc
    rw [hc] at hnv
    have HC2 := Lib.hid (show r = true by rw [← HR.out]; exact HOF.out hnv)
    clear hc hnv
    go_upto_region 4 with fail
    go_region_held3 (fun w' => w'.cell? ⟨w.heap.size, 0, none⟩ = some (.int .i64 c.st) ∧ w'.cell? ⟨w.heap.size, 1, none⟩ = some (.int .i64 c.lo) ∧ w'.cell? ⟨w.heap.size, 2, none⟩ = some (.slice c.iA c.n c.ic) ∧ w'.cell? ⟨w.heap.size, 3, none⟩ = some (.slice c.hA c.hn c.hc) ∧ w'.cell? ⟨w.heap.size, 4, none⟩ = some (.slice c.mA c.mn c.mc) ∧ w'.cell? ⟨w.heap.size, 5, none⟩ = some (.slice c.lA c.ln c.lc) ∧ w'.cell? ⟨g, o + k * 6, none⟩ = some (.int .i64 v.k) ∧ w'.cell? ⟨g, o + k * 6 + 1, none⟩ = some (.int .i64 v.n) ∧ w'.cell? ⟨g, o + k * 6 + 2, none⟩ = some (.int .i64 v.d) ∧ w'.cell? ⟨g, o + k * 6 + 3, none⟩ = some (.int .u8 v.b) ∧ w'.cell? ⟨g, o + k * 6 + 4, none⟩ = some (.string v.s) ∧ w'.cell? ⟨g, o + k * 6 + 5, none⟩ = some (.int .i64 v.p) ∧ w.heap.size < w'.heap.size ∧ g < w'.heap.size ∧ Below wr.heap.size wr w') (((try go_split_ands); (repeat' apply And.intro) <;> (first | assumption | exact (Below.refl _ _).drew | (first | exact below_on (w := wr) (by assumption) hq | exact Below.drew (by assumption) | assumption) | exact (Below.cell hq (by first | omega | (simp; omega))).trans (by assumption) | (have := hq.size; omega) | (simp; omega) | go_keep)))
     ((go_at_call 163; (with_reducible refine (K.out v _ (below_on HBR.out (by first | assumption | (go_split_ands; assumption)))).mono ?_); rintro e w2 ⟨rfl, hq⟩; rw [HC.out]))
    go_split_ands
    have hend : Below wr.heap.size wr w2 := by assumption
    go_wp2
    go_ret
    exact ⟨by rw [HC2.out]; rfl, below_on HBR.out hend⟩
   | true =>
    have HC := Lib.hid hc
    rw [hc] at hnv
    have HC2 := Lib.hid hnv
    clear hc hnv
    go_upto_region 4 with fail
    go_region_held3 (fun w' => w'.cell? ⟨w.heap.size, 0, none⟩ = some (.int .i64 c.st) ∧ w'.cell? ⟨w.heap.size, 1, none⟩ = some (.int .i64 c.lo) ∧ w'.cell? ⟨w.heap.size, 2, none⟩ = some (.slice c.iA c.n c.ic) ∧ w'.cell? ⟨w.heap.size, 3, none⟩ = some (.slice c.hA c.hn c.hc) ∧ w'.cell? ⟨w.heap.size, 4, none⟩ = some (.slice c.mA c.mn c.mc) ∧ w'.cell? ⟨w.heap.size, 5, none⟩ = some (.slice c.lA c.ln c.lc) ∧ w'.cell? ⟨g, o + k * 6, none⟩ = some (.int .i64 v.k) ∧ w'.cell? ⟨g, o + k * 6 + 1, none⟩ = some (.int .i64 v.n) ∧ w'.cell? ⟨g, o + k * 6 + 2, none⟩ = some (.int .i64 v.d) ∧ w'.cell? ⟨g, o + k * 6 + 3, none⟩ = some (.int .u8 v.b) ∧ w'.cell? ⟨g, o + k * 6 + 4, none⟩ = some (.string v.s) ∧ w'.cell? ⟨g, o + k * 6 + 5, none⟩ = some (.int .i64 v.p) ∧ w.heap.size < w'.heap.size ∧ g < w'.heap.size ∧ Below wr.heap.size wr w') (((try go_split_ands); (repeat' apply And.intro) <;> (first | assumption | exact (Below.refl _ _).drew | (first | exact below_on (w := wr) (by assumption) hq | exact Below.drew (by assumption) | assumption) | exact (Below.cell hq (by first | omega | (simp; omega))).trans (by assumption) | (have := hq.size; omega) | (simp; omega) | go_keep)))
     ((go_at_call 163; (with_reducible refine (K.out v _ (below_on HBR.out (by first | assumption | (go_split_ands; assumption)))).mono ?_); rintro e w2 ⟨rfl, hq⟩; rw [HC.out]))
    go_split_ands
    have hend : Below wr.heap.size wr w2 := by assumption
    go_wp2
    exact ⟨⟨k + 1, hlt, by go_num, by rw [HAT.out, HALL.out, HC2.out]; rfl, below_on HBW.out hend⟩, by simp [intOf]; omega⟩
  ·
   obtain rfl : m = k := by omega
   go_wp2
   go_ret
   exact ⟨by have h9 := HALL.out; rw [List.take_of_length_le (by rw [HN.out]; exact Nat.le_refl _)] at h9; rw [← HR.out, h9]; rfl, HBR.out⟩
theorem hl_c {L : List Cn} {c : Cd} {h : Hd} (hv : Valid L) (e : ¬ (h.f < 0 ∨ h.t ≤ h.f ∨ (c.n : Int) < h.t ∨ exB c.n h.g = false ∨ ¬ h.s.toList = [])) (e1 : ¬ h.k = 0) : hlB L c h = clR L h.k := by unfold hlB; rw [if_neg e, if_neg e1, cl_val hv]
set_option maxRecDepth 100000 in
set_option maxHeartbeats 8000000 in
theorem r9row_any {A : Option Addr} {n cap : Nat} {L : List Cn} (c : Cd) (h : Hd) (w : World) (hV : Valid L) (hS : Fits L) (hn : L.length = n) (hN : n ≤ 100000) (hp : Pool w w.heap.size A L) :
  Calls Tryz.prog 74 #[.slice A n cap, .int .i64 (c.n : Int), .agg #[.int .i64 h.f, .int .i64 h.t, .int .i64 h.g, .int .i64 h.k, .string h.s]] w fun e w' => e = .returned (.bool (hlB L c h)) ∧ Below w.heap.size w w' := by
 have HP := Lib.hid hp
 have HN := Lib.hid hn
 have HVV := Lib.hid hV
 have HSS := Lib.hid hS
 clear hp hn hV hS
 obtain ⟨r, hr⟩ : ∃ r, hlB L c h = r := ⟨_, rfl⟩
 have HR := Lib.hid hr
 rw [hr]
 clear hr
 have hex2 : exB c.n h.g = decide (0 ≤ h.g ∧ h.g < (c.n : Int)) := rfl
 obtain ⟨N, hN9⟩ : ∃ N : Int, (c.n : Int) = N := ⟨_, rfl⟩
 have HNN := Lib.hid hN9
 rw [hN9] at hex2 ⊢
 clear hN9
 go_enter Tryz.func74, Tryz.ntmps74
 go_upto_region 1 with fail
 have hX := World.alloc_heap_new w (.cells #[.int .i64 h.f, .int .i64 h.t, .int .i64 h.g, .int .i64 h.k, .string h.s] 58)
 have hb0 := below_al (Below.refl _ w) (.cells #[.int .i64 h.f, .int .i64 h.t, .int .i64 h.g, .int .i64 h.k, .string h.s] 58)
 generalize w.alloc (.cells #[.int .i64 h.f, .int .i64 h.t, .int .i64 h.g, .int .i64 h.k, .string h.s] 58) = W at hX hb0 ⊢
 have XB := Lib.hid hX
 have HP1 := Lib.hid (HP.out.up hb0)
 have HB := Lib.hid hb0
 clear hX hb0
 obtain ⟨b0, b1, b2, b3, b4, _⟩ := five_cells XB.out
 have yb := lt_heap XB.out
 by_cases h1 : h.f < 0
 ·
  have H := Lib.hid (hl_1 (L := L) (c := c) (Or.inl h1))
  clear hex2
  go_wp2
  go_ret
  exact ⟨by rw [← HR.out, H.out]; rfl, HB.out⟩
 ·
  by_cases h2 : h.t ≤ h.f
  ·
   have H := Lib.hid (hl_1 (L := L) (c := c) (Or.inr (Or.inl h2)))
   clear hex2
   go_wp2
   go_ret
   exact ⟨by rw [← HR.out, H.out]; rfl, HB.out⟩
  ·
   by_cases h3 : N < h.t
   ·
    have H := Lib.hid (hl_1 (L := L) (c := c) (Or.inr (Or.inr (Or.inl (by rw [HNN.out]; exact h3)))))
    clear hex2
    go_wp2
    go_ret
    exact ⟨by rw [← HR.out, H.out]; rfl, HB.out⟩
   ·
    by_cases h4 : h.g < 0
    ·
     have H := Lib.hid (hl_1 (L := L) (c := c) (Or.inr (Or.inr (Or.inr (Or.inl (by rw [hex2]; exact decide_eq_false (by omega)))))))
     clear hex2
     go_wp2
     go_ret
     exact ⟨by rw [← HR.out, H.out]; rfl, HB.out⟩
    ·
     by_cases h5 : N ≤ h.g
     ·
      have H := Lib.hid (hl_1 (L := L) (c := c) (Or.inr (Or.inr (Or.inr (Or.inl (by rw [hex2]; exact decide_eq_false (by omega)))))))
      clear hex2
      go_wp2
      go_ret
      exact ⟨by rw [← HR.out, H.out]; rfl, HB.out⟩
     ·
      have HEX := Lib.hid (show exB c.n h.g = true by rw [hex2]; exact decide_eq_true (by omega))
      clear hex2
      by_cases h6 : h.s.toList = []
      ·
       have HNO := Lib.hid (show ¬ (h.f < 0 ∨ h.t ≤ h.f ∨ (c.n : Int) < h.t ∨ exB c.n h.g = false ∨ ¬ h.s.toList = []) by rw [HEX.out, HNN.out]; rintro (e | e | e | e | e); exact h1 e; exact h2 e; exact h3 e; cases e; exact e h6)
       by_cases h7 : h.k = 0
       ·
        have H := Lib.hid (hl_2 (L := L) HNO.out h7)
        rw [h7] at b3
        clear h7
        go_wp2
        go_ret
        exact ⟨by rw [← HR.out, H.out]; rfl, HB.out⟩
       ·
        have H := Lib.hid (hl_c HVV.out HNO.out h7)
        have e7 : (h.k == 0) = false := by simpa using h7
        obtain ⟨cb, hcb⟩ : ∃ cb, clR L h.k = cb := ⟨_, rfl⟩
        have HCB := Lib.hid hcb
        clear hcb h7
        cases cb with
        | false =>
         go_wp2_with (go_at_call 124; refine (r9class_any h.k HSS.out _ HN.out hN HP1.out).mono ?_; rintro e w3 ⟨rfl, hb3⟩; rw [HCB.out])
         go_ret
         exact ⟨by rw [← HR.out, H.out, HCB.out]; rfl, below_on HB.out hb3⟩
        | true =>
         go_wp2_with (go_at_call 124; refine (r9class_any h.k HSS.out _ HN.out hN HP1.out).mono ?_; rintro e w3 ⟨rfl, hb3⟩; rw [HCB.out])
         go_ret
         exact ⟨by rw [← HR.out, H.out, HCB.out]; rfl, below_on HB.out hb3⟩
      ·
       have H := Lib.hid (hl_1 (L := L) (c := c) (Or.inr (Or.inr (Or.inr (Or.inr h6)))))
       have e5 : h.s.toList.isEmpty = false := by
        cases hh : h.s.toList with
        | nil => exact absurd hh h6
        | cons _ _ => rfl
       go_wp2
       go_ret
       exact ⟨by rw [← HR.out, H.out]; rfl, HB.out⟩
end Go.Proofs.YtalejaklggnnpaaGreatDoor.I
