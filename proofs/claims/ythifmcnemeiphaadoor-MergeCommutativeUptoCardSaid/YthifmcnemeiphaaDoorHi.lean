/- Layer 16: checkEntry of the package (written by gen/hi.py). -/
import Derived.Test.YthifmcnemeiphaaDoorHh
import Derived.Test.YthifmcnemeiphaaDoorNameCls
namespace Go.Proofs.YthifmcnemeiphaaDoor
open Go.ChangeShapes Go.WideShapes Go.ChangeAt Go.RowKit Go.PlainAid Go.Maps
set_option linter.unusedSimpArgs false
set_option linter.unusedVariables false

/-- what checkEntry says of entry i, which is x -/
noncomputable def ceV (L : List CI) (i : Nat) (x : CI) : Int :=
  if clsB x.nm = false then 12 else if fI L x.nm ≠ i then 6
  else if x.su.toList.isEmpty ≠ (x.nm.toList == rootL) ∨ (x.isI = true ∧ (x.su.toList == rootL) = false) then 33
  else if x.su.toList.isEmpty = false ∧ (fB L x.su = false ∨ (lkC L x.su).isI = true) then 33
  else if x.fs.all (ifOk L) = false then 37 else if rcB L i i = true then 31 else 0
theorem lk_cell {A : Option Addr} {g o : Nat} {L : List CI} {w : World} {s : ByteArray} (hA : A = some ⟨g, o, none⟩) (h : CIs w w.heap.size A L) (hf : fB L s = true) : w.cell? ⟨g, o + fI L s * 4 + 3, none⟩ = some (.bool (lkC L s).isI) ∧ fI L s < L.length := by
  obtain ⟨e, hl⟩ := fI_of hf
  obtain ⟨g', o', hA', hg, _, _, _, _, c3⟩ := h.at hl
  rw [hA] at hA'
  obtain ⟨rfl, rfl⟩ : g = g' ∧ o = o' := by injection hA' with hA'; injection hA' with h1 h2; exact ⟨h1, h2⟩
  rw [e, lkC_yes hl]
  exact ⟨c3, hl⟩
set_option maxRecDepth 100000 in
set_option maxHeartbeats 4000000 in
theorem ce_a (A : Option Addr) (n c : Nat) (L : List CI) (F : Value) (i : Nat) (w : World) (hn : L.length = n) (hc : n ≤ 1000000) (h : CIs w w.heap.size A L) (hF : Fd L F w) (hi : i < n) (x : CI) (hx : L[i]? = some x) (h1 : clsB x.nm = false) :
    Calls Tryd.prog 56 #[.slice A n c, F, .int .i64 i] w fun e w' => e = .returned (.int .i64 12) ∧ Below w.heap.size w w' := by
  have HF := Lib.hid hF
  have HL := Lib.hid h
  have HN := Lib.hid hn
  have hiL : i < L.length := by rw [hn]; exact hi
  obtain ⟨kk, bb, rfl, he, hcon⟩ := hF
  have he' : ∀ (args : Array Value) (w : World), (callFunc kk args).run Tryd.prog w = .ok (.enter kk args) w := he
  have HC := Lib.hid (show ∀ (s : ByteArray) (W : World), s.size ≤ 9223372036854775807 → Below w.heap.size w W → Calls Tryd.prog kk #[.string s, .pointer (some ⟨bb, 0, none⟩)] W fun e w' => e = .returned (.tuple #[.int .i64 (fI L s), .bool (fB L s)]) ∧ Below W.heap.size W w' from hcon)
  have hxe : L[i] = x := by rw [List.getElem?_eq_getElem hiL] at hx; exact Option.some.inj hx
  obtain ⟨g, o, rfl, hg, hok, c0, c1, c2, c3⟩ := h.at hiL
  rw [hxe] at hok c0 c1 c2 c3
  clear hxe hx
  have HOK := Lib.hid hok
  have hz0 := hok.1
  have hz1 := hok.2.1
  clear h hn he hcon hok
  go_enter Tryd.func56, Tryd.ntmps56
  go_upto_region 2 with fail
  have hbx := World.alloc_heap_new w (.cells #[.string x.nm, .string x.su, .slice x.iA x.n x.c, .bool x.isI] 30)
  have HB0 := Lib.hid (below_al (Below.refl w.heap.size w) (.cells #[.string x.nm, .string x.su, .slice x.iA x.n x.c, .bool x.isI] 30))
  replace c0 := (HB0.out.cell (p := ⟨g, _, none⟩) hg).trans c0
  replace c1 := (HB0.out.cell (p := ⟨g, _, none⟩) hg).trans c1
  replace c2 := (HB0.out.cell (p := ⟨g, _, none⟩) hg).trans c2
  replace c3 := (HB0.out.cell (p := ⟨g, _, none⟩) hg).trans c3
  try replace d3 := (HB0.out.cell (p := ⟨g, _, none⟩) hg).trans d3
  generalize w.alloc (.cells #[.string x.nm, .string x.su, .slice x.iA x.n x.c, .bool x.isI] 30) = W1 at hbx HB0 c0 c1 c2 c3  ⊢
  obtain ⟨⟨x0, x1, x2, x3⟩, _⟩ := four_cells hbx
  have hlw := lt_heap hbx
  have hlg : g < W1.heap.size := Nat.lt_trans hg hlw
  have hB : Below W1.heap.size W1 W1 := Below.refl _ _
  clear hbx hg
  go_wp2_with (first | (go_at_call 89; (with_reducible refine (cls_any _ _).mono ?_); rintro e w1 ⟨rfl, hb1⟩; replace hB := Below.trans hB (hb1.mono hB.size); obtain ⟨hc1, hf1⟩ := bcell hB; clear hb1))
  go_ret
  exact ⟨rfl, below_on HB0.out hB⟩
set_option maxRecDepth 100000 in
set_option maxHeartbeats 4000000 in
theorem ce_b (A : Option Addr) (n c : Nat) (L : List CI) (F : Value) (i : Nat) (w : World) (hn : L.length = n) (hc : n ≤ 1000000) (h : CIs w w.heap.size A L) (hF : Fd L F w) (hi : i < n) (x : CI) (hx : L[i]? = some x) (h1 : clsB x.nm = true) (h2 : fI L x.nm ≠ i) :
    Calls Tryd.prog 56 #[.slice A n c, F, .int .i64 i] w fun e w' => e = .returned (.int .i64 6) ∧ Below w.heap.size w w' := by
  have HF := Lib.hid hF
  have HL := Lib.hid h
  have HN := Lib.hid hn
  have hiL : i < L.length := by rw [hn]; exact hi
  obtain ⟨kk, bb, rfl, he, hcon⟩ := hF
  have he' : ∀ (args : Array Value) (w : World), (callFunc kk args).run Tryd.prog w = .ok (.enter kk args) w := he
  have HC := Lib.hid (show ∀ (s : ByteArray) (W : World), s.size ≤ 9223372036854775807 → Below w.heap.size w W → Calls Tryd.prog kk #[.string s, .pointer (some ⟨bb, 0, none⟩)] W fun e w' => e = .returned (.tuple #[.int .i64 (fI L s), .bool (fB L s)]) ∧ Below W.heap.size W w' from hcon)
  have hxe : L[i] = x := by rw [List.getElem?_eq_getElem hiL] at hx; exact Option.some.inj hx
  obtain ⟨g, o, rfl, hg, hok, c0, c1, c2, c3⟩ := h.at hiL
  rw [hxe] at hok c0 c1 c2 c3
  clear hxe hx
  have HOK := Lib.hid hok
  have hz0 := hok.1
  have hz1 := hok.2.1
  clear h hn he hcon hok
  have h2b : (((fI L x.nm : Nat) : Int) != (i : Int)) = true := by simp; omega
  clear h2
  go_enter Tryd.func56, Tryd.ntmps56
  go_upto_region 2 with fail
  have hbx := World.alloc_heap_new w (.cells #[.string x.nm, .string x.su, .slice x.iA x.n x.c, .bool x.isI] 30)
  have HB0 := Lib.hid (below_al (Below.refl w.heap.size w) (.cells #[.string x.nm, .string x.su, .slice x.iA x.n x.c, .bool x.isI] 30))
  replace c0 := (HB0.out.cell (p := ⟨g, _, none⟩) hg).trans c0
  replace c1 := (HB0.out.cell (p := ⟨g, _, none⟩) hg).trans c1
  replace c2 := (HB0.out.cell (p := ⟨g, _, none⟩) hg).trans c2
  replace c3 := (HB0.out.cell (p := ⟨g, _, none⟩) hg).trans c3
  try replace d3 := (HB0.out.cell (p := ⟨g, _, none⟩) hg).trans d3
  generalize w.alloc (.cells #[.string x.nm, .string x.su, .slice x.iA x.n x.c, .bool x.isI] 30) = W1 at hbx HB0 c0 c1 c2 c3  ⊢
  obtain ⟨⟨x0, x1, x2, x3⟩, _⟩ := four_cells hbx
  have hlw := lt_heap hbx
  have hlg : g < W1.heap.size := Nat.lt_trans hg hlw
  have hB : Below W1.heap.size W1 W1 := Below.refl _ _
  clear hbx hg
  go_wp2_with (first | (go_at_call 89; (with_reducible refine (cls_any _ _).mono ?_); rintro e w1 ⟨rfl, hb1⟩; replace hB := Below.trans hB (hb1.mono hB.size); obtain ⟨hc1, hf1⟩ := bcell hB; clear hb1) | (go_at_fn kk; (with_reducible refine (HC.out _ _ hz0 (below_on HB0.out hB)).mono ?_); rintro e w1 ⟨rfl, hb1⟩; replace hB := Below.trans hB (hb1.mono hB.size); obtain ⟨hc1, hf1⟩ := bcell hB; clear hb1))
  go_ret
  exact ⟨rfl, below_on HB0.out hB⟩
set_option maxRecDepth 100000 in
set_option maxHeartbeats 4000000 in
theorem ce_ct (A : Option Addr) (n c : Nat) (L : List CI) (F : Value) (i : Nat) (w : World) (hn : L.length = n) (hc : n ≤ 1000000) (h : CIs w w.heap.size A L) (hF : Fd L F w) (hi : i < n) (x : CI) (hx : L[i]? = some x) (h1 : clsB x.nm = true) (h2 : fI L x.nm = i) (h3 : x.su.toList.isEmpty = true) (h4 : (x.nm.toList == rootL) = false) :
    Calls Tryd.prog 56 #[.slice A n c, F, .int .i64 i] w fun e w' => e = .returned (.int .i64 33) ∧ Below w.heap.size w w' := by
  have HF := Lib.hid hF
  have HL := Lib.hid h
  have HN := Lib.hid hn
  have hiL : i < L.length := by rw [hn]; exact hi
  obtain ⟨kk, bb, rfl, he, hcon⟩ := hF
  have he' : ∀ (args : Array Value) (w : World), (callFunc kk args).run Tryd.prog w = .ok (.enter kk args) w := he
  have HC := Lib.hid (show ∀ (s : ByteArray) (W : World), s.size ≤ 9223372036854775807 → Below w.heap.size w W → Calls Tryd.prog kk #[.string s, .pointer (some ⟨bb, 0, none⟩)] W fun e w' => e = .returned (.tuple #[.int .i64 (fI L s), .bool (fB L s)]) ∧ Below W.heap.size W w' from hcon)
  have hxe : L[i] = x := by rw [List.getElem?_eq_getElem hiL] at hx; exact Option.some.inj hx
  obtain ⟨g, o, rfl, hg, hok, c0, c1, c2, c3⟩ := h.at hiL
  rw [hxe] at hok c0 c1 c2 c3
  clear hxe hx
  have HOK := Lib.hid hok
  have hz0 := hok.1
  have hz1 := hok.2.1
  clear h hn he hcon hok
  have HCN := Lib.hid (fun (W : World) (hb : Below w.heap.size w W) => by have q := HC.out x.nm W hz0 hb; rw [h2] at q; exact q)
  clear h2
  go_enter Tryd.func56, Tryd.ntmps56
  go_upto_region 2 with fail
  have hbx := World.alloc_heap_new w (.cells #[.string x.nm, .string x.su, .slice x.iA x.n x.c, .bool x.isI] 30)
  have HB0 := Lib.hid (below_al (Below.refl w.heap.size w) (.cells #[.string x.nm, .string x.su, .slice x.iA x.n x.c, .bool x.isI] 30))
  replace c0 := (HB0.out.cell (p := ⟨g, _, none⟩) hg).trans c0
  replace c1 := (HB0.out.cell (p := ⟨g, _, none⟩) hg).trans c1
  replace c2 := (HB0.out.cell (p := ⟨g, _, none⟩) hg).trans c2
  replace c3 := (HB0.out.cell (p := ⟨g, _, none⟩) hg).trans c3
  try replace d3 := (HB0.out.cell (p := ⟨g, _, none⟩) hg).trans d3
  generalize w.alloc (.cells #[.string x.nm, .string x.su, .slice x.iA x.n x.c, .bool x.isI] 30) = W1 at hbx HB0 c0 c1 c2 c3  ⊢
  obtain ⟨⟨x0, x1, x2, x3⟩, _⟩ := four_cells hbx
  have hlw := lt_heap hbx
  have hlg : g < W1.heap.size := Nat.lt_trans hg hlw
  have hB : Below W1.heap.size W1 W1 := Below.refl _ _
  clear hbx hg
  go_wp2_with (first | (go_at_call 89; (with_reducible refine (cls_any _ _).mono ?_); rintro e w1 ⟨rfl, hb1⟩; replace hB := Below.trans hB (hb1.mono hB.size); obtain ⟨hc1, hf1⟩ := bcell hB; clear hb1) | (go_at_fn kk; (with_reducible refine (HCN.out _ (below_on HB0.out hB)).mono ?_); rintro e w1 ⟨rfl, hb1⟩; replace hB := Below.trans hB (hb1.mono hB.size); obtain ⟨hc1, hf1⟩ := bcell hB; clear hb1))
  go_ret
  exact ⟨rfl, below_on HB0.out hB⟩
set_option maxRecDepth 100000 in
set_option maxHeartbeats 4000000 in
theorem ce_cf (A : Option Addr) (n c : Nat) (L : List CI) (F : Value) (i : Nat) (w : World) (hn : L.length = n) (hc : n ≤ 1000000) (h : CIs w w.heap.size A L) (hF : Fd L F w) (hi : i < n) (x : CI) (hx : L[i]? = some x) (h1 : clsB x.nm = true) (h2 : fI L x.nm = i) (h3 : x.su.toList.isEmpty = false) (h4 : (x.nm.toList == rootL) = true) :
    Calls Tryd.prog 56 #[.slice A n c, F, .int .i64 i] w fun e w' => e = .returned (.int .i64 33) ∧ Below w.heap.size w w' := by
  have HF := Lib.hid hF
  have HL := Lib.hid h
  have HN := Lib.hid hn
  have hiL : i < L.length := by rw [hn]; exact hi
  obtain ⟨kk, bb, rfl, he, hcon⟩ := hF
  have he' : ∀ (args : Array Value) (w : World), (callFunc kk args).run Tryd.prog w = .ok (.enter kk args) w := he
  have HC := Lib.hid (show ∀ (s : ByteArray) (W : World), s.size ≤ 9223372036854775807 → Below w.heap.size w W → Calls Tryd.prog kk #[.string s, .pointer (some ⟨bb, 0, none⟩)] W fun e w' => e = .returned (.tuple #[.int .i64 (fI L s), .bool (fB L s)]) ∧ Below W.heap.size W w' from hcon)
  have hxe : L[i] = x := by rw [List.getElem?_eq_getElem hiL] at hx; exact Option.some.inj hx
  obtain ⟨g, o, rfl, hg, hok, c0, c1, c2, c3⟩ := h.at hiL
  rw [hxe] at hok c0 c1 c2 c3
  clear hxe hx
  have HOK := Lib.hid hok
  have hz0 := hok.1
  have hz1 := hok.2.1
  clear h hn he hcon hok
  have HCN := Lib.hid (fun (W : World) (hb : Below w.heap.size w W) => by have q := HC.out x.nm W hz0 hb; rw [h2] at q; exact q)
  clear h2
  go_enter Tryd.func56, Tryd.ntmps56
  go_upto_region 2 with fail
  have hbx := World.alloc_heap_new w (.cells #[.string x.nm, .string x.su, .slice x.iA x.n x.c, .bool x.isI] 30)
  have HB0 := Lib.hid (below_al (Below.refl w.heap.size w) (.cells #[.string x.nm, .string x.su, .slice x.iA x.n x.c, .bool x.isI] 30))
  replace c0 := (HB0.out.cell (p := ⟨g, _, none⟩) hg).trans c0
  replace c1 := (HB0.out.cell (p := ⟨g, _, none⟩) hg).trans c1
  replace c2 := (HB0.out.cell (p := ⟨g, _, none⟩) hg).trans c2
  replace c3 := (HB0.out.cell (p := ⟨g, _, none⟩) hg).trans c3
  try replace d3 := (HB0.out.cell (p := ⟨g, _, none⟩) hg).trans d3
  generalize w.alloc (.cells #[.string x.nm, .string x.su, .slice x.iA x.n x.c, .bool x.isI] 30) = W1 at hbx HB0 c0 c1 c2 c3  ⊢
  obtain ⟨⟨x0, x1, x2, x3⟩, _⟩ := four_cells hbx
  have hlw := lt_heap hbx
  have hlg : g < W1.heap.size := Nat.lt_trans hg hlw
  have hB : Below W1.heap.size W1 W1 := Below.refl _ _
  clear hbx hg
  go_wp2_with (first | (go_at_call 89; (with_reducible refine (cls_any _ _).mono ?_); rintro e w1 ⟨rfl, hb1⟩; replace hB := Below.trans hB (hb1.mono hB.size); obtain ⟨hc1, hf1⟩ := bcell hB; clear hb1) | (go_at_fn kk; (with_reducible refine (HCN.out _ (below_on HB0.out hB)).mono ?_); rintro e w1 ⟨rfl, hb1⟩; replace hB := Below.trans hB (hb1.mono hB.size); obtain ⟨hc1, hf1⟩ := bcell hB; clear hb1))
  go_ret
  exact ⟨rfl, below_on HB0.out hB⟩
set_option maxRecDepth 100000 in
set_option maxHeartbeats 4000000 in
theorem ce_dt (A : Option Addr) (n c : Nat) (L : List CI) (F : Value) (i : Nat) (w : World) (hn : L.length = n) (hc : n ≤ 1000000) (h : CIs w w.heap.size A L) (hF : Fd L F w) (hi : i < n) (x : CI) (hx : L[i]? = some x) (h1 : clsB x.nm = true) (h2 : fI L x.nm = i) (h3 : x.su.toList.isEmpty = true) (h3b : (x.nm.toList == rootL) = true) (h4 : x.isI = true) (h5 : (x.su.toList == rootL) = false) :
    Calls Tryd.prog 56 #[.slice A n c, F, .int .i64 i] w fun e w' => e = .returned (.int .i64 33) ∧ Below w.heap.size w w' := by
  have HF := Lib.hid hF
  have HL := Lib.hid h
  have HN := Lib.hid hn
  have hiL : i < L.length := by rw [hn]; exact hi
  obtain ⟨kk, bb, rfl, he, hcon⟩ := hF
  have he' : ∀ (args : Array Value) (w : World), (callFunc kk args).run Tryd.prog w = .ok (.enter kk args) w := he
  have HC := Lib.hid (show ∀ (s : ByteArray) (W : World), s.size ≤ 9223372036854775807 → Below w.heap.size w W → Calls Tryd.prog kk #[.string s, .pointer (some ⟨bb, 0, none⟩)] W fun e w' => e = .returned (.tuple #[.int .i64 (fI L s), .bool (fB L s)]) ∧ Below W.heap.size W w' from hcon)
  have hxe : L[i] = x := by rw [List.getElem?_eq_getElem hiL] at hx; exact Option.some.inj hx
  obtain ⟨g, o, rfl, hg, hok, c0, c1, c2, c3⟩ := h.at hiL
  rw [hxe] at hok c0 c1 c2 c3
  clear hxe hx
  have HOK := Lib.hid hok
  have hz0 := hok.1
  have hz1 := hok.2.1
  clear h hn he hcon hok
  have HCN := Lib.hid (fun (W : World) (hb : Below w.heap.size w W) => by have q := HC.out x.nm W hz0 hb; rw [h2] at q; exact q)
  clear h2
  have HI := Lib.hid h4
  clear h4
  go_enter Tryd.func56, Tryd.ntmps56
  go_upto_region 2 with fail
  have hbx := World.alloc_heap_new w (.cells #[.string x.nm, .string x.su, .slice x.iA x.n x.c, .bool x.isI] 30)
  have HB0 := Lib.hid (below_al (Below.refl w.heap.size w) (.cells #[.string x.nm, .string x.su, .slice x.iA x.n x.c, .bool x.isI] 30))
  replace c0 := (HB0.out.cell (p := ⟨g, _, none⟩) hg).trans c0
  replace c1 := (HB0.out.cell (p := ⟨g, _, none⟩) hg).trans c1
  replace c2 := (HB0.out.cell (p := ⟨g, _, none⟩) hg).trans c2
  replace c3 := (HB0.out.cell (p := ⟨g, _, none⟩) hg).trans c3
  try replace d3 := (HB0.out.cell (p := ⟨g, _, none⟩) hg).trans d3
  generalize w.alloc (.cells #[.string x.nm, .string x.su, .slice x.iA x.n x.c, .bool x.isI] 30) = W1 at hbx HB0 c0 c1 c2 c3  ⊢
  obtain ⟨⟨x0, x1, x2, x3⟩, _⟩ := four_cells hbx
  have hlw := lt_heap hbx
  have hlg : g < W1.heap.size := Nat.lt_trans hg hlw
  have hB : Below W1.heap.size W1 W1 := Below.refl _ _
  clear hbx hg
  have h4 := HI.out
  go_wp2_with (first | (go_at_call 89; (with_reducible refine (cls_any _ _).mono ?_); rintro e w1 ⟨rfl, hb1⟩; replace hB := Below.trans hB (hb1.mono hB.size); obtain ⟨hc1, hf1⟩ := bcell hB; clear hb1) | (go_at_fn kk; (with_reducible refine (HCN.out _ (below_on HB0.out hB)).mono ?_); rintro e w1 ⟨rfl, hb1⟩; replace hB := Below.trans hB (hb1.mono hB.size); obtain ⟨hc1, hf1⟩ := bcell hB; clear hb1))
  go_ret
  exact ⟨rfl, below_on HB0.out hB⟩
set_option maxRecDepth 100000 in
set_option maxHeartbeats 4000000 in
theorem ce_df (A : Option Addr) (n c : Nat) (L : List CI) (F : Value) (i : Nat) (w : World) (hn : L.length = n) (hc : n ≤ 1000000) (h : CIs w w.heap.size A L) (hF : Fd L F w) (hi : i < n) (x : CI) (hx : L[i]? = some x) (h1 : clsB x.nm = true) (h2 : fI L x.nm = i) (h3 : x.su.toList.isEmpty = false) (h3b : (x.nm.toList == rootL) = false) (h4 : x.isI = true) (h5 : (x.su.toList == rootL) = false) :
    Calls Tryd.prog 56 #[.slice A n c, F, .int .i64 i] w fun e w' => e = .returned (.int .i64 33) ∧ Below w.heap.size w w' := by
  have HF := Lib.hid hF
  have HL := Lib.hid h
  have HN := Lib.hid hn
  have hiL : i < L.length := by rw [hn]; exact hi
  obtain ⟨kk, bb, rfl, he, hcon⟩ := hF
  have he' : ∀ (args : Array Value) (w : World), (callFunc kk args).run Tryd.prog w = .ok (.enter kk args) w := he
  have HC := Lib.hid (show ∀ (s : ByteArray) (W : World), s.size ≤ 9223372036854775807 → Below w.heap.size w W → Calls Tryd.prog kk #[.string s, .pointer (some ⟨bb, 0, none⟩)] W fun e w' => e = .returned (.tuple #[.int .i64 (fI L s), .bool (fB L s)]) ∧ Below W.heap.size W w' from hcon)
  have hxe : L[i] = x := by rw [List.getElem?_eq_getElem hiL] at hx; exact Option.some.inj hx
  obtain ⟨g, o, rfl, hg, hok, c0, c1, c2, c3⟩ := h.at hiL
  rw [hxe] at hok c0 c1 c2 c3
  clear hxe hx
  have HOK := Lib.hid hok
  have hz0 := hok.1
  have hz1 := hok.2.1
  clear h hn he hcon hok
  have HCN := Lib.hid (fun (W : World) (hb : Below w.heap.size w W) => by have q := HC.out x.nm W hz0 hb; rw [h2] at q; exact q)
  clear h2
  have HI := Lib.hid h4
  clear h4
  go_enter Tryd.func56, Tryd.ntmps56
  go_upto_region 2 with fail
  have hbx := World.alloc_heap_new w (.cells #[.string x.nm, .string x.su, .slice x.iA x.n x.c, .bool x.isI] 30)
  have HB0 := Lib.hid (below_al (Below.refl w.heap.size w) (.cells #[.string x.nm, .string x.su, .slice x.iA x.n x.c, .bool x.isI] 30))
  replace c0 := (HB0.out.cell (p := ⟨g, _, none⟩) hg).trans c0
  replace c1 := (HB0.out.cell (p := ⟨g, _, none⟩) hg).trans c1
  replace c2 := (HB0.out.cell (p := ⟨g, _, none⟩) hg).trans c2
  replace c3 := (HB0.out.cell (p := ⟨g, _, none⟩) hg).trans c3
  try replace d3 := (HB0.out.cell (p := ⟨g, _, none⟩) hg).trans d3
  generalize w.alloc (.cells #[.string x.nm, .string x.su, .slice x.iA x.n x.c, .bool x.isI] 30) = W1 at hbx HB0 c0 c1 c2 c3  ⊢
  obtain ⟨⟨x0, x1, x2, x3⟩, _⟩ := four_cells hbx
  have hlw := lt_heap hbx
  have hlg : g < W1.heap.size := Nat.lt_trans hg hlw
  have hB : Below W1.heap.size W1 W1 := Below.refl _ _
  clear hbx hg
  have h4 := HI.out
  go_wp2_with (first | (go_at_call 89; (with_reducible refine (cls_any _ _).mono ?_); rintro e w1 ⟨rfl, hb1⟩; replace hB := Below.trans hB (hb1.mono hB.size); obtain ⟨hc1, hf1⟩ := bcell hB; clear hb1) | (go_at_fn kk; (with_reducible refine (HCN.out _ (below_on HB0.out hB)).mono ?_); rintro e w1 ⟨rfl, hb1⟩; replace hB := Below.trans hB (hb1.mono hB.size); obtain ⟨hc1, hf1⟩ := bcell hB; clear hb1))
  go_ret
  exact ⟨rfl, below_on HB0.out hB⟩
set_option maxRecDepth 100000 in
set_option maxHeartbeats 4000000 in
theorem ce_e2 (A : Option Addr) (n c : Nat) (L : List CI) (F : Value) (i : Nat) (w : World) (hn : L.length = n) (hc : n ≤ 1000000) (h : CIs w w.heap.size A L) (hF : Fd L F w) (hi : i < n) (x : CI) (hx : L[i]? = some x) (h1 : clsB x.nm = true) (h2 : fI L x.nm = i) (h3 : x.su.toList.isEmpty = false) (h3b : (x.nm.toList == rootL) = false) (h4 : x.isI = false) (h6 : fB L x.su = false) :
    Calls Tryd.prog 56 #[.slice A n c, F, .int .i64 i] w fun e w' => e = .returned (.int .i64 33) ∧ Below w.heap.size w w' := by
  have HF := Lib.hid hF
  have HL := Lib.hid h
  have HN := Lib.hid hn
  have hiL : i < L.length := by rw [hn]; exact hi
  obtain ⟨kk, bb, rfl, he, hcon⟩ := hF
  have he' : ∀ (args : Array Value) (w : World), (callFunc kk args).run Tryd.prog w = .ok (.enter kk args) w := he
  have HC := Lib.hid (show ∀ (s : ByteArray) (W : World), s.size ≤ 9223372036854775807 → Below w.heap.size w W → Calls Tryd.prog kk #[.string s, .pointer (some ⟨bb, 0, none⟩)] W fun e w' => e = .returned (.tuple #[.int .i64 (fI L s), .bool (fB L s)]) ∧ Below W.heap.size W w' from hcon)
  have hxe : L[i] = x := by rw [List.getElem?_eq_getElem hiL] at hx; exact Option.some.inj hx
  obtain ⟨g, o, rfl, hg, hok, c0, c1, c2, c3⟩ := h.at hiL
  rw [hxe] at hok c0 c1 c2 c3
  clear hxe hx
  have HOK := Lib.hid hok
  have hz0 := hok.1
  have hz1 := hok.2.1
  clear h hn he hcon hok
  have HCN := Lib.hid (fun (W : World) (hb : Below w.heap.size w W) => by have q := HC.out x.nm W hz0 hb; rw [h2] at q; exact q)
  have HCS := Lib.hid (fun (W : World) (hb : Below w.heap.size w W) => by have q := HC.out x.su W hz1 hb; rw [h6] at q; exact q)
  clear h2 h6
  have HI := Lib.hid h4
  clear h4
  go_enter Tryd.func56, Tryd.ntmps56
  go_upto_region 2 with fail
  have hbx := World.alloc_heap_new w (.cells #[.string x.nm, .string x.su, .slice x.iA x.n x.c, .bool x.isI] 30)
  have HB0 := Lib.hid (below_al (Below.refl w.heap.size w) (.cells #[.string x.nm, .string x.su, .slice x.iA x.n x.c, .bool x.isI] 30))
  replace c0 := (HB0.out.cell (p := ⟨g, _, none⟩) hg).trans c0
  replace c1 := (HB0.out.cell (p := ⟨g, _, none⟩) hg).trans c1
  replace c2 := (HB0.out.cell (p := ⟨g, _, none⟩) hg).trans c2
  replace c3 := (HB0.out.cell (p := ⟨g, _, none⟩) hg).trans c3
  try replace d3 := (HB0.out.cell (p := ⟨g, _, none⟩) hg).trans d3
  generalize w.alloc (.cells #[.string x.nm, .string x.su, .slice x.iA x.n x.c, .bool x.isI] 30) = W1 at hbx HB0 c0 c1 c2 c3  ⊢
  obtain ⟨⟨x0, x1, x2, x3⟩, _⟩ := four_cells hbx
  have hlw := lt_heap hbx
  have hlg : g < W1.heap.size := Nat.lt_trans hg hlw
  have hB : Below W1.heap.size W1 W1 := Below.refl _ _
  clear hbx hg
  have h4 := HI.out
  go_wp2_with (first | (go_at_call 89; (with_reducible refine (cls_any _ _).mono ?_); rintro e w1 ⟨rfl, hb1⟩; replace hB := Below.trans hB (hb1.mono hB.size); obtain ⟨hc1, hf1⟩ := bcell hB; clear hb1) | (go_at_fn kk; (with_reducible refine (HCN.out _ (below_on HB0.out hB)).mono ?_); rintro e w1 ⟨rfl, hb1⟩; replace hB := Below.trans hB (hb1.mono hB.size); obtain ⟨hc1, hf1⟩ := bcell hB; clear hb1) | (go_at_fn kk; (with_reducible refine (HCS.out _ (below_on HB0.out hB)).mono ?_); rintro e w1 ⟨rfl, hb1⟩; replace hB := Below.trans hB (hb1.mono hB.size); obtain ⟨hc1, hf1⟩ := bcell hB; clear hb1))
  go_ret
  exact ⟨rfl, below_on HB0.out hB⟩
set_option maxRecDepth 100000 in
set_option maxHeartbeats 4000000 in
theorem ce_f2 (A : Option Addr) (n c : Nat) (L : List CI) (F : Value) (i : Nat) (w : World) (hn : L.length = n) (hc : n ≤ 1000000) (h : CIs w w.heap.size A L) (hF : Fd L F w) (hi : i < n) (x : CI) (hx : L[i]? = some x) (h1 : clsB x.nm = true) (h2 : fI L x.nm = i) (h3 : x.su.toList.isEmpty = false) (h3b : (x.nm.toList == rootL) = false) (h4 : x.isI = false) (h6 : fB L x.su = true) (h7 : (lkC L x.su).isI = true) :
    Calls Tryd.prog 56 #[.slice A n c, F, .int .i64 i] w fun e w' => e = .returned (.int .i64 33) ∧ Below w.heap.size w w' := by
  have HF := Lib.hid hF
  have HL := Lib.hid h
  have HN := Lib.hid hn
  have hiL : i < L.length := by rw [hn]; exact hi
  obtain ⟨kk, bb, rfl, he, hcon⟩ := hF
  have he' : ∀ (args : Array Value) (w : World), (callFunc kk args).run Tryd.prog w = .ok (.enter kk args) w := he
  have HC := Lib.hid (show ∀ (s : ByteArray) (W : World), s.size ≤ 9223372036854775807 → Below w.heap.size w W → Calls Tryd.prog kk #[.string s, .pointer (some ⟨bb, 0, none⟩)] W fun e w' => e = .returned (.tuple #[.int .i64 (fI L s), .bool (fB L s)]) ∧ Below W.heap.size W w' from hcon)
  have hxe : L[i] = x := by rw [List.getElem?_eq_getElem hiL] at hx; exact Option.some.inj hx
  obtain ⟨g, o, rfl, hg, hok, c0, c1, c2, c3⟩ := h.at hiL
  rw [hxe] at hok c0 c1 c2 c3
  clear hxe hx
  have HOK := Lib.hid hok
  have hz0 := hok.1
  have hz1 := hok.2.1
  clear h hn he hcon hok
  have HCN := Lib.hid (fun (W : World) (hb : Below w.heap.size w W) => by have q := HC.out x.nm W hz0 hb; rw [h2] at q; exact q)
  obtain ⟨d3, hd3⟩ := lk_cell rfl HL.out h6
  rw [HN.out] at hd3
  obtain ⟨k, hk⟩ : ∃ k, fI L x.su = k := ⟨_, rfl⟩
  have HCS := Lib.hid (fun (W : World) (hb : Below w.heap.size w W) => by have q := HC.out x.su W hz1 hb; rw [h6, hk] at q; exact q)
  rw [hk] at d3 hd3
  clear hk
  rw [h7] at d3
  clear h2 h6 h7
  have HI := Lib.hid h4
  clear h4
  go_enter Tryd.func56, Tryd.ntmps56
  go_upto_region 2 with fail
  have hbx := World.alloc_heap_new w (.cells #[.string x.nm, .string x.su, .slice x.iA x.n x.c, .bool x.isI] 30)
  have HB0 := Lib.hid (below_al (Below.refl w.heap.size w) (.cells #[.string x.nm, .string x.su, .slice x.iA x.n x.c, .bool x.isI] 30))
  replace c0 := (HB0.out.cell (p := ⟨g, _, none⟩) hg).trans c0
  replace c1 := (HB0.out.cell (p := ⟨g, _, none⟩) hg).trans c1
  replace c2 := (HB0.out.cell (p := ⟨g, _, none⟩) hg).trans c2
  replace c3 := (HB0.out.cell (p := ⟨g, _, none⟩) hg).trans c3
  try replace d3 := (HB0.out.cell (p := ⟨g, _, none⟩) hg).trans d3
  generalize w.alloc (.cells #[.string x.nm, .string x.su, .slice x.iA x.n x.c, .bool x.isI] 30) = W1 at hbx HB0 c0 c1 c2 c3 d3 ⊢
  obtain ⟨⟨x0, x1, x2, x3⟩, _⟩ := four_cells hbx
  have hlw := lt_heap hbx
  have hlg : g < W1.heap.size := Nat.lt_trans hg hlw
  have hB : Below W1.heap.size W1 W1 := Below.refl _ _
  clear hbx hg
  have h4 := HI.out
  go_wp2_with (first | (go_at_call 89; (with_reducible refine (cls_any _ _).mono ?_); rintro e w1 ⟨rfl, hb1⟩; replace hB := Below.trans hB (hb1.mono hB.size); obtain ⟨hc1, hf1⟩ := bcell hB; clear hb1) | (go_at_fn kk; (with_reducible refine (HCN.out _ (below_on HB0.out hB)).mono ?_); rintro e w1 ⟨rfl, hb1⟩; replace hB := Below.trans hB (hb1.mono hB.size); obtain ⟨hc1, hf1⟩ := bcell hB; clear hb1) | (go_at_fn kk; (with_reducible refine (HCS.out _ (below_on HB0.out hB)).mono ?_); rintro e w1 ⟨rfl, hb1⟩; replace hB := Below.trans hB (hb1.mono hB.size); obtain ⟨hc1, hf1⟩ := bcell hB; clear hb1))
  go_ret
  exact ⟨rfl, below_on HB0.out hB⟩
set_option maxRecDepth 100000 in
set_option maxHeartbeats 4000000 in
theorem ce_e3 (A : Option Addr) (n c : Nat) (L : List CI) (F : Value) (i : Nat) (w : World) (hn : L.length = n) (hc : n ≤ 1000000) (h : CIs w w.heap.size A L) (hF : Fd L F w) (hi : i < n) (x : CI) (hx : L[i]? = some x) (h1 : clsB x.nm = true) (h2 : fI L x.nm = i) (h3 : x.su.toList.isEmpty = false) (h3b : (x.nm.toList == rootL) = false) (h4 : x.isI = true) (h5 : (x.su.toList == rootL) = true) (h6 : fB L x.su = false) :
    Calls Tryd.prog 56 #[.slice A n c, F, .int .i64 i] w fun e w' => e = .returned (.int .i64 33) ∧ Below w.heap.size w w' := by
  have HF := Lib.hid hF
  have HL := Lib.hid h
  have HN := Lib.hid hn
  have hiL : i < L.length := by rw [hn]; exact hi
  obtain ⟨kk, bb, rfl, he, hcon⟩ := hF
  have he' : ∀ (args : Array Value) (w : World), (callFunc kk args).run Tryd.prog w = .ok (.enter kk args) w := he
  have HC := Lib.hid (show ∀ (s : ByteArray) (W : World), s.size ≤ 9223372036854775807 → Below w.heap.size w W → Calls Tryd.prog kk #[.string s, .pointer (some ⟨bb, 0, none⟩)] W fun e w' => e = .returned (.tuple #[.int .i64 (fI L s), .bool (fB L s)]) ∧ Below W.heap.size W w' from hcon)
  have hxe : L[i] = x := by rw [List.getElem?_eq_getElem hiL] at hx; exact Option.some.inj hx
  obtain ⟨g, o, rfl, hg, hok, c0, c1, c2, c3⟩ := h.at hiL
  rw [hxe] at hok c0 c1 c2 c3
  clear hxe hx
  have HOK := Lib.hid hok
  have hz0 := hok.1
  have hz1 := hok.2.1
  clear h hn he hcon hok
  have HCN := Lib.hid (fun (W : World) (hb : Below w.heap.size w W) => by have q := HC.out x.nm W hz0 hb; rw [h2] at q; exact q)
  have HCS := Lib.hid (fun (W : World) (hb : Below w.heap.size w W) => by have q := HC.out x.su W hz1 hb; rw [h6] at q; exact q)
  clear h2 h6
  have HI := Lib.hid h4
  clear h4
  go_enter Tryd.func56, Tryd.ntmps56
  go_upto_region 2 with fail
  have hbx := World.alloc_heap_new w (.cells #[.string x.nm, .string x.su, .slice x.iA x.n x.c, .bool x.isI] 30)
  have HB0 := Lib.hid (below_al (Below.refl w.heap.size w) (.cells #[.string x.nm, .string x.su, .slice x.iA x.n x.c, .bool x.isI] 30))
  replace c0 := (HB0.out.cell (p := ⟨g, _, none⟩) hg).trans c0
  replace c1 := (HB0.out.cell (p := ⟨g, _, none⟩) hg).trans c1
  replace c2 := (HB0.out.cell (p := ⟨g, _, none⟩) hg).trans c2
  replace c3 := (HB0.out.cell (p := ⟨g, _, none⟩) hg).trans c3
  try replace d3 := (HB0.out.cell (p := ⟨g, _, none⟩) hg).trans d3
  generalize w.alloc (.cells #[.string x.nm, .string x.su, .slice x.iA x.n x.c, .bool x.isI] 30) = W1 at hbx HB0 c0 c1 c2 c3  ⊢
  obtain ⟨⟨x0, x1, x2, x3⟩, _⟩ := four_cells hbx
  have hlw := lt_heap hbx
  have hlg : g < W1.heap.size := Nat.lt_trans hg hlw
  have hB : Below W1.heap.size W1 W1 := Below.refl _ _
  clear hbx hg
  have h4 := HI.out
  go_wp2_with (first | (go_at_call 89; (with_reducible refine (cls_any _ _).mono ?_); rintro e w1 ⟨rfl, hb1⟩; replace hB := Below.trans hB (hb1.mono hB.size); obtain ⟨hc1, hf1⟩ := bcell hB; clear hb1) | (go_at_fn kk; (with_reducible refine (HCN.out _ (below_on HB0.out hB)).mono ?_); rintro e w1 ⟨rfl, hb1⟩; replace hB := Below.trans hB (hb1.mono hB.size); obtain ⟨hc1, hf1⟩ := bcell hB; clear hb1) | (go_at_fn kk; (with_reducible refine (HCS.out _ (below_on HB0.out hB)).mono ?_); rintro e w1 ⟨rfl, hb1⟩; replace hB := Below.trans hB (hb1.mono hB.size); obtain ⟨hc1, hf1⟩ := bcell hB; clear hb1))
  go_ret
  exact ⟨rfl, below_on HB0.out hB⟩
set_option maxRecDepth 100000 in
set_option maxHeartbeats 4000000 in
theorem ce_f3 (A : Option Addr) (n c : Nat) (L : List CI) (F : Value) (i : Nat) (w : World) (hn : L.length = n) (hc : n ≤ 1000000) (h : CIs w w.heap.size A L) (hF : Fd L F w) (hi : i < n) (x : CI) (hx : L[i]? = some x) (h1 : clsB x.nm = true) (h2 : fI L x.nm = i) (h3 : x.su.toList.isEmpty = false) (h3b : (x.nm.toList == rootL) = false) (h4 : x.isI = true) (h5 : (x.su.toList == rootL) = true) (h6 : fB L x.su = true) (h7 : (lkC L x.su).isI = true) :
    Calls Tryd.prog 56 #[.slice A n c, F, .int .i64 i] w fun e w' => e = .returned (.int .i64 33) ∧ Below w.heap.size w w' := by
  have HF := Lib.hid hF
  have HL := Lib.hid h
  have HN := Lib.hid hn
  have hiL : i < L.length := by rw [hn]; exact hi
  obtain ⟨kk, bb, rfl, he, hcon⟩ := hF
  have he' : ∀ (args : Array Value) (w : World), (callFunc kk args).run Tryd.prog w = .ok (.enter kk args) w := he
  have HC := Lib.hid (show ∀ (s : ByteArray) (W : World), s.size ≤ 9223372036854775807 → Below w.heap.size w W → Calls Tryd.prog kk #[.string s, .pointer (some ⟨bb, 0, none⟩)] W fun e w' => e = .returned (.tuple #[.int .i64 (fI L s), .bool (fB L s)]) ∧ Below W.heap.size W w' from hcon)
  have hxe : L[i] = x := by rw [List.getElem?_eq_getElem hiL] at hx; exact Option.some.inj hx
  obtain ⟨g, o, rfl, hg, hok, c0, c1, c2, c3⟩ := h.at hiL
  rw [hxe] at hok c0 c1 c2 c3
  clear hxe hx
  have HOK := Lib.hid hok
  have hz0 := hok.1
  have hz1 := hok.2.1
  clear h hn he hcon hok
  have HCN := Lib.hid (fun (W : World) (hb : Below w.heap.size w W) => by have q := HC.out x.nm W hz0 hb; rw [h2] at q; exact q)
  obtain ⟨d3, hd3⟩ := lk_cell rfl HL.out h6
  rw [HN.out] at hd3
  obtain ⟨k, hk⟩ : ∃ k, fI L x.su = k := ⟨_, rfl⟩
  have HCS := Lib.hid (fun (W : World) (hb : Below w.heap.size w W) => by have q := HC.out x.su W hz1 hb; rw [h6, hk] at q; exact q)
  rw [hk] at d3 hd3
  clear hk
  rw [h7] at d3
  clear h2 h6 h7
  have HI := Lib.hid h4
  clear h4
  go_enter Tryd.func56, Tryd.ntmps56
  go_upto_region 2 with fail
  have hbx := World.alloc_heap_new w (.cells #[.string x.nm, .string x.su, .slice x.iA x.n x.c, .bool x.isI] 30)
  have HB0 := Lib.hid (below_al (Below.refl w.heap.size w) (.cells #[.string x.nm, .string x.su, .slice x.iA x.n x.c, .bool x.isI] 30))
  replace c0 := (HB0.out.cell (p := ⟨g, _, none⟩) hg).trans c0
  replace c1 := (HB0.out.cell (p := ⟨g, _, none⟩) hg).trans c1
  replace c2 := (HB0.out.cell (p := ⟨g, _, none⟩) hg).trans c2
  replace c3 := (HB0.out.cell (p := ⟨g, _, none⟩) hg).trans c3
  try replace d3 := (HB0.out.cell (p := ⟨g, _, none⟩) hg).trans d3
  generalize w.alloc (.cells #[.string x.nm, .string x.su, .slice x.iA x.n x.c, .bool x.isI] 30) = W1 at hbx HB0 c0 c1 c2 c3 d3 ⊢
  obtain ⟨⟨x0, x1, x2, x3⟩, _⟩ := four_cells hbx
  have hlw := lt_heap hbx
  have hlg : g < W1.heap.size := Nat.lt_trans hg hlw
  have hB : Below W1.heap.size W1 W1 := Below.refl _ _
  clear hbx hg
  have h4 := HI.out
  go_wp2_with (first | (go_at_call 89; (with_reducible refine (cls_any _ _).mono ?_); rintro e w1 ⟨rfl, hb1⟩; replace hB := Below.trans hB (hb1.mono hB.size); obtain ⟨hc1, hf1⟩ := bcell hB; clear hb1) | (go_at_fn kk; (with_reducible refine (HCN.out _ (below_on HB0.out hB)).mono ?_); rintro e w1 ⟨rfl, hb1⟩; replace hB := Below.trans hB (hb1.mono hB.size); obtain ⟨hc1, hf1⟩ := bcell hB; clear hb1) | (go_at_fn kk; (with_reducible refine (HCS.out _ (below_on HB0.out hB)).mono ?_); rintro e w1 ⟨rfl, hb1⟩; replace hB := Below.trans hB (hb1.mono hB.size); obtain ⟨hc1, hf1⟩ := bcell hB; clear hb1))
  go_ret
  exact ⟨rfl, below_on HB0.out hB⟩
noncomputable def tailV (L : List CI) (i : Nat) (x : CI) : Int := if x.fs.all (ifOk L) = false then 37 else if rcB L i i = true then 31 else 0
theorem rcL_at {L : List CI} {i j : Nat} (hj : j < L.length) : (rcL L i).getD j true = rcB L i j ∧ j < (rcL L i).length := by
  unfold rcL
  refine ⟨?_, by simpa using hj⟩
  rw [List.getD_eq_getElem?_getD, List.getElem?_map, List.getElem?_range hj]; rfl
theorem tail_bad {L : List CI} {i : Nat} {x : CI} {j : Nat} (hj : j < x.fs.length) (h : ifOk L x.fs[j] = false) : tailV L i x = 37 := by
  unfold tailV
  rw [if_pos]
  cases hh : x.fs.all (ifOk L) with
  | false => rfl
  | true => rw [List.all_eq_true] at hh; have := hh _ (List.getElem_mem hj); rw [h] at this; cases this
theorem tail_good {L : List CI} {i : Nat} {x : CI} (h : ∀ k (hk : k < x.fs.length), ifOk L x.fs[k] = true) : tailV L i x = if rcB L i i = true then 31 else 0 := by
  unfold tailV
  rw [if_neg]
  rw [Bool.not_eq_false, List.all_eq_true]
  intro s hs
  obtain ⟨k, hk, rfl⟩ := List.getElem_of_mem hs
  exact h k hk
set_option maxRecDepth 100000 in
set_option maxHeartbeats 4000000 in
theorem ce_g1 (A : Option Addr) (n c : Nat) (L : List CI) (F : Value) (i : Nat) (w : World) (hn : L.length = n) (hc : n ≤ 1000000) (h : CIs w w.heap.size A L) (hF : Fd L F w) (hi : i < n) (x : CI) (hx : L[i]? = some x) (h1 : clsB x.nm = true) (h2 : fI L x.nm = i) (h3 : x.su.toList.isEmpty = true) (h3b : (x.nm.toList == rootL) = true) (h4 : x.isI = false) :
    Calls Tryd.prog 56 #[.slice A n c, F, .int .i64 i] w fun e w' => e = .returned (.int .i64 (tailV L i x)) ∧ Below w.heap.size w w' := by
  have HF := Lib.hid hF
  have HL := Lib.hid h
  have HN := Lib.hid hn
  have hiL : i < L.length := by rw [hn]; exact hi
  obtain ⟨kk, bb, rfl, he, hcon⟩ := hF
  have he' : ∀ (args : Array Value) (w : World), (callFunc kk args).run Tryd.prog w = .ok (.enter kk args) w := he
  have HC := Lib.hid (show ∀ (s : ByteArray) (W : World), s.size ≤ 9223372036854775807 → Below w.heap.size w W → Calls Tryd.prog kk #[.string s, .pointer (some ⟨bb, 0, none⟩)] W fun e w' => e = .returned (.tuple #[.int .i64 (fI L s), .bool (fB L s)]) ∧ Below W.heap.size W w' from hcon)
  have hxe : L[i] = x := by rw [List.getElem?_eq_getElem hiL] at hx; exact Option.some.inj hx
  obtain ⟨g, o, rfl, hg, hok, c0, c1, c2, c3⟩ := h.at hiL
  rw [hxe] at hok c0 c1 c2 c3
  clear hxe hx
  have HOK := Lib.hid hok
  have hz0 := hok.1
  have hz1 := hok.2.1
  clear h hn he hcon hok
  have HCN := Lib.hid (fun (W : World) (hb : Below w.heap.size w W) => by have q := HC.out x.nm W hz0 hb; rw [h2] at q; exact q)
  clear h2
  have HG := Lib.hid hg
  have HI := Lib.hid h4
  clear h4
  go_enter Tryd.func56, Tryd.ntmps56
  go_upto_region 2 with fail
  have hbx := World.alloc_heap_new w (.cells #[.string x.nm, .string x.su, .slice x.iA x.n x.c, .bool x.isI] 30)
  have HB0 := Lib.hid (below_al (Below.refl w.heap.size w) (.cells #[.string x.nm, .string x.su, .slice x.iA x.n x.c, .bool x.isI] 30))
  replace c0 := (HB0.out.cell (p := ⟨g, _, none⟩) hg).trans c0
  replace c1 := (HB0.out.cell (p := ⟨g, _, none⟩) hg).trans c1
  replace c2 := (HB0.out.cell (p := ⟨g, _, none⟩) hg).trans c2
  replace c3 := (HB0.out.cell (p := ⟨g, _, none⟩) hg).trans c3
  try replace d3 := (HB0.out.cell (p := ⟨g, _, none⟩) hg).trans d3
  generalize w.alloc (.cells #[.string x.nm, .string x.su, .slice x.iA x.n x.c, .bool x.isI] 30) = W1 at hbx HB0 c0 c1 c2 c3  ⊢
  obtain ⟨⟨x0, x1, x2, x3⟩, _⟩ := four_cells hbx
  have hlw := lt_heap hbx
  have hlg : g < W1.heap.size := Nat.lt_trans hg hlw
  have hB : Below W1.heap.size W1 W1 := Below.refl _ _
  clear hbx hg
  have h4 := HI.out
  have HIA := Lib.hid (fun (j : Nat) (hj : j < x.fs.length) (W : World) (hb : Below w.heap.size w W) => ci_in HOK.out hb hj)
  have HFN := Lib.hid (show x.fs.length = x.n from HOK.out.2.2.1)
  have hnn : x.n ≤ 9223372036854775807 := by have := HOK.out.2.2.2; omega
  clear HOK
  generalize x.iA = iA at HIA x2 ⊢
  go_wp2_with (first | (go_at_call 89; (with_reducible refine (cls_any _ _).mono ?_); rintro e w1 ⟨rfl, hb1⟩; replace hB := Below.trans hB (hb1.mono hB.size); obtain ⟨hc1, hf1⟩ := bcell hB; clear hb1) | (go_at_fn kk; (with_reducible refine (HCN.out _ (below_on HB0.out hB)).mono ?_); rintro e w1 ⟨rfl, hb1⟩; replace hB := Below.trans hB (hb1.mono hB.size); obtain ⟨hc1, hf1⟩ := bcell hB; clear hb1))
  clear hc1 hf1 x0 x1 x2 x3 c0 c1 c2 c3
  have HBB := Lib.hid hB
  go_loopw [72] (fun jv wr => ∃ j : Nat, jv = .int .i64 j ∧ j ≤ x.n ∧ Below W1.heap.size W1 wr ∧ Hid (∀ k (hk : k < j) (hl : k < x.fs.length), ifOk L x.fs[k] = true)) (fun jv _ => x.n - (intOf jv).toNat)
  case atStart => exact ⟨0, rfl, Nat.zero_le _, HBB.out, Lib.hid fun k hk => absurd hk (Nat.not_lt_zero _)⟩
  case round =>
    obtain ⟨j, rfl, hj, hB, hg⟩ := hrel
    clear HBB
    by_cases hjl : j < x.n
    · have hjx : j < x.fs.length := by rw [HFN.out]; exact hjl
      obtain ⟨q, p, rfl, hcj, hsz⟩ := HIA.out j hjx wr (below_on HB0.out hB)
      have HTB := Lib.hid (tail_bad (L := L) (i := i) hjx)
      have HSN := Lib.hid (fun (h : ifOk L x.fs[j] = true) => show ∀ k (hk : k < j + 1) (hl : k < x.fs.length), ifOk L x.fs[k] = true from fun k hk hl => by
        rcases Nat.lt_or_ge k j with h' | h'
        · exact hg.out k h' hl
        · obtain rfl : k = j := by omega
          exact h)
      generalize x.fs[j] = s at hcj hsz HTB HSN
      have HCS := Lib.hid (fun (W : World) (hb : Below w.heap.size w W) => HC.out s W hsz hb)
      cases hf : fB L s with
      | false =>
        rw [hf] at HCS
        have HV := Lib.hid (HTB.out (by unfold ifOk; rw [hf]; rfl))
        clear hf
        go_wp2_with (first | (go_at_fn kk; (with_reducible refine (HCS.out _ (below_on HB0.out hB)).mono ?_); rintro e w1 ⟨rfl, hb1⟩; replace hB := Below.trans hB (hb1.mono hB.size); obtain ⟨hc1, hf1⟩ := bcell hB; clear hb1))
        go_ret
        exact ⟨by rw [HV.out]; rfl, below_on HB0.out hB⟩
      | true =>
        obtain ⟨d3, hd3⟩ := lk_cell rfl HL.out hf
        rw [HN.out] at hd3
        replace d3 := ((below_on HB0.out hB).cell (p := ⟨g, _, none⟩) HG.out).trans d3
        have hlw2 : g < wr.heap.size := Nat.lt_of_lt_of_le hlg hB.size
        cases hI : (lkC L s).isI with
        | false =>
          have HV := Lib.hid (HTB.out (by unfold ifOk; rw [hf, hI]; rfl))
          rw [hI] at d3
          rw [hf] at HCS
          obtain ⟨k, hk⟩ : ∃ k, fI L s = k := ⟨_, rfl⟩
          rw [hk] at d3 hd3 HCS
          have HD := Lib.hid d3
          clear hf hI hk d3
          go_wp2_with (go_at_fn kk; (with_reducible refine (HCS.out _ (below_on HB0.out hB)).mono ?_); rintro e w1 ⟨rfl, hb1⟩; have d4 := (hb1.cell (p := ⟨g, _, none⟩) hlw2).trans HD.out; replace hB := Below.trans hB (hb1.mono hB.size); clear hb1)
          go_ret
          exact ⟨by rw [HV.out]; rfl, below_on HB0.out hB⟩
        | true =>
          have HV := Lib.hid (HSN.out (by unfold ifOk; rw [hf, hI]; rfl))
          rw [hI] at d3
          rw [hf] at HCS
          obtain ⟨k, hk⟩ : ∃ k, fI L s = k := ⟨_, rfl⟩
          rw [hk] at d3 hd3 HCS
          have HD := Lib.hid d3
          clear hf hI hk d3
          go_wp2_with (go_at_fn kk; (with_reducible refine (HCS.out _ (below_on HB0.out hB)).mono ?_); rintro e w1 ⟨rfl, hb1⟩; have d4 := (hb1.cell (p := ⟨g, _, none⟩) hlw2).trans HD.out; replace hB := Below.trans hB (hb1.mono hB.size); clear hb1)
          have HBN := Lib.hid hB
          go_roundw
          case rel => exact ⟨j + 1, by go_num, by omega, HBN.out, HV⟩
          case measure => simp [intOf]; omega
    · obtain rfl : j = x.n := by omega
      have HT := Lib.hid (tail_good (L := L) (i := i) (x := x) (fun k hk => hg.out k (by rw [← HFN.out]; exact hk) hk))
      have HBW := Lib.hid (below_on HB0.out hB)
      have HLW := Lib.hid (HL.out.up HBW.out)
      have HFW := Lib.hid (HF.out.up HBW.out)
      cases hr : rcB L i i with
      | true =>
        rw [hr] at HT
        have HR := Lib.hid hr
        clear hr
        go_wp2_with (go_at_call 58; (with_reducible refine (reached_any _ n _ L _ i _ HN.out hc HLW.out HFW.out hi).mono ?_); rintro e w1 ⟨g2, rfl, hm, _, hb1⟩; have m1 := mark_at hm (rcL_at hiL).2 ((rcL_at hiL).1.trans HR.out); have HB9 := Lib.hid (below_on HBW.out hb1); clear hb1 hm)
        go_ret
        exact ⟨by rw [HT.out]; rfl, HB9.out⟩
      | false =>
        rw [hr] at HT
        have HR := Lib.hid hr
        clear hr
        go_wp2_with (go_at_call 58; (with_reducible refine (reached_any _ n _ L _ i _ HN.out hc HLW.out HFW.out hi).mono ?_); rintro e w1 ⟨g2, rfl, hm, _, hb1⟩; have m1 := mark_at hm (rcL_at hiL).2 ((rcL_at hiL).1.trans HR.out); have HB9 := Lib.hid (below_on HBW.out hb1); clear hb1 hm)
        go_ret
        exact ⟨by rw [HT.out]; rfl, HB9.out⟩

set_option maxRecDepth 100000 in
set_option maxHeartbeats 4000000 in
theorem ce_g2 (A : Option Addr) (n c : Nat) (L : List CI) (F : Value) (i : Nat) (w : World) (hn : L.length = n) (hc : n ≤ 1000000) (h : CIs w w.heap.size A L) (hF : Fd L F w) (hi : i < n) (x : CI) (hx : L[i]? = some x) (h1 : clsB x.nm = true) (h2 : fI L x.nm = i) (h3 : x.su.toList.isEmpty = false) (h3b : (x.nm.toList == rootL) = false) (h4 : x.isI = false) (h6 : fB L x.su = true) (h7 : (lkC L x.su).isI = false) :
    Calls Tryd.prog 56 #[.slice A n c, F, .int .i64 i] w fun e w' => e = .returned (.int .i64 (tailV L i x)) ∧ Below w.heap.size w w' := by
  have HF := Lib.hid hF
  have HL := Lib.hid h
  have HN := Lib.hid hn
  have hiL : i < L.length := by rw [hn]; exact hi
  obtain ⟨kk, bb, rfl, he, hcon⟩ := hF
  have he' : ∀ (args : Array Value) (w : World), (callFunc kk args).run Tryd.prog w = .ok (.enter kk args) w := he
  have HC := Lib.hid (show ∀ (s : ByteArray) (W : World), s.size ≤ 9223372036854775807 → Below w.heap.size w W → Calls Tryd.prog kk #[.string s, .pointer (some ⟨bb, 0, none⟩)] W fun e w' => e = .returned (.tuple #[.int .i64 (fI L s), .bool (fB L s)]) ∧ Below W.heap.size W w' from hcon)
  have hxe : L[i] = x := by rw [List.getElem?_eq_getElem hiL] at hx; exact Option.some.inj hx
  obtain ⟨g, o, rfl, hg, hok, c0, c1, c2, c3⟩ := h.at hiL
  rw [hxe] at hok c0 c1 c2 c3
  clear hxe hx
  have HOK := Lib.hid hok
  have hz0 := hok.1
  have hz1 := hok.2.1
  clear h hn he hcon hok
  have HCN := Lib.hid (fun (W : World) (hb : Below w.heap.size w W) => by have q := HC.out x.nm W hz0 hb; rw [h2] at q; exact q)
  obtain ⟨d3, hd3⟩ := lk_cell rfl HL.out h6
  rw [HN.out] at hd3
  obtain ⟨k, hk⟩ : ∃ k, fI L x.su = k := ⟨_, rfl⟩
  have HCS := Lib.hid (fun (W : World) (hb : Below w.heap.size w W) => by have q := HC.out x.su W hz1 hb; rw [h6, hk] at q; exact q)
  rw [hk] at d3 hd3
  clear hk
  rw [h7] at d3
  clear h2 h6 h7
  have HG := Lib.hid hg
  have HI := Lib.hid h4
  clear h4
  go_enter Tryd.func56, Tryd.ntmps56
  go_upto_region 2 with fail
  have hbx := World.alloc_heap_new w (.cells #[.string x.nm, .string x.su, .slice x.iA x.n x.c, .bool x.isI] 30)
  have HB0 := Lib.hid (below_al (Below.refl w.heap.size w) (.cells #[.string x.nm, .string x.su, .slice x.iA x.n x.c, .bool x.isI] 30))
  replace c0 := (HB0.out.cell (p := ⟨g, _, none⟩) hg).trans c0
  replace c1 := (HB0.out.cell (p := ⟨g, _, none⟩) hg).trans c1
  replace c2 := (HB0.out.cell (p := ⟨g, _, none⟩) hg).trans c2
  replace c3 := (HB0.out.cell (p := ⟨g, _, none⟩) hg).trans c3
  try replace d3 := (HB0.out.cell (p := ⟨g, _, none⟩) hg).trans d3
  generalize w.alloc (.cells #[.string x.nm, .string x.su, .slice x.iA x.n x.c, .bool x.isI] 30) = W1 at hbx HB0 c0 c1 c2 c3 d3 ⊢
  obtain ⟨⟨x0, x1, x2, x3⟩, _⟩ := four_cells hbx
  have hlw := lt_heap hbx
  have hlg : g < W1.heap.size := Nat.lt_trans hg hlw
  have hB : Below W1.heap.size W1 W1 := Below.refl _ _
  clear hbx hg
  have h4 := HI.out
  have HIA := Lib.hid (fun (j : Nat) (hj : j < x.fs.length) (W : World) (hb : Below w.heap.size w W) => ci_in HOK.out hb hj)
  have HFN := Lib.hid (show x.fs.length = x.n from HOK.out.2.2.1)
  have hnn : x.n ≤ 9223372036854775807 := by have := HOK.out.2.2.2; omega
  clear HOK
  generalize x.iA = iA at HIA x2 ⊢
  go_wp2_with (first | (go_at_call 89; (with_reducible refine (cls_any _ _).mono ?_); rintro e w1 ⟨rfl, hb1⟩; replace hB := Below.trans hB (hb1.mono hB.size); obtain ⟨hc1, hf1⟩ := bcell hB; clear hb1) | (go_at_fn kk; (with_reducible refine (HCN.out _ (below_on HB0.out hB)).mono ?_); rintro e w1 ⟨rfl, hb1⟩; replace hB := Below.trans hB (hb1.mono hB.size); obtain ⟨hc1, hf1⟩ := bcell hB; clear hb1) | (go_at_fn kk; (with_reducible refine (HCS.out _ (below_on HB0.out hB)).mono ?_); rintro e w1 ⟨rfl, hb1⟩; replace hB := Below.trans hB (hb1.mono hB.size); obtain ⟨hc1, hf1⟩ := bcell hB; clear hb1))
  clear HCS d3 hd3 hc1 hf1 x0 x1 x2 x3 c0 c1 c2 c3
  have HBB := Lib.hid hB
  go_loopw [72] (fun jv wr => ∃ j : Nat, jv = .int .i64 j ∧ j ≤ x.n ∧ Below W1.heap.size W1 wr ∧ Hid (∀ k (hk : k < j) (hl : k < x.fs.length), ifOk L x.fs[k] = true)) (fun jv _ => x.n - (intOf jv).toNat)
  case atStart => exact ⟨0, rfl, Nat.zero_le _, HBB.out, Lib.hid fun k hk => absurd hk (Nat.not_lt_zero _)⟩
  case round =>
    obtain ⟨j, rfl, hj, hB, hg⟩ := hrel
    clear HBB
    by_cases hjl : j < x.n
    · have hjx : j < x.fs.length := by rw [HFN.out]; exact hjl
      obtain ⟨q, p, rfl, hcj, hsz⟩ := HIA.out j hjx wr (below_on HB0.out hB)
      have HTB := Lib.hid (tail_bad (L := L) (i := i) hjx)
      have HSN := Lib.hid (fun (h : ifOk L x.fs[j] = true) => show ∀ k (hk : k < j + 1) (hl : k < x.fs.length), ifOk L x.fs[k] = true from fun k hk hl => by
        rcases Nat.lt_or_ge k j with h' | h'
        · exact hg.out k h' hl
        · obtain rfl : k = j := by omega
          exact h)
      generalize x.fs[j] = s at hcj hsz HTB HSN
      have HCS := Lib.hid (fun (W : World) (hb : Below w.heap.size w W) => HC.out s W hsz hb)
      cases hf : fB L s with
      | false =>
        rw [hf] at HCS
        have HV := Lib.hid (HTB.out (by unfold ifOk; rw [hf]; rfl))
        clear hf
        go_wp2_with (first | (go_at_fn kk; (with_reducible refine (HCS.out _ (below_on HB0.out hB)).mono ?_); rintro e w1 ⟨rfl, hb1⟩; replace hB := Below.trans hB (hb1.mono hB.size); obtain ⟨hc1, hf1⟩ := bcell hB; clear hb1))
        go_ret
        exact ⟨by rw [HV.out]; rfl, below_on HB0.out hB⟩
      | true =>
        obtain ⟨d3, hd3⟩ := lk_cell rfl HL.out hf
        rw [HN.out] at hd3
        replace d3 := ((below_on HB0.out hB).cell (p := ⟨g, _, none⟩) HG.out).trans d3
        have hlw2 : g < wr.heap.size := Nat.lt_of_lt_of_le hlg hB.size
        cases hI : (lkC L s).isI with
        | false =>
          have HV := Lib.hid (HTB.out (by unfold ifOk; rw [hf, hI]; rfl))
          rw [hI] at d3
          rw [hf] at HCS
          obtain ⟨k, hk⟩ : ∃ k, fI L s = k := ⟨_, rfl⟩
          rw [hk] at d3 hd3 HCS
          have HD := Lib.hid d3
          clear hf hI hk d3
          go_wp2_with (go_at_fn kk; (with_reducible refine (HCS.out _ (below_on HB0.out hB)).mono ?_); rintro e w1 ⟨rfl, hb1⟩; have d4 := (hb1.cell (p := ⟨g, _, none⟩) hlw2).trans HD.out; replace hB := Below.trans hB (hb1.mono hB.size); clear hb1)
          go_ret
          exact ⟨by rw [HV.out]; rfl, below_on HB0.out hB⟩
        | true =>
          have HV := Lib.hid (HSN.out (by unfold ifOk; rw [hf, hI]; rfl))
          rw [hI] at d3
          rw [hf] at HCS
          obtain ⟨k, hk⟩ : ∃ k, fI L s = k := ⟨_, rfl⟩
          rw [hk] at d3 hd3 HCS
          have HD := Lib.hid d3
          clear hf hI hk d3
          go_wp2_with (go_at_fn kk; (with_reducible refine (HCS.out _ (below_on HB0.out hB)).mono ?_); rintro e w1 ⟨rfl, hb1⟩; have d4 := (hb1.cell (p := ⟨g, _, none⟩) hlw2).trans HD.out; replace hB := Below.trans hB (hb1.mono hB.size); clear hb1)
          have HBN := Lib.hid hB
          go_roundw
          case rel => exact ⟨j + 1, by go_num, by omega, HBN.out, HV⟩
          case measure => simp [intOf]; omega
    · obtain rfl : j = x.n := by omega
      have HT := Lib.hid (tail_good (L := L) (i := i) (x := x) (fun k hk => hg.out k (by rw [← HFN.out]; exact hk) hk))
      have HBW := Lib.hid (below_on HB0.out hB)
      have HLW := Lib.hid (HL.out.up HBW.out)
      have HFW := Lib.hid (HF.out.up HBW.out)
      cases hr : rcB L i i with
      | true =>
        rw [hr] at HT
        have HR := Lib.hid hr
        clear hr
        go_wp2_with (go_at_call 58; (with_reducible refine (reached_any _ n _ L _ i _ HN.out hc HLW.out HFW.out hi).mono ?_); rintro e w1 ⟨g2, rfl, hm, _, hb1⟩; have m1 := mark_at hm (rcL_at hiL).2 ((rcL_at hiL).1.trans HR.out); have HB9 := Lib.hid (below_on HBW.out hb1); clear hb1 hm)
        go_ret
        exact ⟨by rw [HT.out]; rfl, HB9.out⟩
      | false =>
        rw [hr] at HT
        have HR := Lib.hid hr
        clear hr
        go_wp2_with (go_at_call 58; (with_reducible refine (reached_any _ n _ L _ i _ HN.out hc HLW.out HFW.out hi).mono ?_); rintro e w1 ⟨g2, rfl, hm, _, hb1⟩; have m1 := mark_at hm (rcL_at hiL).2 ((rcL_at hiL).1.trans HR.out); have HB9 := Lib.hid (below_on HBW.out hb1); clear hb1 hm)
        go_ret
        exact ⟨by rw [HT.out]; rfl, HB9.out⟩

set_option maxRecDepth 100000 in
set_option maxHeartbeats 4000000 in
theorem ce_g3 (A : Option Addr) (n c : Nat) (L : List CI) (F : Value) (i : Nat) (w : World) (hn : L.length = n) (hc : n ≤ 1000000) (h : CIs w w.heap.size A L) (hF : Fd L F w) (hi : i < n) (x : CI) (hx : L[i]? = some x) (h1 : clsB x.nm = true) (h2 : fI L x.nm = i) (h3 : x.su.toList.isEmpty = false) (h3b : (x.nm.toList == rootL) = false) (h4 : x.isI = true) (h5 : (x.su.toList == rootL) = true) (h6 : fB L x.su = true) (h7 : (lkC L x.su).isI = false) :
    Calls Tryd.prog 56 #[.slice A n c, F, .int .i64 i] w fun e w' => e = .returned (.int .i64 (tailV L i x)) ∧ Below w.heap.size w w' := by
  have HF := Lib.hid hF
  have HL := Lib.hid h
  have HN := Lib.hid hn
  have hiL : i < L.length := by rw [hn]; exact hi
  obtain ⟨kk, bb, rfl, he, hcon⟩ := hF
  have he' : ∀ (args : Array Value) (w : World), (callFunc kk args).run Tryd.prog w = .ok (.enter kk args) w := he
  have HC := Lib.hid (show ∀ (s : ByteArray) (W : World), s.size ≤ 9223372036854775807 → Below w.heap.size w W → Calls Tryd.prog kk #[.string s, .pointer (some ⟨bb, 0, none⟩)] W fun e w' => e = .returned (.tuple #[.int .i64 (fI L s), .bool (fB L s)]) ∧ Below W.heap.size W w' from hcon)
  have hxe : L[i] = x := by rw [List.getElem?_eq_getElem hiL] at hx; exact Option.some.inj hx
  obtain ⟨g, o, rfl, hg, hok, c0, c1, c2, c3⟩ := h.at hiL
  rw [hxe] at hok c0 c1 c2 c3
  clear hxe hx
  have HOK := Lib.hid hok
  have hz0 := hok.1
  have hz1 := hok.2.1
  clear h hn he hcon hok
  have HCN := Lib.hid (fun (W : World) (hb : Below w.heap.size w W) => by have q := HC.out x.nm W hz0 hb; rw [h2] at q; exact q)
  obtain ⟨d3, hd3⟩ := lk_cell rfl HL.out h6
  rw [HN.out] at hd3
  obtain ⟨k, hk⟩ : ∃ k, fI L x.su = k := ⟨_, rfl⟩
  have HCS := Lib.hid (fun (W : World) (hb : Below w.heap.size w W) => by have q := HC.out x.su W hz1 hb; rw [h6, hk] at q; exact q)
  rw [hk] at d3 hd3
  clear hk
  rw [h7] at d3
  clear h2 h6 h7
  have HG := Lib.hid hg
  have HI := Lib.hid h4
  clear h4
  go_enter Tryd.func56, Tryd.ntmps56
  go_upto_region 2 with fail
  have hbx := World.alloc_heap_new w (.cells #[.string x.nm, .string x.su, .slice x.iA x.n x.c, .bool x.isI] 30)
  have HB0 := Lib.hid (below_al (Below.refl w.heap.size w) (.cells #[.string x.nm, .string x.su, .slice x.iA x.n x.c, .bool x.isI] 30))
  replace c0 := (HB0.out.cell (p := ⟨g, _, none⟩) hg).trans c0
  replace c1 := (HB0.out.cell (p := ⟨g, _, none⟩) hg).trans c1
  replace c2 := (HB0.out.cell (p := ⟨g, _, none⟩) hg).trans c2
  replace c3 := (HB0.out.cell (p := ⟨g, _, none⟩) hg).trans c3
  try replace d3 := (HB0.out.cell (p := ⟨g, _, none⟩) hg).trans d3
  generalize w.alloc (.cells #[.string x.nm, .string x.su, .slice x.iA x.n x.c, .bool x.isI] 30) = W1 at hbx HB0 c0 c1 c2 c3 d3 ⊢
  obtain ⟨⟨x0, x1, x2, x3⟩, _⟩ := four_cells hbx
  have hlw := lt_heap hbx
  have hlg : g < W1.heap.size := Nat.lt_trans hg hlw
  have hB : Below W1.heap.size W1 W1 := Below.refl _ _
  clear hbx hg
  have h4 := HI.out
  have HIA := Lib.hid (fun (j : Nat) (hj : j < x.fs.length) (W : World) (hb : Below w.heap.size w W) => ci_in HOK.out hb hj)
  have HFN := Lib.hid (show x.fs.length = x.n from HOK.out.2.2.1)
  have hnn : x.n ≤ 9223372036854775807 := by have := HOK.out.2.2.2; omega
  clear HOK
  generalize x.iA = iA at HIA x2 ⊢
  go_wp2_with (first | (go_at_call 89; (with_reducible refine (cls_any _ _).mono ?_); rintro e w1 ⟨rfl, hb1⟩; replace hB := Below.trans hB (hb1.mono hB.size); obtain ⟨hc1, hf1⟩ := bcell hB; clear hb1) | (go_at_fn kk; (with_reducible refine (HCN.out _ (below_on HB0.out hB)).mono ?_); rintro e w1 ⟨rfl, hb1⟩; replace hB := Below.trans hB (hb1.mono hB.size); obtain ⟨hc1, hf1⟩ := bcell hB; clear hb1) | (go_at_fn kk; (with_reducible refine (HCS.out _ (below_on HB0.out hB)).mono ?_); rintro e w1 ⟨rfl, hb1⟩; replace hB := Below.trans hB (hb1.mono hB.size); obtain ⟨hc1, hf1⟩ := bcell hB; clear hb1))
  clear HCS d3 hd3 hc1 hf1 x0 x1 x2 x3 c0 c1 c2 c3
  have HBB := Lib.hid hB
  go_loopw [72] (fun jv wr => ∃ j : Nat, jv = .int .i64 j ∧ j ≤ x.n ∧ Below W1.heap.size W1 wr ∧ Hid (∀ k (hk : k < j) (hl : k < x.fs.length), ifOk L x.fs[k] = true)) (fun jv _ => x.n - (intOf jv).toNat)
  case atStart => exact ⟨0, rfl, Nat.zero_le _, HBB.out, Lib.hid fun k hk => absurd hk (Nat.not_lt_zero _)⟩
  case round =>
    obtain ⟨j, rfl, hj, hB, hg⟩ := hrel
    clear HBB
    by_cases hjl : j < x.n
    · have hjx : j < x.fs.length := by rw [HFN.out]; exact hjl
      obtain ⟨q, p, rfl, hcj, hsz⟩ := HIA.out j hjx wr (below_on HB0.out hB)
      have HTB := Lib.hid (tail_bad (L := L) (i := i) hjx)
      have HSN := Lib.hid (fun (h : ifOk L x.fs[j] = true) => show ∀ k (hk : k < j + 1) (hl : k < x.fs.length), ifOk L x.fs[k] = true from fun k hk hl => by
        rcases Nat.lt_or_ge k j with h' | h'
        · exact hg.out k h' hl
        · obtain rfl : k = j := by omega
          exact h)
      generalize x.fs[j] = s at hcj hsz HTB HSN
      have HCS := Lib.hid (fun (W : World) (hb : Below w.heap.size w W) => HC.out s W hsz hb)
      cases hf : fB L s with
      | false =>
        rw [hf] at HCS
        have HV := Lib.hid (HTB.out (by unfold ifOk; rw [hf]; rfl))
        clear hf
        go_wp2_with (first | (go_at_fn kk; (with_reducible refine (HCS.out _ (below_on HB0.out hB)).mono ?_); rintro e w1 ⟨rfl, hb1⟩; replace hB := Below.trans hB (hb1.mono hB.size); obtain ⟨hc1, hf1⟩ := bcell hB; clear hb1))
        go_ret
        exact ⟨by rw [HV.out]; rfl, below_on HB0.out hB⟩
      | true =>
        obtain ⟨d3, hd3⟩ := lk_cell rfl HL.out hf
        rw [HN.out] at hd3
        replace d3 := ((below_on HB0.out hB).cell (p := ⟨g, _, none⟩) HG.out).trans d3
        have hlw2 : g < wr.heap.size := Nat.lt_of_lt_of_le hlg hB.size
        cases hI : (lkC L s).isI with
        | false =>
          have HV := Lib.hid (HTB.out (by unfold ifOk; rw [hf, hI]; rfl))
          rw [hI] at d3
          rw [hf] at HCS
          obtain ⟨k, hk⟩ : ∃ k, fI L s = k := ⟨_, rfl⟩
          rw [hk] at d3 hd3 HCS
          have HD := Lib.hid d3
          clear hf hI hk d3
          go_wp2_with (go_at_fn kk; (with_reducible refine (HCS.out _ (below_on HB0.out hB)).mono ?_); rintro e w1 ⟨rfl, hb1⟩; have d4 := (hb1.cell (p := ⟨g, _, none⟩) hlw2).trans HD.out; replace hB := Below.trans hB (hb1.mono hB.size); clear hb1)
          go_ret
          exact ⟨by rw [HV.out]; rfl, below_on HB0.out hB⟩
        | true =>
          have HV := Lib.hid (HSN.out (by unfold ifOk; rw [hf, hI]; rfl))
          rw [hI] at d3
          rw [hf] at HCS
          obtain ⟨k, hk⟩ : ∃ k, fI L s = k := ⟨_, rfl⟩
          rw [hk] at d3 hd3 HCS
          have HD := Lib.hid d3
          clear hf hI hk d3
          go_wp2_with (go_at_fn kk; (with_reducible refine (HCS.out _ (below_on HB0.out hB)).mono ?_); rintro e w1 ⟨rfl, hb1⟩; have d4 := (hb1.cell (p := ⟨g, _, none⟩) hlw2).trans HD.out; replace hB := Below.trans hB (hb1.mono hB.size); clear hb1)
          have HBN := Lib.hid hB
          go_roundw
          case rel => exact ⟨j + 1, by go_num, by omega, HBN.out, HV⟩
          case measure => simp [intOf]; omega
    · obtain rfl : j = x.n := by omega
      have HT := Lib.hid (tail_good (L := L) (i := i) (x := x) (fun k hk => hg.out k (by rw [← HFN.out]; exact hk) hk))
      have HBW := Lib.hid (below_on HB0.out hB)
      have HLW := Lib.hid (HL.out.up HBW.out)
      have HFW := Lib.hid (HF.out.up HBW.out)
      cases hr : rcB L i i with
      | true =>
        rw [hr] at HT
        have HR := Lib.hid hr
        clear hr
        go_wp2_with (go_at_call 58; (with_reducible refine (reached_any _ n _ L _ i _ HN.out hc HLW.out HFW.out hi).mono ?_); rintro e w1 ⟨g2, rfl, hm, _, hb1⟩; have m1 := mark_at hm (rcL_at hiL).2 ((rcL_at hiL).1.trans HR.out); have HB9 := Lib.hid (below_on HBW.out hb1); clear hb1 hm)
        go_ret
        exact ⟨by rw [HT.out]; rfl, HB9.out⟩
      | false =>
        rw [hr] at HT
        have HR := Lib.hid hr
        clear hr
        go_wp2_with (go_at_call 58; (with_reducible refine (reached_any _ n _ L _ i _ HN.out hc HLW.out HFW.out hi).mono ?_); rintro e w1 ⟨g2, rfl, hm, _, hb1⟩; have m1 := mark_at hm (rcL_at hiL).2 ((rcL_at hiL).1.trans HR.out); have HB9 := Lib.hid (below_on HBW.out hb1); clear hb1 hm)
        go_ret
        exact ⟨by rw [HT.out]; rfl, HB9.out⟩

end Go.Proofs.YthifmcnemeiphaaDoor
