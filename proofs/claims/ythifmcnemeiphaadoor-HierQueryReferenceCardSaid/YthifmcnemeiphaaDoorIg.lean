/- Layer 16: CommonSuperclass of the reference (written by gen/ig.py). -/
import Derived.Test.YthifmcnemeiphaaDoorHy
import Derived.Test.YthifmcnemeiphaaDoorHw
namespace Go.Proofs.YthifmcnemeiphaaDoor
open Go.ChangeShapes Go.WideShapes Go.ChangeAt Go.RowKit Go.PlainAid Go.Maps
set_option linter.unusedSimpArgs false
set_option linter.unusedVariables false

set_option maxRecDepth 100000 in
set_option maxHeartbeats 4000000 in
theorem rcs_eq (A : Option Addr) (n c : Nat) (L : List CI) (a b : ByteArray) (w : World) (hn : L.length = n) (hc : n ≤ 1000000) (h : CIs w w.heap.size A L) (h0 : (a.toList == b.toList) = true) :
    Calls Tryd.prog 26 #[.slice A n c, .string a, .string b] w fun e w' => e = .returned (.string a) ∧ Below w.heap.size w w' := by
  have HL := Lib.hid h
  have HN := Lib.hid hn
  clear h hn
  go_enter Tryd.func26, Tryd.ntmps26
  go_wp2
  go_ret
  exact ⟨rfl, Below.refl _ _⟩
set_option maxRecDepth 100000 in
set_option maxHeartbeats 4000000 in
theorem rcs_b1 (A : Option Addr) (n c : Nat) (L : List CI) (a b : ByteArray) (w : World) (hn : L.length = n) (hc : n ≤ 1000000) (h : CIs w w.heap.size A L) (h0 : (a.toList == b.toList) = false) (h1 : fB L a = false) (fb : Bool) (h2 : fB L b = fb) :
    Calls Tryd.prog 26 #[.slice A n c, .string a, .string b] w fun e w' => e = .returned (.string rootS) ∧ Below w.heap.size w w' := by
  have HL := Lib.hid h
  have HN := Lib.hid hn
  clear h hn
  have HK := Lib.hid (fun (s : ByteArray) (W : World) (hb : Below w.heap.size w W) => rlookup_any A n c L s W HN.out (by omega) (HL.out.up hb))
  have HKa := Lib.hid (fun (W : World) (hb : Below w.heap.size w W) => by have q := HK.out a W hb; rw [h1] at q; exact q)
  have HKb := Lib.hid (fun (W : World) (hb : Below w.heap.size w W) => by have q := HK.out b W hb; rw [h2] at q; exact q)
  obtain ⟨x, hx⟩ : ∃ x, lkC L a = x := ⟨_, rfl⟩
  obtain ⟨y, hy⟩ : ∃ y, lkC L b = y := ⟨_, rfl⟩
  rw [hx] at HKa
  rw [hy] at HKb
  skip
  clear hx hy h1 h2
  have HI := Lib.hid (show True from trivial)
  skip
  go_enter Tryd.func26, Tryd.ntmps26
  go_upto_region 4 with (go_at_call 21; (with_reducible refine (HKa.out _ (Below.refl _ _)).mono ?_); rintro e w1 ⟨rfl, hb1⟩)
  have HBX := Lib.hid (World.alloc_heap_new w1 (.cells #[.string x.nm, .string x.su, .slice x.iA x.n x.c, .bool x.isI] 30))
  have HB2 := Lib.hid (below_al hb1 (.cells #[.string x.nm, .string x.su, .slice x.iA x.n x.c, .bool x.isI] 30))
  generalize w1.alloc (.cells #[.string x.nm, .string x.su, .slice x.iA x.n x.c, .bool x.isI] 30) = W2 at HBX HB2 ⊢
  generalize w1.heap.size = B7 at HBX ⊢
  clear hb1
  go_upto_region 5 with (go_at_call 21; (with_reducible refine (HKb.out _ HB2.out).mono ?_); rintro e w3 ⟨rfl, hb3⟩)
  have HBX3 := Lib.hid (laid_old (o' := (.cells #[.string y.nm, .string y.su, .slice y.iA y.n y.c, .bool y.isI] 30)) ((hb3.block B7 (lt_heap HBX.out)).trans HBX.out))
  have HBY := Lib.hid (World.alloc_heap_new w3 (.cells #[.string y.nm, .string y.su, .slice y.iA y.n y.c, .bool y.isI] 30))
  have HB4 := Lib.hid (below_al (below_on HB2.out hb3) (.cells #[.string y.nm, .string y.su, .slice y.iA y.n y.c, .bool y.isI] 30))
  generalize w3.alloc (.cells #[.string y.nm, .string y.su, .slice y.iA y.n y.c, .bool y.isI] 30) = W4 at HBX3 HBY HB4 ⊢
  generalize w3.heap.size = B9 at HBY ⊢
  obtain ⟨⟨x0, x1, x2, x3⟩, _⟩ := four_cells HBX3.out
  obtain ⟨⟨y0, y1, y2, y3⟩, _⟩ := four_cells HBY.out
  clear hb3
  skip
  go_wp2
  go_ret
  exact ⟨rfl, HB4.out⟩
set_option maxRecDepth 100000 in
set_option maxHeartbeats 4000000 in
theorem rcs_b2 (A : Option Addr) (n c : Nat) (L : List CI) (a b : ByteArray) (w : World) (hn : L.length = n) (hc : n ≤ 1000000) (h : CIs w w.heap.size A L) (h0 : (a.toList == b.toList) = false) (h1 : fB L a = true) (h2 : fB L b = false) :
    Calls Tryd.prog 26 #[.slice A n c, .string a, .string b] w fun e w' => e = .returned (.string rootS) ∧ Below w.heap.size w w' := by
  have HL := Lib.hid h
  have HN := Lib.hid hn
  clear h hn
  have HK := Lib.hid (fun (s : ByteArray) (W : World) (hb : Below w.heap.size w W) => rlookup_any A n c L s W HN.out (by omega) (HL.out.up hb))
  have HKa := Lib.hid (fun (W : World) (hb : Below w.heap.size w W) => by have q := HK.out a W hb; rw [h1] at q; exact q)
  have HKb := Lib.hid (fun (W : World) (hb : Below w.heap.size w W) => by have q := HK.out b W hb; rw [h2] at q; exact q)
  obtain ⟨x, hx⟩ : ∃ x, lkC L a = x := ⟨_, rfl⟩
  obtain ⟨y, hy⟩ : ∃ y, lkC L b = y := ⟨_, rfl⟩
  rw [hx] at HKa
  rw [hy] at HKb
  skip
  clear hx hy h1 h2
  have HI := Lib.hid (show True from trivial)
  skip
  go_enter Tryd.func26, Tryd.ntmps26
  go_upto_region 4 with (go_at_call 21; (with_reducible refine (HKa.out _ (Below.refl _ _)).mono ?_); rintro e w1 ⟨rfl, hb1⟩)
  have HBX := Lib.hid (World.alloc_heap_new w1 (.cells #[.string x.nm, .string x.su, .slice x.iA x.n x.c, .bool x.isI] 30))
  have HB2 := Lib.hid (below_al hb1 (.cells #[.string x.nm, .string x.su, .slice x.iA x.n x.c, .bool x.isI] 30))
  generalize w1.alloc (.cells #[.string x.nm, .string x.su, .slice x.iA x.n x.c, .bool x.isI] 30) = W2 at HBX HB2 ⊢
  generalize w1.heap.size = B7 at HBX ⊢
  clear hb1
  go_upto_region 5 with (go_at_call 21; (with_reducible refine (HKb.out _ HB2.out).mono ?_); rintro e w3 ⟨rfl, hb3⟩)
  have HBX3 := Lib.hid (laid_old (o' := (.cells #[.string y.nm, .string y.su, .slice y.iA y.n y.c, .bool y.isI] 30)) ((hb3.block B7 (lt_heap HBX.out)).trans HBX.out))
  have HBY := Lib.hid (World.alloc_heap_new w3 (.cells #[.string y.nm, .string y.su, .slice y.iA y.n y.c, .bool y.isI] 30))
  have HB4 := Lib.hid (below_al (below_on HB2.out hb3) (.cells #[.string y.nm, .string y.su, .slice y.iA y.n y.c, .bool y.isI] 30))
  generalize w3.alloc (.cells #[.string y.nm, .string y.su, .slice y.iA y.n y.c, .bool y.isI] 30) = W4 at HBX3 HBY HB4 ⊢
  generalize w3.heap.size = B9 at HBY ⊢
  obtain ⟨⟨x0, x1, x2, x3⟩, _⟩ := four_cells HBX3.out
  obtain ⟨⟨y0, y1, y2, y3⟩, _⟩ := four_cells HBY.out
  clear hb3
  skip
  go_wp2
  go_ret
  exact ⟨rfl, HB4.out⟩
set_option maxRecDepth 100000 in
set_option maxHeartbeats 4000000 in
theorem rcs_b3 (A : Option Addr) (n c : Nat) (L : List CI) (a b : ByteArray) (w : World) (hn : L.length = n) (hc : n ≤ 1000000) (h : CIs w w.heap.size A L) (h0 : (a.toList == b.toList) = false) (h1 : fB L a = true) (h2 : fB L b = true) (h3 : (lkC L a).isI = true) :
    Calls Tryd.prog 26 #[.slice A n c, .string a, .string b] w fun e w' => e = .returned (.string rootS) ∧ Below w.heap.size w w' := by
  have HL := Lib.hid h
  have HN := Lib.hid hn
  clear h hn
  have HK := Lib.hid (fun (s : ByteArray) (W : World) (hb : Below w.heap.size w W) => rlookup_any A n c L s W HN.out (by omega) (HL.out.up hb))
  have HKa := Lib.hid (fun (W : World) (hb : Below w.heap.size w W) => by have q := HK.out a W hb; rw [h1] at q; exact q)
  have HKb := Lib.hid (fun (W : World) (hb : Below w.heap.size w W) => by have q := HK.out b W hb; rw [h2] at q; exact q)
  obtain ⟨x, hx⟩ : ∃ x, lkC L a = x := ⟨_, rfl⟩
  obtain ⟨y, hy⟩ : ∃ y, lkC L b = y := ⟨_, rfl⟩
  rw [hx] at HKa
  rw [hy] at HKb
  rw [hx] at h3
  clear hx hy h1 h2
  have HI := Lib.hid (show True from trivial)
  have H3 := Lib.hid h3
  clear h3
  go_enter Tryd.func26, Tryd.ntmps26
  go_upto_region 4 with (go_at_call 21; (with_reducible refine (HKa.out _ (Below.refl _ _)).mono ?_); rintro e w1 ⟨rfl, hb1⟩)
  have HBX := Lib.hid (World.alloc_heap_new w1 (.cells #[.string x.nm, .string x.su, .slice x.iA x.n x.c, .bool x.isI] 30))
  have HB2 := Lib.hid (below_al hb1 (.cells #[.string x.nm, .string x.su, .slice x.iA x.n x.c, .bool x.isI] 30))
  generalize w1.alloc (.cells #[.string x.nm, .string x.su, .slice x.iA x.n x.c, .bool x.isI] 30) = W2 at HBX HB2 ⊢
  generalize w1.heap.size = B7 at HBX ⊢
  clear hb1
  go_upto_region 5 with (go_at_call 21; (with_reducible refine (HKb.out _ HB2.out).mono ?_); rintro e w3 ⟨rfl, hb3⟩)
  have HBX3 := Lib.hid (laid_old (o' := (.cells #[.string y.nm, .string y.su, .slice y.iA y.n y.c, .bool y.isI] 30)) ((hb3.block B7 (lt_heap HBX.out)).trans HBX.out))
  have HBY := Lib.hid (World.alloc_heap_new w3 (.cells #[.string y.nm, .string y.su, .slice y.iA y.n y.c, .bool y.isI] 30))
  have HB4 := Lib.hid (below_al (below_on HB2.out hb3) (.cells #[.string y.nm, .string y.su, .slice y.iA y.n y.c, .bool y.isI] 30))
  generalize w3.alloc (.cells #[.string y.nm, .string y.su, .slice y.iA y.n y.c, .bool y.isI] 30) = W4 at HBX3 HBY HB4 ⊢
  generalize w3.heap.size = B9 at HBY ⊢
  obtain ⟨⟨x0, x1, x2, x3⟩, _⟩ := four_cells HBX3.out
  obtain ⟨⟨y0, y1, y2, y3⟩, _⟩ := four_cells HBY.out
  clear hb3
  have h3 := H3.out
  go_wp2
  go_ret
  exact ⟨rfl, HB4.out⟩
set_option maxRecDepth 100000 in
set_option maxHeartbeats 4000000 in
theorem rcs_b4 (A : Option Addr) (n c : Nat) (L : List CI) (a b : ByteArray) (w : World) (hn : L.length = n) (hc : n ≤ 1000000) (h : CIs w w.heap.size A L) (h0 : (a.toList == b.toList) = false) (h1 : fB L a = true) (h2 : fB L b = true) (h3 : (lkC L a).isI = false) (h4 : (lkC L b).isI = true) :
    Calls Tryd.prog 26 #[.slice A n c, .string a, .string b] w fun e w' => e = .returned (.string rootS) ∧ Below w.heap.size w w' := by
  have HL := Lib.hid h
  have HN := Lib.hid hn
  clear h hn
  have HK := Lib.hid (fun (s : ByteArray) (W : World) (hb : Below w.heap.size w W) => rlookup_any A n c L s W HN.out (by omega) (HL.out.up hb))
  have HKa := Lib.hid (fun (W : World) (hb : Below w.heap.size w W) => by have q := HK.out a W hb; rw [h1] at q; exact q)
  have HKb := Lib.hid (fun (W : World) (hb : Below w.heap.size w W) => by have q := HK.out b W hb; rw [h2] at q; exact q)
  obtain ⟨x, hx⟩ : ∃ x, lkC L a = x := ⟨_, rfl⟩
  obtain ⟨y, hy⟩ : ∃ y, lkC L b = y := ⟨_, rfl⟩
  rw [hx] at HKa
  rw [hy] at HKb
  rw [hx] at h3
  rw [hy] at h4
  clear hx hy h1 h2
  have HI := Lib.hid (show True from trivial)
  have H3 := Lib.hid h3
  have H4 := Lib.hid h4
  clear h3 h4
  go_enter Tryd.func26, Tryd.ntmps26
  go_upto_region 4 with (go_at_call 21; (with_reducible refine (HKa.out _ (Below.refl _ _)).mono ?_); rintro e w1 ⟨rfl, hb1⟩)
  have HBX := Lib.hid (World.alloc_heap_new w1 (.cells #[.string x.nm, .string x.su, .slice x.iA x.n x.c, .bool x.isI] 30))
  have HB2 := Lib.hid (below_al hb1 (.cells #[.string x.nm, .string x.su, .slice x.iA x.n x.c, .bool x.isI] 30))
  generalize w1.alloc (.cells #[.string x.nm, .string x.su, .slice x.iA x.n x.c, .bool x.isI] 30) = W2 at HBX HB2 ⊢
  generalize w1.heap.size = B7 at HBX ⊢
  clear hb1
  go_upto_region 5 with (go_at_call 21; (with_reducible refine (HKb.out _ HB2.out).mono ?_); rintro e w3 ⟨rfl, hb3⟩)
  have HBX3 := Lib.hid (laid_old (o' := (.cells #[.string y.nm, .string y.su, .slice y.iA y.n y.c, .bool y.isI] 30)) ((hb3.block B7 (lt_heap HBX.out)).trans HBX.out))
  have HBY := Lib.hid (World.alloc_heap_new w3 (.cells #[.string y.nm, .string y.su, .slice y.iA y.n y.c, .bool y.isI] 30))
  have HB4 := Lib.hid (below_al (below_on HB2.out hb3) (.cells #[.string y.nm, .string y.su, .slice y.iA y.n y.c, .bool y.isI] 30))
  generalize w3.alloc (.cells #[.string y.nm, .string y.su, .slice y.iA y.n y.c, .bool y.isI] 30) = W4 at HBX3 HBY HB4 ⊢
  generalize w3.heap.size = B9 at HBY ⊢
  obtain ⟨⟨x0, x1, x2, x3⟩, _⟩ := four_cells HBX3.out
  obtain ⟨⟨y0, y1, y2, y3⟩, _⟩ := four_cells HBY.out
  clear hb3
  have h3 := H3.out
  have h4 := H4.out
  go_wp2
  go_ret
  exact ⟨rfl, HB4.out⟩
set_option maxRecDepth 100000 in
set_option maxHeartbeats 4000000 in
theorem rcs_g (A : Option Addr) (n c : Nat) (L : List CI) (a b : ByteArray) (w : World) (hn : L.length = n) (hc : n ≤ 1000000) (h : CIs w w.heap.size A L) (h0 : (a.toList == b.toList) = false) (h1 : fB L a = true) (h2 : fB L b = true) (h3 : (lkC L a).isI = false) (h4 : (lkC L b).isI = false) :
    Calls Tryd.prog 26 #[.slice A n c, .string a, .string b] w fun e w' => e = .returned (.string (csF (supL L a) (supL L b))) ∧ Below w.heap.size w w' := by
  have HL := Lib.hid h
  have HN := Lib.hid hn
  clear h hn
  have HK := Lib.hid (fun (s : ByteArray) (W : World) (hb : Below w.heap.size w W) => rlookup_any A n c L s W HN.out (by omega) (HL.out.up hb))
  have HKa := Lib.hid (fun (W : World) (hb : Below w.heap.size w W) => by have q := HK.out a W hb; rw [h1] at q; exact q)
  have HKb := Lib.hid (fun (W : World) (hb : Below w.heap.size w W) => by have q := HK.out b W hb; rw [h2] at q; exact q)
  obtain ⟨x, hx⟩ : ∃ x, lkC L a = x := ⟨_, rfl⟩
  obtain ⟨y, hy⟩ : ∃ y, lkC L b = y := ⟨_, rfl⟩
  rw [hx] at HKa
  rw [hy] at HKb
  rw [hx] at h3
  rw [hy] at h4
  clear hx hy h1 h2
  have HI := Lib.hid (show True from trivial)
  have H3 := Lib.hid h3
  have H4 := Lib.hid h4
  clear h3 h4
  have HLB := Lib.hid (chain_len L (L.length + 1) b)
  have HLA := Lib.hid (chain_len L (L.length + 1) a)
  change Hid ((supL L b).length ≤ _) at HLB
  change Hid ((supL L a).length ≤ _) at HLA
  have HSA := Lib.hid (fun (W : World) (hb : Below w.heap.size w W) => rsup_any A n c L a W HN.out hc (HL.out.up hb))
  have HSB := Lib.hid (fun (W : World) (hb' : Below w.heap.size w W) => rsup_any A n c L b W HN.out hc (HL.out.up hb'))
  obtain ⟨Q, hQ⟩ : ∃ Q, supL L b = Q := ⟨_, rfl⟩
  obtain ⟨P, hP⟩ : ∃ P, supL L a = P := ⟨_, rfl⟩
  rw [hQ] at HLB HSB ⊢
  rw [hP] at HLA HSA ⊢
  rw [HN.out] at HLB HLA
  clear hQ hP
  go_enter Tryd.func26, Tryd.ntmps26
  go_upto_region 4 with (go_at_call 21; (with_reducible refine (HKa.out _ (Below.refl _ _)).mono ?_); rintro e w1 ⟨rfl, hb1⟩)
  have HBX := Lib.hid (World.alloc_heap_new w1 (.cells #[.string x.nm, .string x.su, .slice x.iA x.n x.c, .bool x.isI] 30))
  have HB2 := Lib.hid (below_al hb1 (.cells #[.string x.nm, .string x.su, .slice x.iA x.n x.c, .bool x.isI] 30))
  generalize w1.alloc (.cells #[.string x.nm, .string x.su, .slice x.iA x.n x.c, .bool x.isI] 30) = W2 at HBX HB2 ⊢
  generalize w1.heap.size = B7 at HBX ⊢
  clear hb1
  go_upto_region 5 with (go_at_call 21; (with_reducible refine (HKb.out _ HB2.out).mono ?_); rintro e w3 ⟨rfl, hb3⟩)
  have HBX3 := Lib.hid (laid_old (o' := (.cells #[.string y.nm, .string y.su, .slice y.iA y.n y.c, .bool y.isI] 30)) ((hb3.block B7 (lt_heap HBX.out)).trans HBX.out))
  have HBY := Lib.hid (World.alloc_heap_new w3 (.cells #[.string y.nm, .string y.su, .slice y.iA y.n y.c, .bool y.isI] 30))
  have HB4 := Lib.hid (below_al (below_on HB2.out hb3) (.cells #[.string y.nm, .string y.su, .slice y.iA y.n y.c, .bool y.isI] 30))
  generalize w3.alloc (.cells #[.string y.nm, .string y.su, .slice y.iA y.n y.c, .bool y.isI] 30) = W4 at HBX3 HBY HB4 ⊢
  generalize w3.heap.size = B9 at HBY ⊢
  obtain ⟨⟨x0, x1, x2, x3⟩, _⟩ := four_cells HBX3.out
  obtain ⟨⟨y0, y1, y2, y3⟩, _⟩ := four_cells HBY.out
  clear hb3
  have h3 := H3.out
  have h4 := H4.out
  have hql := HLB.out
  have hpl := HLA.out
  go_upto_region 8 with (first
    | (go_at_call 29; (with_reducible refine (HSA.out _ HB4.out).mono ?_); rintro e w6 ⟨v6, rfl, ho6, hb6⟩; obtain ⟨pA, pc, rfl, hpc1, hpc2⟩ := own_shape ho6; have HO6 := Lib.hid ho6; have HB6 := Lib.hid (below_on HB4.out hb6); clear ho6 hb6)
    | (go_at_call 29; (with_reducible refine (HSB.out _ HB6.out).mono ?_); rintro e w8 ⟨v8, rfl, ho8, hb8⟩; obtain ⟨qA, qc, rfl, hqc1, hqc2⟩ := own_shape ho8; have HO8 := Lib.hid ho8; have HP8 := Lib.hid (own_bel HO6.out hb8); have HB8 := Lib.hid (below_on HB6.out hb8); clear ho8 hb8))
  clear x0 x1 x2 x3 y0 y1 y2 y3
  go_wp2
  go_loopw [13] (fun jv wr => ∃ k : Nat, k ≤ P.length ∧ jv = .int .i64 k ∧ Hid (Below w8.heap.size w8 wr) ∧ Hid (∀ j (hj : j < k) (hl : j < P.length), hasL Q P[j] = false)) (fun jv _ => P.length - (intOf jv).toNat)
  case atStart => exact ⟨0, Nat.zero_le _, rfl, Lib.hid (Below.refl _ _), Lib.hid fun j hj => absurd hj (Nat.not_lt_zero _)⟩
  case round =>
    obtain ⟨k, hk, rfl, HB, hg⟩ := hrel
    by_cases hlt2 : k < P.length
    · obtain ⟨g, rfl, hcell, hgl, hgb⟩ := str_at (own_bel HP8.out HB.out) hlt2 rfl
      have HSQ := Lib.hid (SRow.of_own (own_bel HO8.out HB.out)).1
      have hcs : wr.cell? ⟨g, k, none⟩ = some (.string P[k]) := hcell
      have HH := Lib.hid (has_any qA Q.length qc Q P[k] wr rfl (by omega) HSQ.out)
      have HCS := Lib.hid hcs
      cases hh : hasL Q P[k] with
      | true =>
        have HR := Lib.hid (csF_hit hlt2 (fun j hj => hg.out j hj (by omega)) hh)
        rw [hh] at HH
        clear hh
        go_wp2_with (go_at_call 59; (with_reducible refine (HH.out).mono ?_); rintro e w9 ⟨rfl, hb9⟩; have HB9 := Lib.hid (below_on HB.out hb9); have hc9 := (hb9.cell (p := ⟨g, k, none⟩) hgl).trans HCS.out; clear hb9)
        go_ret
        exact ⟨by rw [HR.out]; rfl, below_on HB8.out HB9.out⟩
      | false =>
        have HG := Lib.hid (show ∀ j (hj : j < k + 1) (hl : j < P.length), hasL Q P[j] = false from fun j hj hl => by
          rcases Nat.lt_or_ge j k with h | h
          · exact hg.out j h hl
          · obtain rfl : j = k := by omega
            exact hh)
        rw [hh] at HH
        clear hh
        go_wp2_with (go_at_call 59; (with_reducible refine (HH.out).mono ?_); rintro e w9 ⟨rfl, hb9⟩; have HB9 := Lib.hid (below_on HB.out hb9); clear hb9)
        go_roundw
        case rel => exact ⟨k + 1, by omega, by go_num, HB9, HG⟩
        case measure => simp [intOf]; omega
    · obtain rfl : k = P.length := by omega
      have HR := Lib.hid (csF_miss (P := P) (Q := Q) fun j hj => hg.out j hj hj)
      go_wp2
      go_ret
      exact ⟨by rw [HR.out]; rfl, below_on HB8.out HB.out⟩
theorem rcs_any (A : Option Addr) (n c : Nat) (L : List CI) (a b : ByteArray) (w : World) (hn : L.length = n) (hc : n ≤ 1000000) (h : CIs w w.heap.size A L) :
    Calls Tryd.prog 26 #[.slice A n c, .string a, .string b] w fun e w' => e = .returned (.string (csV L a b)) ∧ Below w.heap.size w w' := by
  unfold csV
  cases h0 : (a.toList == b.toList) with
  | true => rw [if_pos rfl]; exact rcs_eq A n c L a b w hn hc h h0
  | false =>
    rw [if_neg (by simp)]
    cases h1 : fB L a with
    | false => rw [if_pos (Or.inl rfl)]; exact rcs_b1 A n c L a b w hn hc h h0 h1 _ rfl
    | true =>
      cases h2 : fB L b with
      | false => rw [if_pos (Or.inr (Or.inl rfl))]; exact rcs_b2 A n c L a b w hn hc h h0 h1 h2
      | true =>
        cases h3 : (lkC L a).isI with
        | true => rw [if_pos (Or.inr (Or.inr (Or.inl rfl)))]; exact rcs_b3 A n c L a b w hn hc h h0 h1 h2 h3
        | false =>
          cases h4 : (lkC L b).isI with
          | true => rw [if_pos (Or.inr (Or.inr (Or.inr rfl)))]; exact rcs_b4 A n c L a b w hn hc h h0 h1 h2 h3 h4
          | false => rw [if_neg (by simp)]; exact rcs_g A n c L a b w hn hc h h0 h1 h2 h3 h4
end Go.Proofs.YthifmcnemeiphaaDoor
