/- Layer 16: CommonSuperclass of the package (written by gen/hz.py). -/
import Derived.Test.YthifmcnemeiphaaDoorHy
namespace Go.Proofs.YthifmcnemeiphaaDoor
open Go.ChangeShapes Go.WideShapes Go.ChangeAt Go.RowKit Go.PlainAid Go.Maps
set_option linter.unusedSimpArgs false
set_option linter.unusedVariables false

set_option maxRecDepth 100000 in
set_option maxHeartbeats 4000000 in
theorem cs_eq (A : Option Addr) (n c : Nat) (L : List CI) (a b : ByteArray) (w : World) (hn : L.length = n) (hc : n ≤ 1000000) (hv : VH L) (h : CIs w w.heap.size A L) (ha : a.size ≤ 9223372036854775807) (hb : b.size ≤ 9223372036854775807) (h0 : (a.toList == b.toList) = true) :
    Calls Tryd.prog 25 #[.slice A n c, .string a, .string b] w fun e w' => e = .returned (.string a) ∧ Below w.heap.size w w' := by
  have HL := Lib.hid h
  have HN := Lib.hid hn
  have HV := Lib.hid hv
  clear h hn hv
  go_enter Tryd.func25, Tryd.ntmps25
  go_wp2
  go_ret
  exact ⟨rfl, Below.refl _ _⟩
set_option maxRecDepth 100000 in
set_option maxHeartbeats 4000000 in
theorem cs_b1 (A : Option Addr) (n c : Nat) (L : List CI) (a b : ByteArray) (w : World) (hn : L.length = n) (hc : n ≤ 1000000) (hv : VH L) (h : CIs w w.heap.size A L) (ha : a.size ≤ 9223372036854775807) (hb : b.size ≤ 9223372036854775807) (h0 : (a.toList == b.toList) = false) (h1 : fB L a = false) (fb : Bool) (h2 : fB L b = fb) :
    Calls Tryd.prog 25 #[.slice A n c, .string a, .string b] w fun e w' => e = .returned (.string rootS) ∧ Below w.heap.size w w' := by
  have HL := Lib.hid h
  have HN := Lib.hid hn
  have HV := Lib.hid hv
  clear h hn hv
  have HK := Lib.hid (fun (s : ByteArray) (W : World) (hb : Below w.heap.size w W) => lookup_any A n c L s W HN.out (by omega) (HL.out.up hb))
  have HKa := Lib.hid (fun (W : World) (hb : Below w.heap.size w W) => by have q := HK.out a W hb; rw [h1] at q; exact q)
  have HKb := Lib.hid (fun (W : World) (hb : Below w.heap.size w W) => by have q := HK.out b W hb; rw [h2] at q; exact q)
  obtain ⟨x, hx⟩ : ∃ x, lkC L a = x := ⟨_, rfl⟩
  obtain ⟨y, hy⟩ : ∃ y, lkC L b = y := ⟨_, rfl⟩
  rw [hx] at HKa
  rw [hy] at HKb
  skip
  clear hx hy h1 h2
  have HI := Lib.hid (show True from trivial)
  skip
  go_enter Tryd.func25, Tryd.ntmps25
  go_upto_region 4 with (go_at_call 20; (with_reducible refine (HKa.out _ (Below.refl _ _)).mono ?_); rintro e w1 ⟨rfl, hb1⟩)
  have HBX := Lib.hid (World.alloc_heap_new w1 (.cells #[.string x.nm, .string x.su, .slice x.iA x.n x.c, .bool x.isI] 30))
  have HB2 := Lib.hid (below_al hb1 (.cells #[.string x.nm, .string x.su, .slice x.iA x.n x.c, .bool x.isI] 30))
  generalize w1.alloc (.cells #[.string x.nm, .string x.su, .slice x.iA x.n x.c, .bool x.isI] 30) = W2 at HBX HB2 ⊢
  generalize w1.heap.size = B7 at HBX ⊢
  clear hb1
  go_upto_region 5 with (go_at_call 20; (with_reducible refine (HKb.out _ HB2.out).mono ?_); rintro e w3 ⟨rfl, hb3⟩)
  have HBX3 := Lib.hid (laid_old (o' := (.cells #[.string y.nm, .string y.su, .slice y.iA y.n y.c, .bool y.isI] 30)) ((hb3.block B7 (lt_heap HBX.out)).trans HBX.out))
  have HBY := Lib.hid (World.alloc_heap_new w3 (.cells #[.string y.nm, .string y.su, .slice y.iA y.n y.c, .bool y.isI] 30))
  have HB4 := Lib.hid (below_al (below_on HB2.out hb3) (.cells #[.string y.nm, .string y.su, .slice y.iA y.n y.c, .bool y.isI] 30))
  generalize w3.alloc (.cells #[.string y.nm, .string y.su, .slice y.iA y.n y.c, .bool y.isI] 30) = W4 at HBX3 HBY HB4 ⊢
  generalize w3.heap.size = B9 at HBY ⊢
  obtain ⟨⟨x0, x1, x2, x3⟩, _⟩ := four_cells HBX3.out
  obtain ⟨⟨y0, y1, y2, y3⟩, _⟩ := four_cells HBY.out
  clear hb3
  skip
  go_wp2
  go_ret
  exact ⟨rfl, HB4.out⟩
set_option maxRecDepth 100000 in
set_option maxHeartbeats 4000000 in
theorem cs_b2 (A : Option Addr) (n c : Nat) (L : List CI) (a b : ByteArray) (w : World) (hn : L.length = n) (hc : n ≤ 1000000) (hv : VH L) (h : CIs w w.heap.size A L) (ha : a.size ≤ 9223372036854775807) (hb : b.size ≤ 9223372036854775807) (h0 : (a.toList == b.toList) = false) (h1 : fB L a = true) (h2 : fB L b = false) :
    Calls Tryd.prog 25 #[.slice A n c, .string a, .string b] w fun e w' => e = .returned (.string rootS) ∧ Below w.heap.size w w' := by
  have HL := Lib.hid h
  have HN := Lib.hid hn
  have HV := Lib.hid hv
  clear h hn hv
  have HK := Lib.hid (fun (s : ByteArray) (W : World) (hb : Below w.heap.size w W) => lookup_any A n c L s W HN.out (by omega) (HL.out.up hb))
  have HKa := Lib.hid (fun (W : World) (hb : Below w.heap.size w W) => by have q := HK.out a W hb; rw [h1] at q; exact q)
  have HKb := Lib.hid (fun (W : World) (hb : Below w.heap.size w W) => by have q := HK.out b W hb; rw [h2] at q; exact q)
  obtain ⟨x, hx⟩ : ∃ x, lkC L a = x := ⟨_, rfl⟩
  obtain ⟨y, hy⟩ : ∃ y, lkC L b = y := ⟨_, rfl⟩
  rw [hx] at HKa
  rw [hy] at HKb
  skip
  clear hx hy h1 h2
  have HI := Lib.hid (show True from trivial)
  skip
  go_enter Tryd.func25, Tryd.ntmps25
  go_upto_region 4 with (go_at_call 20; (with_reducible refine (HKa.out _ (Below.refl _ _)).mono ?_); rintro e w1 ⟨rfl, hb1⟩)
  have HBX := Lib.hid (World.alloc_heap_new w1 (.cells #[.string x.nm, .string x.su, .slice x.iA x.n x.c, .bool x.isI] 30))
  have HB2 := Lib.hid (below_al hb1 (.cells #[.string x.nm, .string x.su, .slice x.iA x.n x.c, .bool x.isI] 30))
  generalize w1.alloc (.cells #[.string x.nm, .string x.su, .slice x.iA x.n x.c, .bool x.isI] 30) = W2 at HBX HB2 ⊢
  generalize w1.heap.size = B7 at HBX ⊢
  clear hb1
  go_upto_region 5 with (go_at_call 20; (with_reducible refine (HKb.out _ HB2.out).mono ?_); rintro e w3 ⟨rfl, hb3⟩)
  have HBX3 := Lib.hid (laid_old (o' := (.cells #[.string y.nm, .string y.su, .slice y.iA y.n y.c, .bool y.isI] 30)) ((hb3.block B7 (lt_heap HBX.out)).trans HBX.out))
  have HBY := Lib.hid (World.alloc_heap_new w3 (.cells #[.string y.nm, .string y.su, .slice y.iA y.n y.c, .bool y.isI] 30))
  have HB4 := Lib.hid (below_al (below_on HB2.out hb3) (.cells #[.string y.nm, .string y.su, .slice y.iA y.n y.c, .bool y.isI] 30))
  generalize w3.alloc (.cells #[.string y.nm, .string y.su, .slice y.iA y.n y.c, .bool y.isI] 30) = W4 at HBX3 HBY HB4 ⊢
  generalize w3.heap.size = B9 at HBY ⊢
  obtain ⟨⟨x0, x1, x2, x3⟩, _⟩ := four_cells HBX3.out
  obtain ⟨⟨y0, y1, y2, y3⟩, _⟩ := four_cells HBY.out
  clear hb3
  skip
  go_wp2
  go_ret
  exact ⟨rfl, HB4.out⟩
set_option maxRecDepth 100000 in
set_option maxHeartbeats 4000000 in
theorem cs_b3 (A : Option Addr) (n c : Nat) (L : List CI) (a b : ByteArray) (w : World) (hn : L.length = n) (hc : n ≤ 1000000) (hv : VH L) (h : CIs w w.heap.size A L) (ha : a.size ≤ 9223372036854775807) (hb : b.size ≤ 9223372036854775807) (h0 : (a.toList == b.toList) = false) (h1 : fB L a = true) (h2 : fB L b = true) (h3 : (lkC L a).isI = true) :
    Calls Tryd.prog 25 #[.slice A n c, .string a, .string b] w fun e w' => e = .returned (.string rootS) ∧ Below w.heap.size w w' := by
  have HL := Lib.hid h
  have HN := Lib.hid hn
  have HV := Lib.hid hv
  clear h hn hv
  have HK := Lib.hid (fun (s : ByteArray) (W : World) (hb : Below w.heap.size w W) => lookup_any A n c L s W HN.out (by omega) (HL.out.up hb))
  have HKa := Lib.hid (fun (W : World) (hb : Below w.heap.size w W) => by have q := HK.out a W hb; rw [h1] at q; exact q)
  have HKb := Lib.hid (fun (W : World) (hb : Below w.heap.size w W) => by have q := HK.out b W hb; rw [h2] at q; exact q)
  obtain ⟨x, hx⟩ : ∃ x, lkC L a = x := ⟨_, rfl⟩
  obtain ⟨y, hy⟩ : ∃ y, lkC L b = y := ⟨_, rfl⟩
  rw [hx] at HKa
  rw [hy] at HKb
  rw [hx] at h3
  clear hx hy h1 h2
  have HI := Lib.hid (show True from trivial)
  have H3 := Lib.hid h3
  clear h3
  go_enter Tryd.func25, Tryd.ntmps25
  go_upto_region 4 with (go_at_call 20; (with_reducible refine (HKa.out _ (Below.refl _ _)).mono ?_); rintro e w1 ⟨rfl, hb1⟩)
  have HBX := Lib.hid (World.alloc_heap_new w1 (.cells #[.string x.nm, .string x.su, .slice x.iA x.n x.c, .bool x.isI] 30))
  have HB2 := Lib.hid (below_al hb1 (.cells #[.string x.nm, .string x.su, .slice x.iA x.n x.c, .bool x.isI] 30))
  generalize w1.alloc (.cells #[.string x.nm, .string x.su, .slice x.iA x.n x.c, .bool x.isI] 30) = W2 at HBX HB2 ⊢
  generalize w1.heap.size = B7 at HBX ⊢
  clear hb1
  go_upto_region 5 with (go_at_call 20; (with_reducible refine (HKb.out _ HB2.out).mono ?_); rintro e w3 ⟨rfl, hb3⟩)
  have HBX3 := Lib.hid (laid_old (o' := (.cells #[.string y.nm, .string y.su, .slice y.iA y.n y.c, .bool y.isI] 30)) ((hb3.block B7 (lt_heap HBX.out)).trans HBX.out))
  have HBY := Lib.hid (World.alloc_heap_new w3 (.cells #[.string y.nm, .string y.su, .slice y.iA y.n y.c, .bool y.isI] 30))
  have HB4 := Lib.hid (below_al (below_on HB2.out hb3) (.cells #[.string y.nm, .string y.su, .slice y.iA y.n y.c, .bool y.isI] 30))
  generalize w3.alloc (.cells #[.string y.nm, .string y.su, .slice y.iA y.n y.c, .bool y.isI] 30) = W4 at HBX3 HBY HB4 ⊢
  generalize w3.heap.size = B9 at HBY ⊢
  obtain ⟨⟨x0, x1, x2, x3⟩, _⟩ := four_cells HBX3.out
  obtain ⟨⟨y0, y1, y2, y3⟩, _⟩ := four_cells HBY.out
  clear hb3
  have h3 := H3.out
  go_wp2
  go_ret
  exact ⟨rfl, HB4.out⟩
set_option maxRecDepth 100000 in
set_option maxHeartbeats 4000000 in
theorem cs_b4 (A : Option Addr) (n c : Nat) (L : List CI) (a b : ByteArray) (w : World) (hn : L.length = n) (hc : n ≤ 1000000) (hv : VH L) (h : CIs w w.heap.size A L) (ha : a.size ≤ 9223372036854775807) (hb : b.size ≤ 9223372036854775807) (h0 : (a.toList == b.toList) = false) (h1 : fB L a = true) (h2 : fB L b = true) (h3 : (lkC L a).isI = false) (h4 : (lkC L b).isI = true) :
    Calls Tryd.prog 25 #[.slice A n c, .string a, .string b] w fun e w' => e = .returned (.string rootS) ∧ Below w.heap.size w w' := by
  have HL := Lib.hid h
  have HN := Lib.hid hn
  have HV := Lib.hid hv
  clear h hn hv
  have HK := Lib.hid (fun (s : ByteArray) (W : World) (hb : Below w.heap.size w W) => lookup_any A n c L s W HN.out (by omega) (HL.out.up hb))
  have HKa := Lib.hid (fun (W : World) (hb : Below w.heap.size w W) => by have q := HK.out a W hb; rw [h1] at q; exact q)
  have HKb := Lib.hid (fun (W : World) (hb : Below w.heap.size w W) => by have q := HK.out b W hb; rw [h2] at q; exact q)
  obtain ⟨x, hx⟩ : ∃ x, lkC L a = x := ⟨_, rfl⟩
  obtain ⟨y, hy⟩ : ∃ y, lkC L b = y := ⟨_, rfl⟩
  rw [hx] at HKa
  rw [hy] at HKb
  rw [hx] at h3
  rw [hy] at h4
  clear hx hy h1 h2
  have HI := Lib.hid (show True from trivial)
  have H3 := Lib.hid h3
  have H4 := Lib.hid h4
  clear h3 h4
  go_enter Tryd.func25, Tryd.ntmps25
  go_upto_region 4 with (go_at_call 20; (with_reducible refine (HKa.out _ (Below.refl _ _)).mono ?_); rintro e w1 ⟨rfl, hb1⟩)
  have HBX := Lib.hid (World.alloc_heap_new w1 (.cells #[.string x.nm, .string x.su, .slice x.iA x.n x.c, .bool x.isI] 30))
  have HB2 := Lib.hid (below_al hb1 (.cells #[.string x.nm, .string x.su, .slice x.iA x.n x.c, .bool x.isI] 30))
  generalize w1.alloc (.cells #[.string x.nm, .string x.su, .slice x.iA x.n x.c, .bool x.isI] 30) = W2 at HBX HB2 ⊢
  generalize w1.heap.size = B7 at HBX ⊢
  clear hb1
  go_upto_region 5 with (go_at_call 20; (with_reducible refine (HKb.out _ HB2.out).mono ?_); rintro e w3 ⟨rfl, hb3⟩)
  have HBX3 := Lib.hid (laid_old (o' := (.cells #[.string y.nm, .string y.su, .slice y.iA y.n y.c, .bool y.isI] 30)) ((hb3.block B7 (lt_heap HBX.out)).trans HBX.out))
  have HBY := Lib.hid (World.alloc_heap_new w3 (.cells #[.string y.nm, .string y.su, .slice y.iA y.n y.c, .bool y.isI] 30))
  have HB4 := Lib.hid (below_al (below_on HB2.out hb3) (.cells #[.string y.nm, .string y.su, .slice y.iA y.n y.c, .bool y.isI] 30))
  generalize w3.alloc (.cells #[.string y.nm, .string y.su, .slice y.iA y.n y.c, .bool y.isI] 30) = W4 at HBX3 HBY HB4 ⊢
  generalize w3.heap.size = B9 at HBY ⊢
  obtain ⟨⟨x0, x1, x2, x3⟩, _⟩ := four_cells HBX3.out
  obtain ⟨⟨y0, y1, y2, y3⟩, _⟩ := four_cells HBY.out
  clear hb3
  have h3 := H3.out
  have h4 := H4.out
  go_wp2
  go_ret
  exact ⟨rfl, HB4.out⟩
set_option maxRecDepth 100000 in
set_option maxHeartbeats 4000000 in
theorem cs_g (A : Option Addr) (n c : Nat) (L : List CI) (a b : ByteArray) (w : World) (hn : L.length = n) (hc : n ≤ 1000000) (hv : VH L) (h : CIs w w.heap.size A L) (ha : a.size ≤ 9223372036854775807) (hb : b.size ≤ 9223372036854775807) (h0 : (a.toList == b.toList) = false) (h1 : fB L a = true) (h2 : fB L b = true) (h3 : (lkC L a).isI = false) (h4 : (lkC L b).isI = false) :
    Calls Tryd.prog 25 #[.slice A n c, .string a, .string b] w fun e w' => e = .returned (.string (csF (supL L a) (supL L b))) ∧ Below w.heap.size w w' := by
  have HL := Lib.hid h
  have HN := Lib.hid hn
  have HV := Lib.hid hv
  clear h hn hv
  have HK := Lib.hid (fun (s : ByteArray) (W : World) (hb : Below w.heap.size w W) => lookup_any A n c L s W HN.out (by omega) (HL.out.up hb))
  have HKa := Lib.hid (fun (W : World) (hb : Below w.heap.size w W) => by have q := HK.out a W hb; rw [h1] at q; exact q)
  have HKb := Lib.hid (fun (W : World) (hb : Below w.heap.size w W) => by have q := HK.out b W hb; rw [h2] at q; exact q)
  obtain ⟨x, hx⟩ : ∃ x, lkC L a = x := ⟨_, rfl⟩
  obtain ⟨y, hy⟩ : ∃ y, lkC L b = y := ⟨_, rfl⟩
  rw [hx] at HKa
  rw [hy] at HKb
  rw [hx] at h3
  rw [hy] at h4
  clear hx hy h1 h2
  have HI := Lib.hid (show True from trivial)
  have H3 := Lib.hid h3
  have H4 := Lib.hid h4
  clear h3 h4
  have HP := Lib.hid (fun s hs => chain_size (w := w) HL.out (L.length + 1) b hb s hs)
  have HLB := Lib.hid (chain_len L (L.length + 1) b)
  have HLA := Lib.hid (chain_len L (L.length + 1) a)
  have HPA := Lib.hid (fun s hs => chain_size (w := w) HL.out (L.length + 1) a ha s hs)
  change Hid (∀ s, s ∈ supL L b → _) at HP
  change Hid (∀ s, s ∈ supL L a → _) at HPA
  change Hid ((supL L b).length ≤ _) at HLB
  change Hid ((supL L a).length ≤ _) at HLA
  have HSA := Lib.hid (fun (W : World) (hb : Below w.heap.size w W) => sup_any A n c L a W HN.out hc HV.out (HL.out.up hb) ha)
  have HSB := Lib.hid (fun (W : World) (hb' : Below w.heap.size w W) => sup_any A n c L b W HN.out hc HV.out (HL.out.up hb') hb)
  obtain ⟨Q, hQ⟩ : ∃ Q, supL L b = Q := ⟨_, rfl⟩
  obtain ⟨P, hP⟩ : ∃ P, supL L a = P := ⟨_, rfl⟩
  rw [hQ] at HP HLB HSB ⊢
  rw [hP] at HPA HLA HSA ⊢
  rw [HN.out] at HLB HLA
  clear hQ hP
  go_enter Tryd.func25, Tryd.ntmps25
  go_upto_region 4 with (go_at_call 20; (with_reducible refine (HKa.out _ (Below.refl _ _)).mono ?_); rintro e w1 ⟨rfl, hb1⟩)
  have HBX := Lib.hid (World.alloc_heap_new w1 (.cells #[.string x.nm, .string x.su, .slice x.iA x.n x.c, .bool x.isI] 30))
  have HB2 := Lib.hid (below_al hb1 (.cells #[.string x.nm, .string x.su, .slice x.iA x.n x.c, .bool x.isI] 30))
  generalize w1.alloc (.cells #[.string x.nm, .string x.su, .slice x.iA x.n x.c, .bool x.isI] 30) = W2 at HBX HB2 ⊢
  generalize w1.heap.size = B7 at HBX ⊢
  clear hb1
  go_upto_region 5 with (go_at_call 20; (with_reducible refine (HKb.out _ HB2.out).mono ?_); rintro e w3 ⟨rfl, hb3⟩)
  have HBX3 := Lib.hid (laid_old (o' := (.cells #[.string y.nm, .string y.su, .slice y.iA y.n y.c, .bool y.isI] 30)) ((hb3.block B7 (lt_heap HBX.out)).trans HBX.out))
  have HBY := Lib.hid (World.alloc_heap_new w3 (.cells #[.string y.nm, .string y.su, .slice y.iA y.n y.c, .bool y.isI] 30))
  have HB4 := Lib.hid (below_al (below_on HB2.out hb3) (.cells #[.string y.nm, .string y.su, .slice y.iA y.n y.c, .bool y.isI] 30))
  generalize w3.alloc (.cells #[.string y.nm, .string y.su, .slice y.iA y.n y.c, .bool y.isI] 30) = W4 at HBX3 HBY HB4 ⊢
  generalize w3.heap.size = B9 at HBY ⊢
  obtain ⟨⟨x0, x1, x2, x3⟩, _⟩ := four_cells HBX3.out
  obtain ⟨⟨y0, y1, y2, y3⟩, _⟩ := four_cells HBY.out
  clear hb3
  have h3 := H3.out
  have h4 := H4.out
  have hmm := @run_makeMap Tryd.prog
  go_upto_region 8 with fail
  clear x0 x1 x2 x3 y0 y1 y2 y3
  have HS0 := Lib.hid (set_made W4)
  have HB5 := Lib.hid (below_al HB4.out (.map #[] 0))
  have hmb : W4.heap.size < (W4.alloc (.map #[] 0)).heap.size := by simp
  have hlo4 := HB4.out.size
  generalize W4.alloc (.map #[] 0) = W5 at HS0 HB5 hmb ⊢
  generalize W4.heap.size = mB at HS0 hmb hlo4 ⊢
  clear hmm
  have hql := HLB.out
  have hpl := HLA.out
  go_wp2_with (go_at_call 28; (with_reducible refine (HSB.out _ HB5.out).mono ?_); rintro e w6 ⟨v6, rfl, ho6, hb6⟩; obtain ⟨qA, qc, rfl, hqc1, hqc2⟩ := own_shape ho6; have HO6 := Lib.hid ho6; have HB6 := Lib.hid (below_on HB5.out hb6); have HS6 := Lib.hid (HS0.out.below hb6); have hm6 := Nat.lt_of_lt_of_le hmb hb6.size; clear ho6 hb6)
  go_loopw [51] (fun jv wr => ∃ k : Nat, k ≤ Q.length ∧ jv = .int .i64 k ∧ Hid (SetOf wr mB k (Q.take k)) ∧ Hid (wr.ownsRow W5.heap.size 9 1 (.slice qA Q.length qc) Q.length (strs Q)) ∧ Hid (Below w.heap.size w wr)) (fun jv _ => Q.length - (intOf jv).toNat)
  case atStart => exact ⟨0, Nat.zero_le _, rfl, by rw [List.take_zero]; exact HS6, HO6, HB6⟩
  case round =>
    obtain ⟨k, hk, rfl, HS, HO, HB⟩ := hrel
    clear HS0 HS6 HO6
    by_cases hlt : k < Q.length
    · obtain ⟨g, rfl, hcell, hgl, hgb⟩ := str_at HO.out hlt rfl
      have hsz := HP.out Q[k] (List.getElem_mem hlt)
      obtain ⟨s, hs⟩ : ∃ s, Q[k] = s := ⟨_, rfl⟩
      have HSS := Lib.hid (show Q.take (k + 1) = Q.take k ++ [s] by rw [List.take_succ_eq_append_getElem hlt, hs])
      rw [hs] at hcell hsz
      clear hs
      obtain ⟨D, hD1, hD2, hD3⟩ := HS.out
      have HD2 := Lib.hid hD2
      have HD3 := Lib.hid hD3
      clear hD2 hD3
      go_wp2_with (at_mapUpdate; refine wpList_mapUpdate_own _ rfl _ _ _ 74 rfl 9 4 (Maps.string_keyed Tryd.underlying9) Tryd.underlying74 _ mB k D rfl hD1 (by unfold maxLen; omega) _ _ _ rfl rfl (set_key hsz) _ [] (plainElem_bool Tryd.underlying4 true) ?_; intro w7 hown7 hgrow7)
      have HS7 := Lib.hid (show SetOf w7 mB (k + 1) (Q.take (k + 1)) by rw [HSS.out]; exact SetOf.put HD2.out HD3.out hown7)
      have HO7 := Lib.hid (HO.out.kept hgrow7 (Or.inr (fun e => by have : g = mB := Option.some.inj e; omega)))
      have HB7 := Lib.hid (HB.out.grown hgrow7 HB.out.size (fun q hq => by have := Option.some.inj hq; omega))
      clear hown7 hgrow7 hD1
      go_roundw
      case rel => exact ⟨k + 1, by omega, by go_num, HS7, HO7, HB7⟩
      case measure => simp [intOf]; omega
    · obtain rfl : k = Q.length := by omega
      have HSQ := Lib.hid (show SetOf wr mB Q.length Q by have := HS.out; rwa [List.take_of_length_le (Nat.le_refl _)] at this)
      clear HO HS
      have hmw := HSQ.out.lt
      go_upto_region 14 with (go_at_call 28; (with_reducible refine (HSA.out _ HB.out).mono ?_); rintro e w8 ⟨v8, rfl, ho8, hb8⟩; obtain ⟨pA, pc, rfl, hpc1, hpc2⟩ := own_shape ho8; have HO8 := Lib.hid ho8; have HB8 := Lib.hid (below_on HB.out hb8); have HS8 := Lib.hid (HSQ.out.below hb8); clear ho8 hb8)
      go_loop [62] (fun jv => ∃ k : Nat, k ≤ P.length ∧ jv = .int .i64 k ∧ Hid (∀ j (hj : j < k) (hl : j < P.length), hasL Q P[j] = false)) (fun jv => P.length - (intOf jv).toNat)
      case atStart => exact ⟨0, Nat.zero_le _, rfl, Lib.hid fun j hj => absurd hj (Nat.not_lt_zero _)⟩
      case round =>
        obtain ⟨k, hk, rfl, hg⟩ := hrel
        by_cases hlt2 : k < P.length
        · obtain ⟨g, rfl, hcell, hgl, hgb⟩ := str_at HO8.out hlt2 rfl
          have hsz := HPA.out P[k] (List.getElem_mem hlt2)
          have hlk := HS8.out.look hsz
          rw [hasS_L] at hlk
          cases hh : hasL Q P[k] with
          | true =>
            have HR := Lib.hid (csF_hit hlt2 (fun j hj => hg.out j hj (by omega)) hh)
            rw [hh] at hlk
            clear hh
            go_wp2
            go_ret
            exact ⟨by rw [HR.out]; rfl, HB8.out⟩
          | false =>
            have HG := Lib.hid (show ∀ j (hj : j < k + 1) (hl : j < P.length), hasL Q P[j] = false from fun j hj hl => by
              rcases Nat.lt_or_ge j k with h | h
              · exact hg.out j h hl
              · obtain rfl : j = k := by omega
                exact hh)
            rw [hh] at hlk
            clear hh
            go_wp2
            go_round
            case rel => exact ⟨k + 1, by omega, by go_num, HG⟩
            case measure => simp [intOf]; omega
        · obtain rfl : k = P.length := by omega
          have HR := Lib.hid (csF_miss (P := P) (Q := Q) fun j hj => hg.out j hj hj)
          go_wp2
          go_ret
          exact ⟨by rw [HR.out]; rfl, HB8.out⟩
theorem cs_any (A : Option Addr) (n c : Nat) (L : List CI) (a b : ByteArray) (w : World) (hn : L.length = n) (hc : n ≤ 1000000) (hv : VH L) (h : CIs w w.heap.size A L) (ha : a.size ≤ 9223372036854775807) (hb : b.size ≤ 9223372036854775807) :
    Calls Tryd.prog 25 #[.slice A n c, .string a, .string b] w fun e w' => e = .returned (.string (csV L a b)) ∧ Below w.heap.size w w' := by
  unfold csV
  cases h0 : (a.toList == b.toList) with
  | true => rw [if_pos rfl]; exact cs_eq A n c L a b w hn hc hv h ha hb h0
  | false =>
    rw [if_neg (by simp)]
    cases h1 : fB L a with
    | false => rw [if_pos (Or.inl rfl)]; exact cs_b1 A n c L a b w hn hc hv h ha hb h0 h1 _ rfl
    | true =>
      cases h2 : fB L b with
      | false => rw [if_pos (Or.inr (Or.inl rfl))]; exact cs_b2 A n c L a b w hn hc hv h ha hb h0 h1 h2
      | true =>
        cases h3 : (lkC L a).isI with
        | true => rw [if_pos (Or.inr (Or.inr (Or.inl rfl)))]; exact cs_b3 A n c L a b w hn hc hv h ha hb h0 h1 h2 h3
        | false =>
          cases h4 : (lkC L b).isI with
          | true => rw [if_pos (Or.inr (Or.inr (Or.inr rfl)))]; exact cs_b4 A n c L a b w hn hc hv h ha hb h0 h1 h2 h3 h4
          | false => rw [if_neg (by simp)]; exact cs_g A n c L a b w hn hc hv h ha hb h0 h1 h2 h3 h4
end Go.Proofs.YthifmcnemeiphaaDoor
