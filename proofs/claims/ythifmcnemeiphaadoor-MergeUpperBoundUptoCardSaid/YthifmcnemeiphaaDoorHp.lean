/- Layer 16: the reference's above and ifaces (written by gen/hp.py). -/
import Derived.Test.YthifmcnemeiphaaDoorHk
namespace Go.Proofs.YthifmcnemeiphaaDoor
open Go.ChangeShapes Go.WideShapes Go.ChangeAt Go.RowKit Go.PlainAid Go.Maps
set_option linter.unusedSimpArgs false
set_option linter.unusedVariables false



set_option maxRecDepth 100000 in
set_option maxHeartbeats 1000000 in
theorem ab_ct (A : Option Addr) (n c : Nat) (L : List CI) (x : CI) (w : World) (hn : L.length = n) (hc : n ≤ 1000000) (h : CIs w w.heap.size A L) (hx : x.ok w w.heap.size) (h3 : x.su.toList.isEmpty = true) (h3b : (x.nm.toList == rootL) = false) :
    Calls Tryd.prog 91 #[.slice A n c, (Value.agg #[Value.string (CI.nm x), Value.string (CI.su x), Value.slice (CI.iA x) (CI.n x) (CI.c x), Value.bool (CI.isI x)])] w fun e w' => e = .returned (.bool false) ∧ Below w.heap.size w w' := by
  have HL := Lib.hid h
  have HN := Lib.hid hn
  clear h hn hx
  go_enter Tryd.func91, Tryd.ntmps91
  go_upto_region 1 with fail
  have hbx := World.alloc_heap_new w (.cells #[.string x.nm, .string x.su, .slice x.iA x.n x.c, .bool x.isI] 30)
  have hB := below_al (Below.refl w.heap.size w) (.cells #[.string x.nm, .string x.su, .slice x.iA x.n x.c, .bool x.isI] 30)
  generalize w.alloc (.cells #[.string x.nm, .string x.su, .slice x.iA x.n x.c, .bool x.isI] 30) = W1 at hbx hB ⊢
  obtain ⟨⟨x0, x1, x2, x3⟩, _⟩ := four_cells hbx
  have hlw := lt_heap hbx
  have HLW := Lib.hid (HL.out.up hB)
  have HB := Lib.hid hB
  clear hbx hB
  go_wp2
  go_ret
  exact ⟨rfl, HB.out⟩
set_option maxRecDepth 100000 in
set_option maxHeartbeats 1000000 in
theorem ab_dt (A : Option Addr) (n c : Nat) (L : List CI) (x : CI) (w : World) (hn : L.length = n) (hc : n ≤ 1000000) (h : CIs w w.heap.size A L) (hx : x.ok w w.heap.size) (h3 : x.su.toList.isEmpty = true) (h3b : (x.nm.toList == rootL) = true) (h4 : x.isI = true) (h5 : (x.su.toList == rootL) = false) :
    Calls Tryd.prog 91 #[.slice A n c, (Value.agg #[Value.string (CI.nm x), Value.string (CI.su x), Value.slice (CI.iA x) (CI.n x) (CI.c x), Value.bool (CI.isI x)])] w fun e w' => e = .returned (.bool false) ∧ Below w.heap.size w w' := by
  have HL := Lib.hid h
  have HN := Lib.hid hn
  clear h hn hx
  have HI := Lib.hid h4
  clear h4
  go_enter Tryd.func91, Tryd.ntmps91
  go_upto_region 1 with fail
  have hbx := World.alloc_heap_new w (.cells #[.string x.nm, .string x.su, .slice x.iA x.n x.c, .bool x.isI] 30)
  have hB := below_al (Below.refl w.heap.size w) (.cells #[.string x.nm, .string x.su, .slice x.iA x.n x.c, .bool x.isI] 30)
  generalize w.alloc (.cells #[.string x.nm, .string x.su, .slice x.iA x.n x.c, .bool x.isI] 30) = W1 at hbx hB ⊢
  obtain ⟨⟨x0, x1, x2, x3⟩, _⟩ := four_cells hbx
  have hlw := lt_heap hbx
  have HLW := Lib.hid (HL.out.up hB)
  have HB := Lib.hid hB
  clear hbx hB
  have h4 := HI.out
  go_wp2
  go_ret
  exact ⟨rfl, HB.out⟩
set_option maxRecDepth 100000 in
set_option maxHeartbeats 1000000 in
theorem ab_cf (A : Option Addr) (n c : Nat) (L : List CI) (x : CI) (w : World) (hn : L.length = n) (hc : n ≤ 1000000) (h : CIs w w.heap.size A L) (hx : x.ok w w.heap.size) (h3 : x.su.toList.isEmpty = false) (h3b : (x.nm.toList == rootL) = true) :
    Calls Tryd.prog 91 #[.slice A n c, (Value.agg #[Value.string (CI.nm x), Value.string (CI.su x), Value.slice (CI.iA x) (CI.n x) (CI.c x), Value.bool (CI.isI x)])] w fun e w' => e = .returned (.bool false) ∧ Below w.heap.size w w' := by
  have HL := Lib.hid h
  have HN := Lib.hid hn
  clear h hn hx
  go_enter Tryd.func91, Tryd.ntmps91
  go_upto_region 1 with fail
  have hbx := World.alloc_heap_new w (.cells #[.string x.nm, .string x.su, .slice x.iA x.n x.c, .bool x.isI] 30)
  have hB := below_al (Below.refl w.heap.size w) (.cells #[.string x.nm, .string x.su, .slice x.iA x.n x.c, .bool x.isI] 30)
  generalize w.alloc (.cells #[.string x.nm, .string x.su, .slice x.iA x.n x.c, .bool x.isI] 30) = W1 at hbx hB ⊢
  obtain ⟨⟨x0, x1, x2, x3⟩, _⟩ := four_cells hbx
  have hlw := lt_heap hbx
  have HLW := Lib.hid (HL.out.up hB)
  have HB := Lib.hid hB
  clear hbx hB
  go_wp2
  go_ret
  exact ⟨rfl, HB.out⟩
set_option maxRecDepth 100000 in
set_option maxHeartbeats 1000000 in
theorem ab_df (A : Option Addr) (n c : Nat) (L : List CI) (x : CI) (w : World) (hn : L.length = n) (hc : n ≤ 1000000) (h : CIs w w.heap.size A L) (hx : x.ok w w.heap.size) (h3 : x.su.toList.isEmpty = false) (h3b : (x.nm.toList == rootL) = false) (h4 : x.isI = true) (h5 : (x.su.toList == rootL) = false) :
    Calls Tryd.prog 91 #[.slice A n c, (Value.agg #[Value.string (CI.nm x), Value.string (CI.su x), Value.slice (CI.iA x) (CI.n x) (CI.c x), Value.bool (CI.isI x)])] w fun e w' => e = .returned (.bool false) ∧ Below w.heap.size w w' := by
  have HL := Lib.hid h
  have HN := Lib.hid hn
  clear h hn hx
  have HI := Lib.hid h4
  clear h4
  go_enter Tryd.func91, Tryd.ntmps91
  go_upto_region 1 with fail
  have hbx := World.alloc_heap_new w (.cells #[.string x.nm, .string x.su, .slice x.iA x.n x.c, .bool x.isI] 30)
  have hB := below_al (Below.refl w.heap.size w) (.cells #[.string x.nm, .string x.su, .slice x.iA x.n x.c, .bool x.isI] 30)
  generalize w.alloc (.cells #[.string x.nm, .string x.su, .slice x.iA x.n x.c, .bool x.isI] 30) = W1 at hbx hB ⊢
  obtain ⟨⟨x0, x1, x2, x3⟩, _⟩ := four_cells hbx
  have hlw := lt_heap hbx
  have HLW := Lib.hid (HL.out.up hB)
  have HB := Lib.hid hB
  clear hbx hB
  have h4 := HI.out
  go_wp2
  go_ret
  exact ⟨rfl, HB.out⟩
set_option maxRecDepth 100000 in
set_option maxHeartbeats 1000000 in
theorem ab_g1 (A : Option Addr) (n c : Nat) (L : List CI) (x : CI) (w : World) (hn : L.length = n) (hc : n ≤ 1000000) (h : CIs w w.heap.size A L) (hx : x.ok w w.heap.size) (h3 : x.su.toList.isEmpty = true) (h3b : (x.nm.toList == rootL) = true) (h4 : x.isI = false) :
    Calls Tryd.prog 91 #[.slice A n c, (Value.agg #[Value.string (CI.nm x), Value.string (CI.su x), Value.slice (CI.iA x) (CI.n x) (CI.c x), Value.bool (CI.isI x)])] w fun e w' => e = .returned (.bool true) ∧ Below w.heap.size w w' := by
  have HL := Lib.hid h
  have HN := Lib.hid hn
  clear h hn hx
  have HI := Lib.hid h4
  clear h4
  go_enter Tryd.func91, Tryd.ntmps91
  go_upto_region 1 with fail
  have hbx := World.alloc_heap_new w (.cells #[.string x.nm, .string x.su, .slice x.iA x.n x.c, .bool x.isI] 30)
  have hB := below_al (Below.refl w.heap.size w) (.cells #[.string x.nm, .string x.su, .slice x.iA x.n x.c, .bool x.isI] 30)
  generalize w.alloc (.cells #[.string x.nm, .string x.su, .slice x.iA x.n x.c, .bool x.isI] 30) = W1 at hbx hB ⊢
  obtain ⟨⟨x0, x1, x2, x3⟩, _⟩ := four_cells hbx
  have hlw := lt_heap hbx
  have HLW := Lib.hid (HL.out.up hB)
  have HB := Lib.hid hB
  clear hbx hB
  have h4 := HI.out
  go_wp2
  go_ret
  exact ⟨rfl, HB.out⟩
set_option maxRecDepth 100000 in
set_option maxHeartbeats 1000000 in
theorem ab_e2 (A : Option Addr) (n c : Nat) (L : List CI) (x : CI) (w : World) (hn : L.length = n) (hc : n ≤ 1000000) (h : CIs w w.heap.size A L) (hx : x.ok w w.heap.size) (h3 : x.su.toList.isEmpty = false) (h3b : (x.nm.toList == rootL) = false) (h4 : x.isI = false) (h6 : fB L x.su = false) :
    Calls Tryd.prog 91 #[.slice A n c, (Value.agg #[Value.string (CI.nm x), Value.string (CI.su x), Value.slice (CI.iA x) (CI.n x) (CI.c x), Value.bool (CI.isI x)])] w fun e w' => e = .returned (.bool false) ∧ Below w.heap.size w w' := by
  have HL := Lib.hid h
  have HN := Lib.hid hn
  clear h hn hx
  have HI := Lib.hid h4
  clear h4
  go_enter Tryd.func91, Tryd.ntmps91
  go_upto_region 1 with fail
  have hbx := World.alloc_heap_new w (.cells #[.string x.nm, .string x.su, .slice x.iA x.n x.c, .bool x.isI] 30)
  have hB := below_al (Below.refl w.heap.size w) (.cells #[.string x.nm, .string x.su, .slice x.iA x.n x.c, .bool x.isI] 30)
  generalize w.alloc (.cells #[.string x.nm, .string x.su, .slice x.iA x.n x.c, .bool x.isI] 30) = W1 at hbx hB ⊢
  obtain ⟨⟨x0, x1, x2, x3⟩, _⟩ := four_cells hbx
  have hlw := lt_heap hbx
  have HLW := Lib.hid (HL.out.up hB)
  have HB := Lib.hid hB
  clear hbx hB
  have h4 := HI.out
  have HK := Lib.hid (fun (W : World) (hb : Below W1.heap.size W1 W) => by have q := rlookup_any A n c L x.su W HN.out (by omega) (HLW.out.up hb); rw [h6] at q; exact q)
  obtain ⟨y, hy⟩ : ∃ y, lkC L x.su = y := ⟨_, rfl⟩
  rw [hy] at HK
  clear hy h6
  go_wp2_with (go_at_call 21; (with_reducible refine (HK.out _ (Below.refl _ _)).mono ?_); rintro e w1 ⟨rfl, hb1⟩)
  go_ret
  exact ⟨rfl, below_al (below_on HB.out hb1) _⟩
set_option maxRecDepth 100000 in
set_option maxHeartbeats 1000000 in
theorem ab_f2 (A : Option Addr) (n c : Nat) (L : List CI) (x : CI) (w : World) (hn : L.length = n) (hc : n ≤ 1000000) (h : CIs w w.heap.size A L) (hx : x.ok w w.heap.size) (h3 : x.su.toList.isEmpty = false) (h3b : (x.nm.toList == rootL) = false) (h4 : x.isI = false) (h6 : fB L x.su = true) (h7 : (lkC L x.su).isI = true) :
    Calls Tryd.prog 91 #[.slice A n c, (Value.agg #[Value.string (CI.nm x), Value.string (CI.su x), Value.slice (CI.iA x) (CI.n x) (CI.c x), Value.bool (CI.isI x)])] w fun e w' => e = .returned (.bool false) ∧ Below w.heap.size w w' := by
  have HL := Lib.hid h
  have HN := Lib.hid hn
  clear h hn hx
  have HI := Lib.hid h4
  clear h4
  go_enter Tryd.func91, Tryd.ntmps91
  go_upto_region 1 with fail
  have hbx := World.alloc_heap_new w (.cells #[.string x.nm, .string x.su, .slice x.iA x.n x.c, .bool x.isI] 30)
  have hB := below_al (Below.refl w.heap.size w) (.cells #[.string x.nm, .string x.su, .slice x.iA x.n x.c, .bool x.isI] 30)
  generalize w.alloc (.cells #[.string x.nm, .string x.su, .slice x.iA x.n x.c, .bool x.isI] 30) = W1 at hbx hB ⊢
  obtain ⟨⟨x0, x1, x2, x3⟩, _⟩ := four_cells hbx
  have hlw := lt_heap hbx
  have HLW := Lib.hid (HL.out.up hB)
  have HB := Lib.hid hB
  clear hbx hB
  have h4 := HI.out
  have HK := Lib.hid (fun (W : World) (hb : Below W1.heap.size W1 W) => by have q := rlookup_any A n c L x.su W HN.out (by omega) (HLW.out.up hb); rw [h6] at q; exact q)
  obtain ⟨y, hy⟩ : ∃ y, lkC L x.su = y := ⟨_, rfl⟩
  rw [hy] at HK h7
  clear hy h6
  go_wp2_with (go_at_call 21; (with_reducible refine (HK.out _ (Below.refl _ _)).mono ?_); rintro e w1 ⟨rfl, hb1⟩)
  go_ret
  exact ⟨rfl, below_al (below_on HB.out hb1) _⟩
set_option maxRecDepth 100000 in
set_option maxHeartbeats 1000000 in
theorem ab_g2 (A : Option Addr) (n c : Nat) (L : List CI) (x : CI) (w : World) (hn : L.length = n) (hc : n ≤ 1000000) (h : CIs w w.heap.size A L) (hx : x.ok w w.heap.size) (h3 : x.su.toList.isEmpty = false) (h3b : (x.nm.toList == rootL) = false) (h4 : x.isI = false) (h6 : fB L x.su = true) (h7 : (lkC L x.su).isI = false) :
    Calls Tryd.prog 91 #[.slice A n c, (Value.agg #[Value.string (CI.nm x), Value.string (CI.su x), Value.slice (CI.iA x) (CI.n x) (CI.c x), Value.bool (CI.isI x)])] w fun e w' => e = .returned (.bool true) ∧ Below w.heap.size w w' := by
  have HL := Lib.hid h
  have HN := Lib.hid hn
  clear h hn hx
  have HI := Lib.hid h4
  clear h4
  go_enter Tryd.func91, Tryd.ntmps91
  go_upto_region 1 with fail
  have hbx := World.alloc_heap_new w (.cells #[.string x.nm, .string x.su, .slice x.iA x.n x.c, .bool x.isI] 30)
  have hB := below_al (Below.refl w.heap.size w) (.cells #[.string x.nm, .string x.su, .slice x.iA x.n x.c, .bool x.isI] 30)
  generalize w.alloc (.cells #[.string x.nm, .string x.su, .slice x.iA x.n x.c, .bool x.isI] 30) = W1 at hbx hB ⊢
  obtain ⟨⟨x0, x1, x2, x3⟩, _⟩ := four_cells hbx
  have hlw := lt_heap hbx
  have HLW := Lib.hid (HL.out.up hB)
  have HB := Lib.hid hB
  clear hbx hB
  have h4 := HI.out
  have HK := Lib.hid (fun (W : World) (hb : Below W1.heap.size W1 W) => by have q := rlookup_any A n c L x.su W HN.out (by omega) (HLW.out.up hb); rw [h6] at q; exact q)
  obtain ⟨y, hy⟩ : ∃ y, lkC L x.su = y := ⟨_, rfl⟩
  rw [hy] at HK h7
  clear hy h6
  go_wp2_with (go_at_call 21; (with_reducible refine (HK.out _ (Below.refl _ _)).mono ?_); rintro e w1 ⟨rfl, hb1⟩)
  go_ret
  exact ⟨rfl, below_al (below_on HB.out hb1) _⟩
set_option maxRecDepth 100000 in
set_option maxHeartbeats 1000000 in
theorem ab_e3 (A : Option Addr) (n c : Nat) (L : List CI) (x : CI) (w : World) (hn : L.length = n) (hc : n ≤ 1000000) (h : CIs w w.heap.size A L) (hx : x.ok w w.heap.size) (h3 : x.su.toList.isEmpty = false) (h3b : (x.nm.toList == rootL) = false) (h4 : x.isI = true) (h5 : (x.su.toList == rootL) = true) (h6 : fB L x.su = false) :
    Calls Tryd.prog 91 #[.slice A n c, (Value.agg #[Value.string (CI.nm x), Value.string (CI.su x), Value.slice (CI.iA x) (CI.n x) (CI.c x), Value.bool (CI.isI x)])] w fun e w' => e = .returned (.bool false) ∧ Below w.heap.size w w' := by
  have HL := Lib.hid h
  have HN := Lib.hid hn
  clear h hn hx
  have HI := Lib.hid h4
  clear h4
  go_enter Tryd.func91, Tryd.ntmps91
  go_upto_region 1 with fail
  have hbx := World.alloc_heap_new w (.cells #[.string x.nm, .string x.su, .slice x.iA x.n x.c, .bool x.isI] 30)
  have hB := below_al (Below.refl w.heap.size w) (.cells #[.string x.nm, .string x.su, .slice x.iA x.n x.c, .bool x.isI] 30)
  generalize w.alloc (.cells #[.string x.nm, .string x.su, .slice x.iA x.n x.c, .bool x.isI] 30) = W1 at hbx hB ⊢
  obtain ⟨⟨x0, x1, x2, x3⟩, _⟩ := four_cells hbx
  have hlw := lt_heap hbx
  have HLW := Lib.hid (HL.out.up hB)
  have HB := Lib.hid hB
  clear hbx hB
  have h4 := HI.out
  have HK := Lib.hid (fun (W : World) (hb : Below W1.heap.size W1 W) => by have q := rlookup_any A n c L x.su W HN.out (by omega) (HLW.out.up hb); rw [h6] at q; exact q)
  obtain ⟨y, hy⟩ : ∃ y, lkC L x.su = y := ⟨_, rfl⟩
  rw [hy] at HK
  clear hy h6
  go_wp2_with (go_at_call 21; (with_reducible refine (HK.out _ (Below.refl _ _)).mono ?_); rintro e w1 ⟨rfl, hb1⟩)
  go_ret
  exact ⟨rfl, below_al (below_on HB.out hb1) _⟩
set_option maxRecDepth 100000 in
set_option maxHeartbeats 1000000 in
theorem ab_f3 (A : Option Addr) (n c : Nat) (L : List CI) (x : CI) (w : World) (hn : L.length = n) (hc : n ≤ 1000000) (h : CIs w w.heap.size A L) (hx : x.ok w w.heap.size) (h3 : x.su.toList.isEmpty = false) (h3b : (x.nm.toList == rootL) = false) (h4 : x.isI = true) (h5 : (x.su.toList == rootL) = true) (h6 : fB L x.su = true) (h7 : (lkC L x.su).isI = true) :
    Calls Tryd.prog 91 #[.slice A n c, (Value.agg #[Value.string (CI.nm x), Value.string (CI.su x), Value.slice (CI.iA x) (CI.n x) (CI.c x), Value.bool (CI.isI x)])] w fun e w' => e = .returned (.bool false) ∧ Below w.heap.size w w' := by
  have HL := Lib.hid h
  have HN := Lib.hid hn
  clear h hn hx
  have HI := Lib.hid h4
  clear h4
  go_enter Tryd.func91, Tryd.ntmps91
  go_upto_region 1 with fail
  have hbx := World.alloc_heap_new w (.cells #[.string x.nm, .string x.su, .slice x.iA x.n x.c, .bool x.isI] 30)
  have hB := below_al (Below.refl w.heap.size w) (.cells #[.string x.nm, .string x.su, .slice x.iA x.n x.c, .bool x.isI] 30)
  generalize w.alloc (.cells #[.string x.nm, .string x.su, .slice x.iA x.n x.c, .bool x.isI] 30) = W1 at hbx hB ⊢
  obtain ⟨⟨x0, x1, x2, x3⟩, _⟩ := four_cells hbx
  have hlw := lt_heap hbx
  have HLW := Lib.hid (HL.out.up hB)
  have HB := Lib.hid hB
  clear hbx hB
  have h4 := HI.out
  have HK := Lib.hid (fun (W : World) (hb : Below W1.heap.size W1 W) => by have q := rlookup_any A n c L x.su W HN.out (by omega) (HLW.out.up hb); rw [h6] at q; exact q)
  obtain ⟨y, hy⟩ : ∃ y, lkC L x.su = y := ⟨_, rfl⟩
  rw [hy] at HK h7
  clear hy h6
  go_wp2_with (go_at_call 21; (with_reducible refine (HK.out _ (Below.refl _ _)).mono ?_); rintro e w1 ⟨rfl, hb1⟩)
  go_ret
  exact ⟨rfl, below_al (below_on HB.out hb1) _⟩
set_option maxRecDepth 100000 in
set_option maxHeartbeats 1000000 in
theorem ab_g3 (A : Option Addr) (n c : Nat) (L : List CI) (x : CI) (w : World) (hn : L.length = n) (hc : n ≤ 1000000) (h : CIs w w.heap.size A L) (hx : x.ok w w.heap.size) (h3 : x.su.toList.isEmpty = false) (h3b : (x.nm.toList == rootL) = false) (h4 : x.isI = true) (h5 : (x.su.toList == rootL) = true) (h6 : fB L x.su = true) (h7 : (lkC L x.su).isI = false) :
    Calls Tryd.prog 91 #[.slice A n c, (Value.agg #[Value.string (CI.nm x), Value.string (CI.su x), Value.slice (CI.iA x) (CI.n x) (CI.c x), Value.bool (CI.isI x)])] w fun e w' => e = .returned (.bool true) ∧ Below w.heap.size w w' := by
  have HL := Lib.hid h
  have HN := Lib.hid hn
  clear h hn hx
  have HI := Lib.hid h4
  clear h4
  go_enter Tryd.func91, Tryd.ntmps91
  go_upto_region 1 with fail
  have hbx := World.alloc_heap_new w (.cells #[.string x.nm, .string x.su, .slice x.iA x.n x.c, .bool x.isI] 30)
  have hB := below_al (Below.refl w.heap.size w) (.cells #[.string x.nm, .string x.su, .slice x.iA x.n x.c, .bool x.isI] 30)
  generalize w.alloc (.cells #[.string x.nm, .string x.su, .slice x.iA x.n x.c, .bool x.isI] 30) = W1 at hbx hB ⊢
  obtain ⟨⟨x0, x1, x2, x3⟩, _⟩ := four_cells hbx
  have hlw := lt_heap hbx
  have HLW := Lib.hid (HL.out.up hB)
  have HB := Lib.hid hB
  clear hbx hB
  have h4 := HI.out
  have HK := Lib.hid (fun (W : World) (hb : Below W1.heap.size W1 W) => by have q := rlookup_any A n c L x.su W HN.out (by omega) (HLW.out.up hb); rw [h6] at q; exact q)
  obtain ⟨y, hy⟩ : ∃ y, lkC L x.su = y := ⟨_, rfl⟩
  rw [hy] at HK h7
  clear hy h6
  go_wp2_with (go_at_call 21; (with_reducible refine (HK.out _ (Below.refl _ _)).mono ?_); rintro e w1 ⟨rfl, hb1⟩)
  go_ret
  exact ⟨rfl, below_al (below_on HB.out hb1) _⟩
def abB (L : List CI) (x : CI) : Bool := !decide (x.su.toList.isEmpty ≠ (x.nm.toList == rootL) ∨ (x.isI = true ∧ (x.su.toList == rootL) = false)) && !decide (x.su.toList.isEmpty = false ∧ (fB L x.su = false ∨ (lkC L x.su).isI = true))
set_option maxRecDepth 100000 in
theorem above_any (A : Option Addr) (n c : Nat) (L : List CI) (x : CI) (w : World) (hn : L.length = n) (hc : n ≤ 1000000) (h : CIs w w.heap.size A L) (hx : x.ok w w.heap.size) :
    Calls Tryd.prog 91 #[.slice A n c, (Value.agg #[Value.string (CI.nm x), Value.string (CI.su x), Value.slice (CI.iA x) (CI.n x) (CI.c x), Value.bool (CI.isI x)])] w fun e w' => e = .returned (.bool (abB L x)) ∧ Below w.heap.size w w' := by
  cases h3 : x.su.toList.isEmpty with
  | true =>
    cases h3b : (x.nm.toList == rootL) with
    | false => rw [show abB L x = false from by unfold abB; simp [h3, h3b]]; exact ab_ct A n c L x w hn hc h hx h3 h3b
    | true =>
      rcases Bool.eq_false_or_eq_true x.isI with h4 | h4
      · have h5 : (x.su.toList == rootL) = false := by
          cases hs : x.su.toList with
          | nil => rfl
          | cons a b => rw [hs] at h3; cases h3
        rw [show abB L x = false from by unfold abB; simp [h3, h3b, h4, h5]]; exact ab_dt A n c L x w hn hc h hx h3 h3b h4 h5
      · rw [show abB L x = true from by unfold abB; simp [h3, h3b, h4]]; exact ab_g1 A n c L x w hn hc h hx h3 h3b h4
  | false =>
    cases h3b : (x.nm.toList == rootL) with
    | true => rw [show abB L x = false from by unfold abB; simp [h3, h3b]]; exact ab_cf A n c L x w hn hc h hx h3 h3b
    | false =>
      rcases (Bool.eq_false_or_eq_true x.isI).symm with h4 | h4
      · cases h6 : fB L x.su with
        | false => rw [show abB L x = false from by unfold abB; simp [h3, h3b, h4, h6]]; exact ab_e2 A n c L x w hn hc h hx h3 h3b h4 h6
        | true =>
          cases h7 : (lkC L x.su).isI with
          | true => rw [show abB L x = false from by unfold abB; simp [h3, h3b, h4, h6, h7]]; exact ab_f2 A n c L x w hn hc h hx h3 h3b h4 h6 h7
          | false => rw [show abB L x = true from by unfold abB; simp [h3, h3b, h4, h6, h7]]; exact ab_g2 A n c L x w hn hc h hx h3 h3b h4 h6 h7
      · cases h5 : (x.su.toList == rootL) with
        | false => rw [show abB L x = false from by unfold abB; simp [h3, h3b, h4, h5]]; exact ab_df A n c L x w hn hc h hx h3 h3b h4 h5
        | true =>
          cases h6 : fB L x.su with
          | false => rw [show abB L x = false from by unfold abB; simp [h3, h3b, h4, h5, h6]]; exact ab_e3 A n c L x w hn hc h hx h3 h3b h4 h5 h6
          | true =>
            cases h7 : (lkC L x.su).isI with
            | true => rw [show abB L x = false from by unfold abB; simp [h3, h3b, h4, h5, h6, h7]]; exact ab_f3 A n c L x w hn hc h hx h3 h3b h4 h5 h6 h7
            | false => rw [show abB L x = true from by unfold abB; simp [h3, h3b, h4, h5, h6, h7]]; exact ab_g3 A n c L x w hn hc h hx h3 h3b h4 h5 h6 h7
end Go.Proofs.YthifmcnemeiphaaDoor
