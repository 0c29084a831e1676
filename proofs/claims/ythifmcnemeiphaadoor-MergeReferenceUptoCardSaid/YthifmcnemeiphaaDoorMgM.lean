import Derived.Test.YthifmcnemeiphaaDoorHv
import Derived.Test.YthifmcnemeiphaaDoorHx
import Derived.Test.YthifmcnemeiphaaDoorHy
import Derived.Test.YthifmcnemeiphaaDoorMbM
import Derived.Test.YthifmcnemeiphaaDoorMcM
import Derived.Test.YthifmcnemeiphaaDoorMfM
import Derived.Test.YthifmcnemeiphaaDoorIM
import Derived.Deep.RegionHeld3
import Derived.Deep.DrawnRows

/- Hw -/
/- Layer 16: the reference's Superclasses. -/
namespace Go.Proofs.YthifmcnemeiphaaDoor
open Go.ChangeShapes Go.WideShapes Go.ChangeAt Go.RowKit Go.PlainAid Go.Maps
set_option linter.unusedSimpArgs false
set_option linter.unusedVariables false

structure RsInv (L : List CI) (n : Nat) (a : ByteArray) (w : World) (v : Value) (S : List ByteArray) (b : ByteArray) (wr : World) : Prop where
  tot : supL L a = S ++ chain L (n + 1 - S.length) b
  len : S.length ≤ n + 1
  own : wr.ownsRow w.heap.size 9 1 v S.length (strs S)
  bel : Below w.heap.size w wr
set_option maxRecDepth 100000 in
set_option maxHeartbeats 4000000 in
theorem rsup_any (A : Option Addr) (n c : Nat) (L : List CI) (a : ByteArray) (w : World) (hn : L.length = n) (hc : n ≤ 1000000) (h : CIs w w.heap.size A L) :
    Calls Tryd.prog 29 #[.slice A n c, .string a] w (StrOwn w (supL L a)) := by
  have HL := Lib.hid h
  have HN := Lib.hid hn
  clear h hn
  go_enter Tryd.func29, Tryd.ntmps29
  go_upto_region 2 with fail
  have own0 := own_strs_nil (base := w.heap.size) w (Nat.le_refl _)
  have hb0 := below_al (Below.refl w.heap.size w) (.cells #[] 9)
  generalize w.alloc (.cells #[] 9) = W at own0 hb0 ⊢
  have HST := Lib.hid (show RsInv L n a w (.slice (some ⟨w.heap.size, 0, none⟩) 0 0) [] a W from ⟨by unfold supL; rw [HN.out]; rfl, Nat.zero_le _, own0, hb0⟩)
  clear own0 hb0
  go_wp2
  go_loopw [5, 6, 7] (fun v bv iv wr => ∃ (b : ByteArray) (S : List ByteArray), bv = .string b ∧ iv = .int .i64 (S.length : Int) ∧ Hid (RsInv L n a w v S b wr)) (fun _ _ iv _ => n + 1 - (intOf iv).toNat)
  case atStart => exact ⟨a, [], rfl, rfl, HST⟩
  case round =>
    obtain ⟨b, S, rfl, rfl, HI⟩ := hrel
    obtain ⟨vA, vc, rfl, hvc1, hvc2⟩ := own_shape HI.out.own
    have hle := HI.out.len
    clear HST
    obtain ⟨k, hk⟩ : ∃ k, S.length = k := ⟨_, rfl⟩
    have HK := Lib.hid hk
    by_cases hlt : k ≤ n
    · have hkk : S.length ≤ n := by omega
      have HL1 := Lib.hid (rlookup_any A n c L b wr HN.out (by omega) (HL.out.up HI.out.bel))
      obtain ⟨y, hy⟩ : ∃ y, lkC L b = y := ⟨_, rfl⟩
      have HY := Lib.hid hy
      rw [hy] at HL1
      rw [hk] at hvc1 ⊢
      clear hk hy hle hkk
      cases hf : fB L b with
      | false =>
        rw [hf] at HL1
        have HT := Lib.hid (show supL L a = S by rw [HI.out.tot, chain_no hf, List.append_nil])
        clear hf
        go_wp2_with (go_at_call 21; (with_reducible refine (HL1.out).mono ?_); rintro e w1 ⟨rfl, hb1⟩)
        go_ret
        rw [HT.out]
        exact ⟨.slice vA k vc, rfl, by have := (own_bel HI.out.own hb1).alloc (.cells #[.string y.nm, .string y.su, .slice y.iA y.n y.c, .bool y.isI] 30); rw [HK.out] at this ⊢; exact this, below_al (below_on HI.out.bel hb1) _⟩
      | true =>
        rw [hf] at HL1
        have HF := Lib.hid hf
        clear hf
        go_upto_region 9 with (go_at_call 21; (with_reducible refine (HL1.out).mono ?_); rintro e w1 ⟨rfl, hb1⟩)
        have HB1 := Lib.hid hb1
        have hbx := World.alloc_heap_new w1 (.cells #[.string y.nm, .string y.su, .slice y.iA y.n y.c, .bool y.isI] 30)
        have HO2 := Lib.hid (show (w1.alloc (.cells #[.string y.nm, .string y.su, .slice y.iA y.n y.c, .bool y.isI] 30)).ownsRow w.heap.size 9 1 (.slice vA k vc) k (strs S) from by have := (own_bel HI.out.own hb1).alloc (.cells #[.string y.nm, .string y.su, .slice y.iA y.n y.c, .bool y.isI] 30); rw [HK.out] at this; exact this)
        have HB2 := Lib.hid (below_al (below_on HI.out.bel hb1) (.cells #[.string y.nm, .string y.su, .slice y.iA y.n y.c, .bool y.isI] 30))
        generalize w1.alloc (.cells #[.string y.nm, .string y.su, .slice y.iA y.n y.c, .bool y.isI] 30) = W2 at hbx HO2 HB2 ⊢
        generalize w1.heap.size = B8 at hbx ⊢
        have HBX := Lib.hid hbx
        have hlb := lt_heap hbx
        clear hb1 hbx
        go_upto_region 10 with (at_builtin; refine wpList_append_strs rfl _ _ rfl w.heap.size k 1 1 (W2.heap.size + 1) S [b] (.slice vA k vc) (some ⟨W2.heap.size, 0, none⟩) rfl (HO2.out.alloc _) rfl (srow_new _ _) rfl (fun h => by cases h) (by omega) (by rw [World.size_alloc]; have := HB2.out.size; omega) ?_; intro v' w3 hown hgrow)
        obtain ⟨g', cap', rfl⟩ := ownsRow_succ hown
        have hbx3 := (hgrow.block B8 (by rw [World.size_alloc]; omega) (Boxed.not_rowC HBX.out (by decide) HO2.out)).trans (laid_old HBX.out)
        obtain ⟨⟨x0, x1, x2, x3⟩, _⟩ := four_cells hbx3
        have J := Lib.hid (show RsInv L n a w (.slice (some ⟨g', 0, none⟩) (k + 1) cap') (S ++ [b]) y.su w3 from by
          refine ⟨?_, ?_, ?_, ?_⟩
          · rw [HI.out.tot, List.append_assoc, List.length_append, List.length_singleton, HK.out]
            congr 1
            rw [show n + 1 - k = (n - k) + 1 by omega, chain_yes HF.out, HY.out, show n + 1 - (k + 1) = n - k by omega]
            rfl
          · rw [List.length_append, List.length_singleton, HK.out]; omega
          · rw [List.length_append, List.length_singleton, HK.out]; exact hown
          · exact (below_al HB2.out _).grown hgrow (by rw [World.size_alloc]; have := HB2.out.size; omega) (fun q hq => (HO2.out.lt q hq).1))
        have HJL := Lib.hid (show (S ++ [b]).length = k + 1 by rw [List.length_append, List.length_singleton, HK.out])
        clear hown hgrow hbx3
        go_wp2
        go_roundw
        case rel => exact ⟨y.su, S ++ [b], rfl, by rw [HJL.out]; go_num, J⟩
        case measure => simp [intOf]; omega
    · obtain rfl : k = n + 1 := by omega
      have HT := Lib.hid (show supL L a = S by rw [HI.out.tot, hk, Nat.sub_self]; exact List.append_nil _)
      rw [hk]
      clear hk hle
      have hgt : ¬ ((n + 1 : Nat) : Int) ≤ n := by omega
      go_wp2
      go_ret
      rw [HT.out]
      exact ⟨.slice vA (n + 1) vc, rfl, by have := HI.out.own; rw [HK.out] at this ⊢; exact this, HI.out.bel⟩
end Go.Proofs.YthifmcnemeiphaaDoor

/- Ig -/
/- Layer 16: CommonSuperclass of the reference (written by gen/ig.py). -/
namespace Go.Proofs.YthifmcnemeiphaaDoor
open Go.ChangeShapes Go.WideShapes Go.ChangeAt Go.RowKit Go.PlainAid Go.Maps
set_option linter.unusedSimpArgs false
set_option linter.unusedVariables false

set_option maxRecDepth 100000 in
set_option maxHeartbeats 4000000 in
theorem rcs_eq (A : Option Addr) (n c : Nat) (L : List CI) (a b : ByteArray) (w : World) (hn : L.length = n) (hc : n ≤ 1000000) (h : CIs w w.heap.size A L) (h0 : (a.toList == b.toList) = true) :
    Calls Tryd.prog 26 #[.slice A n c, .string a, .string b] w fun e w' => e = .returned (.string a) ∧ Below w.heap.size w w' := by
  have HL := Lib.hid h
  have HN := Lib.hid hn
  clear h hn
  go_enter Tryd.func26, Tryd.ntmps26
  go_wp2
  go_ret
  exact ⟨rfl, Below.refl _ _⟩
set_option maxRecDepth 100000 in
set_option maxHeartbeats 4000000 in
theorem rcs_b1 (A : Option Addr) (n c : Nat) (L : List CI) (a b : ByteArray) (w : World) (hn : L.length = n) (hc : n ≤ 1000000) (h : CIs w w.heap.size A L) (h0 : (a.toList == b.toList) = false) (h1 : fB L a = false) (fb : Bool) (h2 : fB L b = fb) :
    Calls Tryd.prog 26 #[.slice A n c, .string a, .string b] w fun e w' => e = .returned (.string rootS) ∧ Below w.heap.size w w' := by
  have HL := Lib.hid h
  have HN := Lib.hid hn
  clear h hn
  have HK := Lib.hid (fun (s : ByteArray) (W : World) (hb : Below w.heap.size w W) => rlookup_any A n c L s W HN.out (by omega) (HL.out.up hb))
  have HKa := Lib.hid (fun (W : World) (hb : Below w.heap.size w W) => by have q := HK.out a W hb; rw [h1] at q; exact q)
  have HKb := Lib.hid (fun (W : World) (hb : Below w.heap.size w W) => by have q := HK.out b W hb; rw [h2] at q; exact q)
  obtain ⟨x, hx⟩ : ∃ x, lkC L a = x := ⟨_, rfl⟩
  obtain ⟨y, hy⟩ : ∃ y, lkC L b = y := ⟨_, rfl⟩
  rw [hx] at HKa
  rw [hy] at HKb
  skip
  clear hx hy h1 h2
  have HI := Lib.hid (show True from trivial)
  skip
  go_enter Tryd.func26, Tryd.ntmps26
  go_upto_region 4 with (go_at_call 21; (with_reducible refine (HKa.out _ (Below.refl _ _)).mono ?_); rintro e w1 ⟨rfl, hb1⟩)
  have HBX := Lib.hid (World.alloc_heap_new w1 (.cells #[.string x.nm, .string x.su, .slice x.iA x.n x.c, .bool x.isI] 30))
  have HB2 := Lib.hid (below_al hb1 (.cells #[.string x.nm, .string x.su, .slice x.iA x.n x.c, .bool x.isI] 30))
  generalize w1.alloc (.cells #[.string x.nm, .string x.su, .slice x.iA x.n x.c, .bool x.isI] 30) = W2 at HBX HB2 ⊢
  generalize w1.heap.size = B7 at HBX ⊢
  clear hb1
  go_upto_region 5 with (go_at_call 21; (with_reducible refine (HKb.out _ HB2.out).mono ?_); rintro e w3 ⟨rfl, hb3⟩)
  have HBX3 := Lib.hid (laid_old (o' := (.cells #[.string y.nm, .string y.su, .slice y.iA y.n y.c, .bool y.isI] 30)) ((hb3.block B7 (lt_heap HBX.out)).trans HBX.out))
  have HBY := Lib.hid (World.alloc_heap_new w3 (.cells #[.string y.nm, .string y.su, .slice y.iA y.n y.c, .bool y.isI] 30))
  have HB4 := Lib.hid (below_al (below_on HB2.out hb3) (.cells #[.string y.nm, .string y.su, .slice y.iA y.n y.c, .bool y.isI] 30))
  generalize w3.alloc (.cells #[.string y.nm, .string y.su, .slice y.iA y.n y.c, .bool y.isI] 30) = W4 at HBX3 HBY HB4 ⊢
  generalize w3.heap.size = B9 at HBY ⊢
  obtain ⟨⟨x0, x1, x2, x3⟩, _⟩ := four_cells HBX3.out
  obtain ⟨⟨y0, y1, y2, y3⟩, _⟩ := four_cells HBY.out
  clear hb3
  skip
  go_wp2
  go_ret
  exact ⟨rfl, HB4.out⟩
set_option maxRecDepth 100000 in
set_option maxHeartbeats 4000000 in
theorem rcs_b2 (A : Option Addr) (n c : Nat) (L : List CI) (a b : ByteArray) (w : World) (hn : L.length = n) (hc : n ≤ 1000000) (h : CIs w w.heap.size A L) (h0 : (a.toList == b.toList) = false) (h1 : fB L a = true) (h2 : fB L b = false) :
    Calls Tryd.prog 26 #[.slice A n c, .string a, .string b] w fun e w' => e = .returned (.string rootS) ∧ Below w.heap.size w w' := by
  have HL := Lib.hid h
  have HN := Lib.hid hn
  clear h hn
  have HK := Lib.hid (fun (s : ByteArray) (W : World) (hb : Below w.heap.size w W) => rlookup_any A n c L s W HN.out (by omega) (HL.out.up hb))
  have HKa := Lib.hid (fun (W : World) (hb : Below w.heap.size w W) => by have q := HK.out a W hb; rw [h1] at q; exact q)
  have HKb := Lib.hid (fun (W : World) (hb : Below w.heap.size w W) => by have q := HK.out b W hb; rw [h2] at q; exact q)
  obtain ⟨x, hx⟩ : ∃ x, lkC L a = x := ⟨_, rfl⟩
  obtain ⟨y, hy⟩ : ∃ y, lkC L b = y := ⟨_, rfl⟩
  rw [hx] at HKa
  rw [hy] at HKb
  skip
  clear hx hy h1 h2
  have HI := Lib.hid (show True from trivial)
  skip
  go_enter Tryd.func26, Tryd.ntmps26
  go_upto_region 4 with (go_at_call 21; (with_reducible refine (HKa.out _ (Below.refl _ _)).mono ?_); rintro e w1 ⟨rfl, hb1⟩)
  have HBX := Lib.hid (World.alloc_heap_new w1 (.cells #[.string x.nm, .string x.su, .slice x.iA x.n x.c, .bool x.isI] 30))
  have HB2 := Lib.hid (below_al hb1 (.cells #[.string x.nm, .string x.su, .slice x.iA x.n x.c, .bool x.isI] 30))
  generalize w1.alloc (.cells #[.string x.nm, .string x.su, .slice x.iA x.n x.c, .bool x.isI] 30) = W2 at HBX HB2 ⊢
  generalize w1.heap.size = B7 at HBX ⊢
  clear hb1
  go_upto_region 5 with (go_at_call 21; (with_reducible refine (HKb.out _ HB2.out).mono ?_); rintro e w3 ⟨rfl, hb3⟩)
  have HBX3 := Lib.hid (laid_old (o' := (.cells #[.string y.nm, .string y.su, .slice y.iA y.n y.c, .bool y.isI] 30)) ((hb3.block B7 (lt_heap HBX.out)).trans HBX.out))
  have HBY := Lib.hid (World.alloc_heap_new w3 (.cells #[.string y.nm, .string y.su, .slice y.iA y.n y.c, .bool y.isI] 30))
  have HB4 := Lib.hid (below_al (below_on HB2.out hb3) (.cells #[.string y.nm, .string y.su, .slice y.iA y.n y.c, .bool y.isI] 30))
  generalize w3.alloc (.cells #[.string y.nm, .string y.su, .slice y.iA y.n y.c, .bool y.isI] 30) = W4 at HBX3 HBY HB4 ⊢
  generalize w3.heap.size = B9 at HBY ⊢
  obtain ⟨⟨x0, x1, x2, x3⟩, _⟩ := four_cells HBX3.out
  obtain ⟨⟨y0, y1, y2, y3⟩, _⟩ := four_cells HBY.out
  clear hb3
  skip
  go_wp2
  go_ret
  exact ⟨rfl, HB4.out⟩
set_option maxRecDepth 100000 in
set_option maxHeartbeats 4000000 in
theorem rcs_b3 (A : Option Addr) (n c : Nat) (L : List CI) (a b : ByteArray) (w : World) (hn : L.length = n) (hc : n ≤ 1000000) (h : CIs w w.heap.size A L) (h0 : (a.toList == b.toList) = false) (h1 : fB L a = true) (h2 : fB L b = true) (h3 : (lkC L a).isI = true) :
    Calls Tryd.prog 26 #[.slice A n c, .string a, .string b] w fun e w' => e = .returned (.string rootS) ∧ Below w.heap.size w w' := by
  have HL := Lib.hid h
  have HN := Lib.hid hn
  clear h hn
  have HK := Lib.hid (fun (s : ByteArray) (W : World) (hb : Below w.heap.size w W) => rlookup_any A n c L s W HN.out (by omega) (HL.out.up hb))
  have HKa := Lib.hid (fun (W : World) (hb : Below w.heap.size w W) => by have q := HK.out a W hb; rw [h1] at q; exact q)
  have HKb := Lib.hid (fun (W : World) (hb : Below w.heap.size w W) => by have q := HK.out b W hb; rw [h2] at q; exact q)
  obtain ⟨x, hx⟩ : ∃ x, lkC L a = x := ⟨_, rfl⟩
  obtain ⟨y, hy⟩ : ∃ y, lkC L b = y := ⟨_, rfl⟩
  rw [hx] at HKa
  rw [hy] at HKb
  rw [hx] at h3
  clear hx hy h1 h2
  have HI := Lib.hid (show True from trivial)
  have H3 := Lib.hid h3
  clear h3
  go_enter Tryd.func26, Tryd.ntmps26
  go_upto_region 4 with (go_at_call 21; (with_reducible refine (HKa.out _ (Below.refl _ _)).mono ?_); rintro e w1 ⟨rfl, hb1⟩)
  have HBX := Lib.hid (World.alloc_heap_new w1 (.cells #[.string x.nm, .string x.su, .slice x.iA x.n x.c, .bool x.isI] 30))
  have HB2 := Lib.hid (below_al hb1 (.cells #[.string x.nm, .string x.su, .slice x.iA x.n x.c, .bool x.isI] 30))
  generalize w1.alloc (.cells #[.string x.nm, .string x.su, .slice x.iA x.n x.c, .bool x.isI] 30) = W2 at HBX HB2 ⊢
  generalize w1.heap.size = B7 at HBX ⊢
  clear hb1
  go_upto_region 5 with (go_at_call 21; (with_reducible refine (HKb.out _ HB2.out).mono ?_); rintro e w3 ⟨rfl, hb3⟩)
  have HBX3 := Lib.hid (laid_old (o' := (.cells #[.string y.nm, .string y.su, .slice y.iA y.n y.c, .bool y.isI] 30)) ((hb3.block B7 (lt_heap HBX.out)).trans HBX.out))
  have HBY := Lib.hid (World.alloc_heap_new w3 (.cells #[.string y.nm, .string y.su, .slice y.iA y.n y.c, .bool y.isI] 30))
  have HB4 := Lib.hid (below_al (below_on HB2.out hb3) (.cells #[.string y.nm, .string y.su, .slice y.iA y.n y.c, .bool y.isI] 30))
  generalize w3.alloc (.cells #[.string y.nm, .string y.su, .slice y.iA y.n y.c, .bool y.isI] 30) = W4 at HBX3 HBY HB4 ⊢
  generalize w3.heap.size = B9 at HBY ⊢
  obtain ⟨⟨x0, x1, x2, x3⟩, _⟩ := four_cells HBX3.out
  obtain ⟨⟨y0, y1, y2, y3⟩, _⟩ := four_cells HBY.out
  clear hb3
  have h3 := H3.out
  go_wp2
  go_ret
  exact ⟨rfl, HB4.out⟩
set_option maxRecDepth 100000 in
set_option maxHeartbeats 4000000 in
theorem rcs_b4 (A : Option Addr) (n c : Nat) (L : List CI) (a b : ByteArray) (w : World) (hn : L.length = n) (hc : n ≤ 1000000) (h : CIs w w.heap.size A L) (h0 : (a.toList == b.toList) = false) (h1 : fB L a = true) (h2 : fB L b = true) (h3 : (lkC L a).isI = false) (h4 : (lkC L b).isI = true) :
    Calls Tryd.prog 26 #[.slice A n c, .string a, .string b] w fun e w' => e = .returned (.string rootS) ∧ Below w.heap.size w w' := by
  have HL := Lib.hid h
  have HN := Lib.hid hn
  clear h hn
  have HK := Lib.hid (fun (s : ByteArray) (W : World) (hb : Below w.heap.size w W) => rlookup_any A n c L s W HN.out (by omega) (HL.out.up hb))
  have HKa := Lib.hid (fun (W : World) (hb : Below w.heap.size w W) => by have q := HK.out a W hb; rw [h1] at q; exact q)
  have HKb := Lib.hid (fun (W : World) (hb : Below w.heap.size w W) => by have q := HK.out b W hb; rw [h2] at q; exact q)
  obtain ⟨x, hx⟩ : ∃ x, lkC L a = x := ⟨_, rfl⟩
  obtain ⟨y, hy⟩ : ∃ y, lkC L b = y := ⟨_, rfl⟩
  rw [hx] at HKa
  rw [hy] at HKb
  rw [hx] at h3
  rw [hy] at h4
  clear hx hy h1 h2
  have HI := Lib.hid (show True from trivial)
  have H3 := Lib.hid h3
  have H4 := Lib.hid h4
  clear h3 h4
  go_enter Tryd.func26, Tryd.ntmps26
  go_upto_region 4 with (go_at_call 21; (with_reducible refine (HKa.out _ (Below.refl _ _)).mono ?_); rintro e w1 ⟨rfl, hb1⟩)
  have HBX := Lib.hid (World.alloc_heap_new w1 (.cells #[.string x.nm, .string x.su, .slice x.iA x.n x.c, .bool x.isI] 30))
  have HB2 := Lib.hid (below_al hb1 (.cells #[.string x.nm, .string x.su, .slice x.iA x.n x.c, .bool x.isI] 30))
  generalize w1.alloc (.cells #[.string x.nm, .string x.su, .slice x.iA x.n x.c, .bool x.isI] 30) = W2 at HBX HB2 ⊢
  generalize w1.heap.size = B7 at HBX ⊢
  clear hb1
  go_upto_region 5 with (go_at_call 21; (with_reducible refine (HKb.out _ HB2.out).mono ?_); rintro e w3 ⟨rfl, hb3⟩)
  have HBX3 := Lib.hid (laid_old (o' := (.cells #[.string y.nm, .string y.su, .slice y.iA y.n y.c, .bool y.isI] 30)) ((hb3.block B7 (lt_heap HBX.out)).trans HBX.out))
  have HBY := Lib.hid (World.alloc_heap_new w3 (.cells #[.string y.nm, .string y.su, .slice y.iA y.n y.c, .bool y.isI] 30))
  have HB4 := Lib.hid (below_al (below_on HB2.out hb3) (.cells #[.string y.nm, .string y.su, .slice y.iA y.n y.c, .bool y.isI] 30))
  generalize w3.alloc (.cells #[.string y.nm, .string y.su, .slice y.iA y.n y.c, .bool y.isI] 30) = W4 at HBX3 HBY HB4 ⊢
  generalize w3.heap.size = B9 at HBY ⊢
  obtain ⟨⟨x0, x1, x2, x3⟩, _⟩ := four_cells HBX3.out
  obtain ⟨⟨y0, y1, y2, y3⟩, _⟩ := four_cells HBY.out
  clear hb3
  have h3 := H3.out
  have h4 := H4.out
  go_wp2
  go_ret
  exact ⟨rfl, HB4.out⟩
set_option maxRecDepth 100000 in
set_option maxHeartbeats 4000000 in
theorem rcs_g (A : Option Addr) (n c : Nat) (L : List CI) (a b : ByteArray) (w : World) (hn : L.length = n) (hc : n ≤ 1000000) (h : CIs w w.heap.size A L) (h0 : (a.toList == b.toList) = false) (h1 : fB L a = true) (h2 : fB L b = true) (h3 : (lkC L a).isI = false) (h4 : (lkC L b).isI = false) :
    Calls Tryd.prog 26 #[.slice A n c, .string a, .string b] w fun e w' => e = .returned (.string (csF (supL L a) (supL L b))) ∧ Below w.heap.size w w' := by
  have HL := Lib.hid h
  have HN := Lib.hid hn
  clear h hn
  have HK := Lib.hid (fun (s : ByteArray) (W : World) (hb : Below w.heap.size w W) => rlookup_any A n c L s W HN.out (by omega) (HL.out.up hb))
  have HKa := Lib.hid (fun (W : World) (hb : Below w.heap.size w W) => by have q := HK.out a W hb; rw [h1] at q; exact q)
  have HKb := Lib.hid (fun (W : World) (hb : Below w.heap.size w W) => by have q := HK.out b W hb; rw [h2] at q; exact q)
  obtain ⟨x, hx⟩ : ∃ x, lkC L a = x := ⟨_, rfl⟩
  obtain ⟨y, hy⟩ : ∃ y, lkC L b = y := ⟨_, rfl⟩
  rw [hx] at HKa
  rw [hy] at HKb
  rw [hx] at h3
  rw [hy] at h4
  clear hx hy h1 h2
  have HI := Lib.hid (show True from trivial)
  have H3 := Lib.hid h3
  have H4 := Lib.hid h4
  clear h3 h4
  have HLB := Lib.hid (chain_len L (L.length + 1) b)
  have HLA := Lib.hid (chain_len L (L.length + 1) a)
  change Hid ((supL L b).length ≤ _) at HLB
  change Hid ((supL L a).length ≤ _) at HLA
  have HSA := Lib.hid (fun (W : World) (hb : Below w.heap.size w W) => rsup_any A n c L a W HN.out hc (HL.out.up hb))
  have HSB := Lib.hid (fun (W : World) (hb' : Below w.heap.size w W) => rsup_any A n c L b W HN.out hc (HL.out.up hb'))
  obtain ⟨Q, hQ⟩ : ∃ Q, supL L b = Q := ⟨_, rfl⟩
  obtain ⟨P, hP⟩ : ∃ P, supL L a = P := ⟨_, rfl⟩
  rw [hQ] at HLB HSB ⊢
  rw [hP] at HLA HSA ⊢
  rw [HN.out] at HLB HLA
  clear hQ hP
  go_enter Tryd.func26, Tryd.ntmps26
  go_upto_region 4 with (go_at_call 21; (with_reducible refine (HKa.out _ (Below.refl _ _)).mono ?_); rintro e w1 ⟨rfl, hb1⟩)
  have HBX := Lib.hid (World.alloc_heap_new w1 (.cells #[.string x.nm, .string x.su, .slice x.iA x.n x.c, .bool x.isI] 30))
  have HB2 := Lib.hid (below_al hb1 (.cells #[.string x.nm, .string x.su, .slice x.iA x.n x.c, .bool x.isI] 30))
  generalize w1.alloc (.cells #[.string x.nm, .string x.su, .slice x.iA x.n x.c, .bool x.isI] 30) = W2 at HBX HB2 ⊢
  generalize w1.heap.size = B7 at HBX ⊢
  clear hb1
  go_upto_region 5 with (go_at_call 21; (with_reducible refine (HKb.out _ HB2.out).mono ?_); rintro e w3 ⟨rfl, hb3⟩)
  have HBX3 := Lib.hid (laid_old (o' := (.cells #[.string y.nm, .string y.su, .slice y.iA y.n y.c, .bool y.isI] 30)) ((hb3.block B7 (lt_heap HBX.out)).trans HBX.out))
  have HBY := Lib.hid (World.alloc_heap_new w3 (.cells #[.string y.nm, .string y.su, .slice y.iA y.n y.c, .bool y.isI] 30))
  have HB4 := Lib.hid (below_al (below_on HB2.out hb3) (.cells #[.string y.nm, .string y.su, .slice y.iA y.n y.c, .bool y.isI] 30))
  generalize w3.alloc (.cells #[.string y.nm, .string y.su, .slice y.iA y.n y.c, .bool y.isI] 30) = W4 at HBX3 HBY HB4 ⊢
  generalize w3.heap.size = B9 at HBY ⊢
  obtain ⟨⟨x0, x1, x2, x3⟩, _⟩ := four_cells HBX3.out
  obtain ⟨⟨y0, y1, y2, y3⟩, _⟩ := four_cells HBY.out
  clear hb3
  have h3 := H3.out
  have h4 := H4.out
  have hql := HLB.out
  have hpl := HLA.out
  go_upto_region 8 with (first
    | (go_at_call 29; (with_reducible refine (HSA.out _ HB4.out).mono ?_); rintro e w6 ⟨v6, rfl, ho6, hb6⟩; obtain ⟨pA, pc, rfl, hpc1, hpc2⟩ := own_shape ho6; have HO6 := Lib.hid ho6; have HB6 := Lib.hid (below_on HB4.out hb6); clear ho6 hb6)
    | (go_at_call 29; (with_reducible refine (HSB.out _ HB6.out).mono ?_); rintro e w8 ⟨v8, rfl, ho8, hb8⟩; obtain ⟨qA, qc, rfl, hqc1, hqc2⟩ := own_shape ho8; have HO8 := Lib.hid ho8; have HP8 := Lib.hid (own_bel HO6.out hb8); have HB8 := Lib.hid (below_on HB6.out hb8); clear ho8 hb8))
  clear x0 x1 x2 x3 y0 y1 y2 y3
  go_wp2
  go_loopw [13] (fun jv wr => ∃ k : Nat, k ≤ P.length ∧ jv = .int .i64 k ∧ Hid (Below w8.heap.size w8 wr) ∧ Hid (∀ j (hj : j < k) (hl : j < P.length), hasL Q P[j] = false)) (fun jv _ => P.length - (intOf jv).toNat)
  case atStart => exact ⟨0, Nat.zero_le _, rfl, Lib.hid (Below.refl _ _), Lib.hid fun j hj => absurd hj (Nat.not_lt_zero _)⟩
  case round =>
    obtain ⟨k, hk, rfl, HB, hg⟩ := hrel
    by_cases hlt2 : k < P.length
    · obtain ⟨g, rfl, hcell, hgl, hgb⟩ := str_at (own_bel HP8.out HB.out) hlt2 rfl
      have HSQ := Lib.hid (SRow.of_own (own_bel HO8.out HB.out)).1
      have hcs : wr.cell? ⟨g, k, none⟩ = some (.string P[k]) := hcell
      have HH := Lib.hid (has_any qA Q.length qc Q P[k] wr rfl (by omega) HSQ.out)
      have HCS := Lib.hid hcs
      cases hh : hasL Q P[k] with
      | true =>
        have HR := Lib.hid (csF_hit hlt2 (fun j hj => hg.out j hj (by omega)) hh)
        rw [hh] at HH
        clear hh
        go_wp2_with (go_at_call 59; (with_reducible refine (HH.out).mono ?_); rintro e w9 ⟨rfl, hb9⟩; have HB9 := Lib.hid (below_on HB.out hb9); have hc9 := (hb9.cell (p := ⟨g, k, none⟩) hgl).trans HCS.out; clear hb9)
        go_ret
        exact ⟨by rw [HR.out]; rfl, below_on HB8.out HB9.out⟩
      | false =>
        have HG := Lib.hid (show ∀ j (hj : j < k + 1) (hl : j < P.length), hasL Q P[j] = false from fun j hj hl => by
          rcases Nat.lt_or_ge j k with h | h
          · exact hg.out j h hl
          · obtain rfl : j = k := by omega
            exact hh)
        rw [hh] at HH
        clear hh
        go_wp2_with (go_at_call 59; (with_reducible refine (HH.out).mono ?_); rintro e w9 ⟨rfl, hb9⟩; have HB9 := Lib.hid (below_on HB.out hb9); clear hb9)
        go_roundw
        case rel => exact ⟨k + 1, by omega, by go_num, HB9, HG⟩
        case measure => simp [intOf]; omega
    · obtain rfl : k = P.length := by omega
      have HR := Lib.hid (csF_miss (P := P) (Q := Q) fun j hj => hg.out j hj hj)
      go_wp2
      go_ret
      exact ⟨by rw [HR.out]; rfl, below_on HB8.out HB.out⟩
theorem rcs_any (A : Option Addr) (n c : Nat) (L : List CI) (a b : ByteArray) (w : World) (hn : L.length = n) (hc : n ≤ 1000000) (h : CIs w w.heap.size A L) :
    Calls Tryd.prog 26 #[.slice A n c, .string a, .string b] w fun e w' => e = .returned (.string (csV L a b)) ∧ Below w.heap.size w w' := by
  unfold csV
  cases h0 : (a.toList == b.toList) with
  | true => rw [if_pos rfl]; exact rcs_eq A n c L a b w hn hc h h0
  | false =>
    rw [if_neg (by simp)]
    cases h1 : fB L a with
    | false => rw [if_pos (Or.inl rfl)]; exact rcs_b1 A n c L a b w hn hc h h0 h1 _ rfl
    | true =>
      cases h2 : fB L b with
      | false => rw [if_pos (Or.inr (Or.inl rfl))]; exact rcs_b2 A n c L a b w hn hc h h0 h1 h2
      | true =>
        cases h3 : (lkC L a).isI with
        | true => rw [if_pos (Or.inr (Or.inr (Or.inl rfl)))]; exact rcs_b3 A n c L a b w hn hc h h0 h1 h2 h3
        | false =>
          cases h4 : (lkC L b).isI with
          | true => rw [if_pos (Or.inr (Or.inr (Or.inr rfl)))]; exact rcs_b4 A n c L a b w hn hc h h0 h1 h2 h3 h4
          | false => rw [if_neg (by simp)]; exact rcs_g A n c L a b w hn hc h h0 h1 h2 h3 h4
end Go.Proofs.YthifmcnemeiphaaDoor

/- Mg -/
/- Layer 18: Types and VTypes at every argument, in the package and in its reference. -/
namespace Go.Proofs.YthifmcnemeiphaaDoor
open Go.ChangeShapes Go.WideShapes Go.ChangeAt Go.RowKit Go.PlainAid Go.Maps
set_option linter.unusedSimpArgs false
set_option linter.unusedVariables false

theorem TY.ref_b {x : TY} (h : x.ref = true) : (∃ d s, x = ⟨d, 76, s⟩) ∨ ¬ x.b = 76 := by
  by_cases hb : x.b = 76
  · exact Or.inl ⟨x.d, x.s, by cases x; simp only at hb; rw [hb]⟩
  · exact Or.inr hb
theorem TY.ref_cls {d : Int} {s : ByteArray} (h : (TY.mk d 76 s).ref = true) : clsB s = true := by
  unfold TY.ref at h
  rw [Bool.and_eq_true] at h
  have h1 := h.1
  rw [valid_in (valid_bd h1)] at h1
  simpa using h1
theorem cls_ne {s : ByteArray} (h : clsB s = true) : s.toList.isEmpty = false := by
  cases hs : s.toList with
  | cons _ _ => rfl
  | nil => rw [s_nil.2 hs, empty_cls] at h; cases h
theorem chain_cls {L : List CI} (hv : VH L) {s : ByteArray} (h : fB L s = true) : clsB s = true := by
  obtain ⟨_, hl⟩ := fI_of h
  have := (hv.all (List.getElem?_eq_getElem hl)).1
  rwa [fnd_nm hl] at this
theorem root_cls : clsB rootS = true := by decide +kernel
theorem csV_cls {L : List CI} (hv : VH L) {a b : ByteArray} (ha : clsB a = true) : clsB (csV L a b) = true := by
  unfold csV
  split
  · exact ha
  · split
    · exact root_cls
    · unfold csF
      cases hf : (supL L a).find? (fun s => hasL (supL L b) s) with
      | none => exact root_cls
      | some x => exact chain_cls hv (chain_found _ _ x (List.mem_of_find?_eq_some hf))
theorem tyJ_bad1 {L : List CI} {a b : TY} (h : a.ref = false) : tyJ L a b = tyZ := by unfold tyJ; rw [if_pos (Or.inl h)]
theorem tyJ_bad2 {L : List CI} {a b : TY} (h : b.ref = false) : tyJ L a b = tyZ := by unfold tyJ; rw [if_pos (Or.inr h)]
theorem tyJ_eq {L : List CI} {a b : TY} (h1 : a.ref = true) (h2 : b.ref = true) (h : tyE a b = true) : tyJ L a b = a := by unfold tyJ; rw [if_neg (by simp [h1, h2]), if_pos h]
theorem tyJ_cls {L : List CI} {d : Int} {s t : ByteArray} (h1 : (TY.mk d 76 s).ref = true) (h2 : (TY.mk d 76 t).ref = true) (h : tyE ⟨d, 76, s⟩ ⟨d, 76, t⟩ = false) : tyJ L ⟨d, 76, s⟩ ⟨d, 76, t⟩ = ⟨d, 76, csV L s t⟩ := by
  unfold tyJ; rw [if_neg (by simp [h1, h2]), if_neg (by simp [h]), if_pos ⟨rfl, rfl, rfl⟩]
theorem tyJ_far {L : List CI} {a b : TY} (h1 : a.ref = true) (h2 : b.ref = true) (h : tyE a b = false) (hn : ¬ (a.b = 76 ∧ b.b = 76 ∧ a.d = b.d)) : tyJ L a b = ⟨if b.dp < a.dp then b.dp else a.dp, 76, rootS⟩ := by
  unfold tyJ; rw [if_neg (by simp [h1, h2]), if_neg (by simp [h]), if_neg hn]
theorem dp_76 {d : Int} {s : ByteArray} : (TY.mk d 76 s).dp = d := by unfold TY.dp; rw [if_pos rfl]
theorem dp_n {d b : Int} {s : ByteArray} (h : ¬ b = 76) : (TY.mk d b s).dp = d - 1 := by unfold TY.dp; rw [if_neg h]
/-- Types of the package -/
theorem mty_any (A : Option Addr) (n c : Nat) (L : List CI) (a b : TY) (w : World) (hn : L.length = n) (hc : n ≤ 1000000) (hv : VH L) (h : CIs w w.heap.size A L) (ha : a.s.size ≤ 9223372036854775807) (hb : b.s.size ≤ 9223372036854775807) :
    Calls Tryd.prog 42 #[.slice A n c, (Value.agg #[Value.int IntKind.i64 (TY.d a), Value.int IntKind.u8 (TY.b a), Value.string (TY.s a)]), (Value.agg #[Value.int IntKind.i64 (TY.d b), Value.int IntKind.u8 (TY.b b), Value.string (TY.s b)])] w (TyRet w (tyJ L a b)) := by
  cases h1 : a.ref with
  | false => rw [tyJ_bad1 h1]; exact mty_z1 _ a b w h1
  | true =>
    cases h2 : b.ref with
    | false => rw [tyJ_bad2 h2]; exact mty_z2 _ a b w h1 h2
    | true =>
      cases hE : tyE a b with
      | true => rw [tyJ_eq h1 h2 hE]; exact mty_e _ a b w h1 hE
      | false =>
        have r1 := TY.ref_rng h1
        have r2 := TY.ref_rng h2
        obtain ⟨d1, b1, s1⟩ := a
        obtain ⟨d2, b2, s2⟩ := b
        by_cases e1 : b1 = 76
        · subst e1
          by_cases e2 : b2 = 76
          · subst e2
            by_cases e3 : d1 = d2
            · subst e3
              rw [tyJ_cls h1 h2 hE]
              exact mty_4 _ d1 s1 s2 _ w h1 h2 hE (fun W hW => cs_any A n c L s1 s2 W hn hc hv (h.up hW) ha hb)
            · rw [tyJ_far h1 h2 hE (fun h => e3 h.2.2), dp_76, dp_76]
              exact mty_50 _ d1 d2 s1 s2 w h1 h2 r1 r2 e3 hE
          · rw [tyJ_far h1 h2 hE (fun h => e2 h.2.1), dp_76, dp_n e2]
            exact mty_51 _ d1 d2 b2 s1 s2 w h1 h2 e2 r1 r2 hE
        · by_cases e2 : b2 = 76
          · subst e2
            rw [tyJ_far h1 h2 hE (fun h => e1 h.1), dp_76, dp_n e1]
            exact mty_52 _ d1 d2 b1 s1 s2 w h1 h2 e1 r1 r2 hE
          · rw [tyJ_far h1 h2 hE (fun h => e1 h.1), dp_n e1, dp_n e2]
            exact mty_53 _ d1 d2 b1 b2 s1 s2 w h1 h2 e1 e2 r1 r2 hE
/-- Types of the reference -/
theorem rty_any (A : Option Addr) (n c : Nat) (L : List CI) (a b : TY) (w : World) (hn : L.length = n) (hc : n ≤ 1000000) (hv : VH L) (h : CIs w w.heap.size A L) (ha : a.s.size ≤ 9223372036854775807) (hb : b.s.size ≤ 9223372036854775807) :
    Calls Tryd.prog 43 #[.slice A n c, (Value.agg #[Value.int IntKind.i64 (TY.d a), Value.int IntKind.u8 (TY.b a), Value.string (TY.s a)]), (Value.agg #[Value.int IntKind.i64 (TY.d b), Value.int IntKind.u8 (TY.b b), Value.string (TY.s b)])] w (TyRet w (tyJ L a b)) := by
  obtain ⟨d1, b1, s1⟩ := a
  obtain ⟨d2, b2, s2⟩ := b
  cases h1 : (TY.mk d1 b1 s1).ref with
  | false => rw [tyJ_bad1 h1]; exact rty_z1 _ b1 b2 d1 d2 s1 s2 w ha hb h1
  | true =>
    cases h2 : (TY.mk d2 b2 s2).ref with
    | false => rw [tyJ_bad2 h2]; exact rty_z2 _ b1 b2 d1 d2 s1 s2 w ha hb h1 h2
    | true =>
      cases hE : tyE (TY.mk d1 b1 s1) (TY.mk d2 b2 s2) with
      | true => rw [tyJ_eq h1 h2 hE]; exact rty_e _ b1 b2 d1 d2 s1 s2 w ha hb h1 h2 hE
      | false =>
        have r1 := TY.ref_rng h1
        have r2 := TY.ref_rng h2
        by_cases e1 : b1 = 76
        · subst e1
          by_cases e2 : b2 = 76
          · subst e2
            by_cases e3 : d1 = d2
            · subst e3
              rw [tyJ_cls h1 h2 hE]
              exact rty_4 _ d1 s1 s2 w ha hb h1 h2 hE _ (cls_ne (csV_cls hv (TY.ref_cls h1))) (fun W hW => rcs_any A n c L s1 s2 W hn hc (h.up hW))
            · rw [tyJ_far h1 h2 hE (fun h => e3 h.2.2), dp_76, dp_76]
              exact rty_50 _ d1 d2 s1 s2 w ha hb h1 h2 hE e3 r1 r2
          · rw [tyJ_far h1 h2 hE (fun h => e2 h.2.1), dp_76, dp_n e2]
            exact rty_51 _ b2 d1 d2 s1 s2 w ha hb h1 h2 hE e2 r1 r2
        · by_cases e2 : b2 = 76
          · subst e2
            rw [tyJ_far h1 h2 hE (fun h => e1 h.1), dp_76, dp_n e1]
            exact rty_52 _ b1 d1 d2 s1 s2 w ha hb h1 h2 hE e1 r1 r2
          · rw [tyJ_far h1 h2 hE (fun h => e1 h.1), dp_n e1, dp_n e2]
            exact rty_53 _ b1 b2 d1 d2 s1 s2 w ha hb h1 h2 hE e1 e2 r1 r2
/-- VTypes of the package -/
theorem mvt_any (A : Option Addr) (n c : Nat) (L : List CI) (a b : VT) (w : World) (hn : L.length = n) (hc : n ≤ 1000000) (hv : VH L) (h : CIs w w.heap.size A L) (ha : a.s.size ≤ 9223372036854775807) (hb : b.s.size ≤ 9223372036854775807) :
    Calls Tryd.prog 44 #[.slice A n c, (Value.agg #[Value.int IntKind.i64 (VT.k a), Value.int IntKind.i64 (VT.n a), Value.int IntKind.i64 (VT.d a), Value.int IntKind.u8 (VT.b a), Value.string (VT.s a), Value.int IntKind.i64 (VT.p a)]), (Value.agg #[Value.int IntKind.i64 (VT.k b), Value.int IntKind.i64 (VT.n b), Value.int IntKind.i64 (VT.d b), Value.int IntKind.u8 (VT.b b), Value.string (VT.s b), Value.int IntKind.i64 (VT.p b)])] w (VtRet w (vtJ L a b)) := by
  unfold vtJ
  cases hE : vtE a b with
  | true => rw [if_pos rfl]; obtain rfl := vtE_eq hE; exact mvt_e _ a w
  | false =>
    rw [if_neg (by simp)]
    obtain ⟨k1, n1, d1, b1, s1, p1⟩ := a
    obtain ⟨k2, n2, d2, b2, s2, p2⟩ := b
    by_cases e1 : k1 = 3
    · subst e1
      by_cases e2 : k2 = 4
      · subst e2; rw [if_pos ⟨rfl, rfl⟩]; exact mvt_34 _ n1 d1 b1 p1 n2 d2 b2 p2 s1 s2 w hE
      · rw [if_neg (fun h => e2 h.2), if_neg (by simp), if_neg (by simp)]; exact mvt_3x _ n1 d1 b1 p1 k2 n2 d2 b2 p2 s1 s2 w hE e2
    · rw [if_neg (fun h => e1 h.1)]
      by_cases e2 : k1 = 4
      · subst e2
        by_cases e3 : k2 = 3
        · subst e3; rw [if_pos ⟨rfl, rfl⟩]; exact mvt_43 _ n1 d1 b1 p1 n2 d2 b2 p2 s1 s2 w hE
        · rw [if_neg (fun h => e3 h.2)]
          by_cases e4 : k2 = 4
          · subst e4
            have KT := fun (W : World) (hW : Below w.heap.size w W) => mty_any A n c L ⟨d1, b1, s1⟩ ⟨d2, b2, s2⟩ W hn hc hv (h.up hW) ha hb
            obtain ⟨t, ht⟩ : ∃ t, tyJ L (VT.ty ⟨4, n1, d1, b1, s1, p1⟩) (VT.ty ⟨4, n2, d2, b2, s2, p2⟩) = t := ⟨_, rfl⟩
            rw [show tyJ L ⟨d1, b1, s1⟩ ⟨d2, b2, s2⟩ = t from ht] at KT
            rw [ht]
            cases hT : tyE t tyZ with
            | true => rw [if_neg (by simp)]; exact mvt_44z _ n1 d1 b1 p1 n2 d2 b2 p2 s1 s2 w hE t KT hT
            | false => rw [if_pos ⟨rfl, rfl, rfl⟩]; exact mvt_44 _ n1 d1 b1 p1 n2 d2 b2 p2 s1 s2 w hE t KT hT
          · rw [if_neg (fun h => e4 h.2.1)]; exact mvt_4x _ n1 d1 b1 p1 k2 n2 d2 b2 p2 s1 s2 w hE e3 e4
      · rw [if_neg (fun h => e2 h.1), if_neg (fun h => e2 h.1)]; exact mvt_xx _ k1 n1 d1 b1 p1 k2 n2 d2 b2 p2 s1 s2 w hE e1 e2
/-- VTypes of the reference -/
theorem rvt_any (A : Option Addr) (n c : Nat) (L : List CI) (a b : VT) (w : World) (hn : L.length = n) (hc : n ≤ 1000000) (hv : VH L) (h : CIs w w.heap.size A L) (ha : a.s.size ≤ 9223372036854775807) (hb : b.s.size ≤ 9223372036854775807) :
    Calls Tryd.prog 45 #[.slice A n c, (Value.agg #[Value.int IntKind.i64 (VT.k a), Value.int IntKind.i64 (VT.n a), Value.int IntKind.i64 (VT.d a), Value.int IntKind.u8 (VT.b a), Value.string (VT.s a), Value.int IntKind.i64 (VT.p a)]), (Value.agg #[Value.int IntKind.i64 (VT.k b), Value.int IntKind.i64 (VT.n b), Value.int IntKind.i64 (VT.d b), Value.int IntKind.u8 (VT.b b), Value.string (VT.s b), Value.int IntKind.i64 (VT.p b)])] w (VtRet w (vtJ L a b)) := by
  unfold vtJ
  cases hE : vtE a b with
  | true => rw [if_pos rfl]; obtain rfl := vtE_eq hE; exact rvt_e _ a w
  | false =>
    rw [if_neg (by simp)]
    obtain ⟨k1, n1, d1, b1, s1, p1⟩ := a
    obtain ⟨k2, n2, d2, b2, s2, p2⟩ := b
    by_cases e1 : k1 = 3
    · subst e1
      by_cases e2 : k2 = 4
      · subst e2; rw [if_pos ⟨rfl, rfl⟩]; exact rvt_34 _ n1 d1 b1 p1 n2 d2 b2 p2 s1 s2 w hE
      · rw [if_neg (fun h => e2 h.2), if_neg (by simp), if_neg (by simp)]; exact rvt_3x _ n1 d1 b1 p1 k2 n2 d2 b2 p2 s1 s2 w hE e2
    · rw [if_neg (fun h => e1 h.1)]
      by_cases e2 : k1 = 4
      · subst e2
        by_cases e3 : k2 = 3
        · subst e3; rw [if_pos ⟨rfl, rfl⟩]; exact rvt_43 _ n1 d1 b1 p1 n2 d2 b2 p2 s1 s2 w hE
        · rw [if_neg (fun h => e3 h.2)]
          by_cases e4 : k2 = 4
          · subst e4
            have KT := fun (W : World) (hW : Below w.heap.size w W) => rty_any A n c L ⟨d1, b1, s1⟩ ⟨d2, b2, s2⟩ W hn hc hv (h.up hW) ha hb
            obtain ⟨t, ht⟩ : ∃ t, tyJ L (VT.ty ⟨4, n1, d1, b1, s1, p1⟩) (VT.ty ⟨4, n2, d2, b2, s2, p2⟩) = t := ⟨_, rfl⟩
            rw [show tyJ L ⟨d1, b1, s1⟩ ⟨d2, b2, s2⟩ = t from ht] at KT
            rw [ht]
            cases hT : tyE t tyZ with
            | true => rw [if_neg (by simp)]; exact rvt_44z _ n1 d1 b1 p1 n2 d2 b2 p2 s1 s2 w hE t KT hT
            | false => rw [if_pos ⟨rfl, rfl, rfl⟩]; exact rvt_44 _ n1 d1 b1 p1 n2 d2 b2 p2 s1 s2 w hE t KT hT
          · rw [if_neg (fun h => e4 h.2.1)]; exact rvt_4x _ n1 d1 b1 p1 k2 n2 d2 b2 p2 s1 s2 w hE e3 e4
      · rw [if_neg (fun h => e2 h.1), if_neg (fun h => e2 h.1)]; exact rvt_xx _ k1 n1 d1 b1 p1 k2 n2 d2 b2 p2 s1 s2 w hE e1 e2
end Go.Proofs.YthifmcnemeiphaaDoor

/- Mh -/
/- Layer 18: the chapter's classes; Frames of frames of different shapes. -/
namespace Go.Proofs.YthifmcnemeiphaaDoor
open Go.ChangeShapes Go.WideShapes Go.ChangeAt Go.RowKit Go.PlainAid Go.Maps
set_option linter.unusedSimpArgs false
set_option linter.unusedVariables false

abbrev sC : ByteArray := ⟨#[67]⟩
def exM : List CI := [⟨rootS, ⟨#[]⟩, none, 0, 0, [], false⟩, ⟨sC, rootS, none, 0, 0, [], false⟩, ⟨sA, sC, none, 0, 0, [], false⟩, ⟨sB, sC, none, 0, 0, [], false⟩]
theorem rc_fall {L : List CI} (h : ∀ i j, Ed L i j → j < i) {i j : Nat} (hr : Rc L i j) : j < i := by
  induction hr with
  | one he => exact h _ _ he
  | more _ he ih => exact Nat.lt_trans (h _ _ he) ih
theorem exM_ed (i j : Nat) (h : Ed exM i j) : j < i := by
  obtain ⟨hi, s, hs, hf, _⟩ := h
  have hi4 : i < 4 := hi
  rcases (show i = 0 ∨ i = 1 ∨ i = 2 ∨ i = 3 by omega) with rfl | rfl | rfl | rfl
  · have e : nxt (exM[0]'hi) = [] := by kernel_rfl
    rw [e] at hs
    cases hs
  · have e : nxt (exM[1]'hi) = [rootS] := by kernel_rfl
    rw [e] at hs
    rw [List.mem_singleton.1 hs] at hf
    rw [← hf, show fnd exM rootS = 0 by kernel_rfl]; decide
  · have e : nxt (exM[2]'hi) = [sC] := by kernel_rfl
    rw [e] at hs
    rw [List.mem_singleton.1 hs] at hf
    rw [← hf, show fnd exM sC = 1 by kernel_rfl]; decide
  · have e : nxt (exM[3]'hi) = [sC] := by kernel_rfl
    rw [e] at hs
    rw [List.mem_singleton.1 hs] at hf
    rw [← hf, show fnd exM sC = 1 by kernel_rfl]; decide
theorem exM_no (i : Nat) : ¬ Rc exM i i := fun h => Nat.lt_irrefl _ (rc_fall exM_ed h)
theorem exM_VH : VH exM := by
  intro i x hx
  have hi : i < 4 := lt_of_some hx
  rcases (show i = 0 ∨ i = 1 ∨ i = 2 ∨ i = 3 by omega) with rfl | rfl | rfl | rfl
  all_goals
    obtain rfl := Option.some.inj hx
    exact ceV_zero (by kernel_rfl) (by kernel_rfl) (by kernel_rfl) (by kernel_rfl) (by kernel_rfl) (exM_no _)
abbrev exMc : Array Value := #[.string rootS, .string ⟨#[]⟩, .slice none 0 0, .bool false, .string sC, .string rootS, .slice none 0 0, .bool false, .string sA, .string sC, .slice none 0 0, .bool false, .string sB, .string sC, .slice none 0 0, .bool false]
theorem exM_cis {W : World} {g : Nat} (h2 : W.heap[g]? = some (.cells exMc 30)) : CIs W W.heap.size (some ⟨g, 0, none⟩) exM := by
  have l2 := lt_heap h2
  have hc : ∀ j v, exMc[j]? = some v → W.cell? ⟨g, 0 + j, none⟩ = some v := by
    intro j v hj
    simp only [World.cell?, h2, Nat.zero_add]
    exact hj
  refine Or.inr ⟨g, 0, rfl, l2, fun k x hk => ?_⟩
  have hk4 : k < 4 := lt_of_some hk
  have hn : ∀ y : CI, y.fs = [] → y.n = 0 → y.c = 0 → y.nm.size ≤ 9223372036854775807 → y.su.size ≤ 9223372036854775807 → y.ok W W.heap.size := by
    intro y e1 e2 e3 e4 e5
    refine ⟨e4, e5, by rw [e1, e2]; rfl, by omega, by omega, by rw [e1]; exact Or.inl rfl, by rw [e1]; exact fun s hs => absurd hs (by simp), fun _ => e3⟩
  rcases (show k = 0 ∨ k = 1 ∨ k = 2 ∨ k = 3 by omega) with rfl | rfl | rfl | rfl
  · obtain rfl := Option.some.inj hk
    exact ⟨hn _ rfl rfl rfl (by decide) (by decide), hc 0 _ rfl, hc 1 _ rfl, hc 2 _ rfl, hc 3 _ rfl⟩
  · obtain rfl := Option.some.inj hk
    exact ⟨hn _ rfl rfl rfl (by decide) (by decide), hc 4 _ rfl, hc 5 _ rfl, hc 6 _ rfl, hc 7 _ rfl⟩
  · obtain rfl := Option.some.inj hk
    exact ⟨hn _ rfl rfl rfl (by decide) (by decide), hc 8 _ rfl, hc 9 _ rfl, hc 10 _ rfl, hc 11 _ rfl⟩
  · obtain rfl := Option.some.inj hk
    exact ⟨hn _ rfl rfl rfl (by decide) (by decide), hc 12 _ rfl, hc 13 _ rfl, hc 14 _ rfl, hc 15 _ rfl⟩
theorem classes_any (w : World) : Calls Tryd.prog 74 #[] w fun e w' => ∃ g, e = .returned (.slice (some ⟨g, 0, none⟩) 4 4) ∧ CIs w' w'.heap.size (some ⟨g, 0, none⟩) exM ∧ Below w.heap.size w w' := by
  go_enter Tryd.func74, Tryd.ntmps74
  go_wp2
  go_ret
  exact ⟨w.heap.size, rfl, exM_cis (World.alloc_heap_new w _), below_al (Below.refl _ _) _⟩
theorem class_any (d : Int) (s : ByteArray) (w : World) : Calls Tryd.prog 75 #[.int .i64 d, .string s] w fun e w' => e = .returned (.agg #[.int .i64 d, .int .u8 76, .string s]) ∧ Below w.heap.size w w' := by
  go_enter Tryd.func75, Tryd.ntmps75
  go_upto_region 1 with fail
  have H2 := World.alloc_heap_new w (.cells #[.int .i64 0, .int .u8 0, .string ⟨#[]⟩] 41)
  have hB := below_al (Below.refl w.heap.size w) (.cells #[.int .i64 0, .int .u8 0, .string ⟨#[]⟩] 41)
  generalize w.alloc (.cells #[.int .i64 0, .int .u8 0, .string ⟨#[]⟩] 41) = W at H2 hB ⊢
  obtain ⟨x0, x1, x2, f0, f1, f2⟩ := three_cells H2
  go_wp2
  refine bodyPost_ret (ty_ret rfl rfl (set_three H2)) rfl ⟨rfl, ?_⟩
  exact below_st (below_st (below_st hB (by simp) _) (by simp) _) (by simp) _
theorem exM_j1 : tyJ exM ⟨0, 76, sA⟩ ⟨0, 76, sB⟩ = ⟨0, 76, sC⟩ := by kernel_rfl
theorem exM_j2 : tyJ exM ⟨1, 76, sA⟩ ⟨1, 76, sB⟩ = ⟨1, 76, sC⟩ := by kernel_rfl
theorem exM_j3 : tyJ exM ⟨1, 76, sA⟩ ⟨0, 76, sB⟩ = ⟨0, 76, rootS⟩ := by kernel_rfl
theorem exM_j4 : tyJ exM ⟨2, 73, ⟨#[]⟩⟩ ⟨1, 76, sA⟩ = ⟨1, 76, rootS⟩ := by kernel_rfl
theorem exM_v1 : vtJ exM ⟨3, 0, 0, 0, ⟨#[]⟩, 0⟩ ⟨4, 0, 0, 76, sA, 0⟩ = ⟨4, 0, 0, 76, sA, 0⟩ := by kernel_rfl
theorem exM_v2 : vtJ exM ⟨1, 0, 0, 0, ⟨#[]⟩, 0⟩ ⟨3, 0, 0, 0, ⟨#[]⟩, 0⟩ = vtZ := by kernel_rfl
end Go.Proofs.YthifmcnemeiphaaDoor

/- Mj -/
/- Layer 18: the chapter's examples hold (written by gen/mj.py). -/
namespace Go.Proofs.YthifmcnemeiphaaDoor
open Go.ChangeShapes Go.WideShapes Go.ChangeAt Go.RowKit Go.PlainAid Go.Maps
set_option linter.unusedSimpArgs false
set_option linter.unusedVariables false

set_option maxRecDepth 100000 in
set_option maxHeartbeats 8000000 in
theorem works18_any (w : World) : Calls Tryd.prog 41 #[] w fun e w' => e = .returned (.bool true) ∧ Below w.heap.size w w' := by
  go_enter Tryd.func41, Tryd.ntmps41
  go_upto_region 2 with (go_at_call 74; (with_reducible refine (classes_any _).mono ?_); rintro e W ⟨g, rfl, hL, hB⟩; have HL := Lib.hid hL; have HB := Lib.hid hB; clear hL hB)
  go_upto_region 4 with fail
  have R0 := laid_old (o' := .cells #[.int .i64 3, .int .i64 0, .int .i64 0, .int .u8 0, .string ⟨#[]⟩, .int .i64 0] 43) (World.alloc_heap_new W (.cells #[.int .i64 2, .int .u8 73, .string ⟨#[]⟩] 41))
  have R1 := World.alloc_heap_new (W.alloc (.cells #[.int .i64 2, .int .u8 73, .string ⟨#[]⟩] 41)) (.cells #[.int .i64 3, .int .i64 0, .int .i64 0, .int .u8 0, .string ⟨#[]⟩, .int .i64 0] 43)
  have hB2 := below_al (below_al (Below.refl W.heap.size W) (.cells #[.int .i64 2, .int .u8 73, .string ⟨#[]⟩] 41)) (.cells #[.int .i64 3, .int .i64 0, .int .i64 0, .int .u8 0, .string ⟨#[]⟩, .int .i64 0] 43)
  have HL2 := Lib.hid (HL.out.up hB2)
  have HB2 := Lib.hid (below_on HB.out hB2)
  clear hB2
  rw [World.size_alloc] at R1
  generalize (W.alloc (.cells #[.int .i64 2, .int .u8 73, .string ⟨#[]⟩] 41)).alloc (.cells #[.int .i64 3, .int .i64 0, .int .i64 0, .int .u8 0, .string ⟨#[]⟩, .int .i64 0] 43) = W2 at R0 R1 HL2 HB2 ⊢
  generalize W.heap.size = B0 at R0 R1 ⊢
  go_upto_region 5 with (go_at_call 75; (with_reducible refine (class_any _ _ _).mono ?_); rintro e w3 ⟨rfl, hb1⟩; replace R0 := (hb1.block _ (lt_heap R0)).trans R0; replace R1 := (hb1.block _ (lt_heap R1)).trans R1; replace HL2 := Lib.hid (HL2.out.up hb1); replace HB2 := Lib.hid (below_on HB2.out hb1); clear hb1)
  replace R0 := laid_old (o' := .cells #[.int .i64 4, .int .i64 0, .int .i64 0, .int .u8 76, .string sA, .int .i64 0] 43) R0
  replace R1 := laid_old (o' := .cells #[.int .i64 4, .int .i64 0, .int .i64 0, .int .u8 76, .string sA, .int .i64 0] 43) R1
  have R2 := World.alloc_heap_new w3 (.cells #[.int .i64 4, .int .i64 0, .int .i64 0, .int .u8 76, .string sA, .int .i64 0] 43)
  replace HL2 := Lib.hid (HL2.out.up (below_al (Below.refl _ _) (.cells #[.int .i64 4, .int .i64 0, .int .i64 0, .int .u8 76, .string sA, .int .i64 0] 43)))
  replace HB2 := Lib.hid (below_al HB2.out (.cells #[.int .i64 4, .int .i64 0, .int .i64 0, .int .u8 76, .string sA, .int .i64 0] 43))
  generalize w3.alloc (.cells #[.int .i64 4, .int .i64 0, .int .i64 0, .int .u8 76, .string sA, .int .i64 0] 43) = W4 at R0 R1 R2 HL2 HB2 ⊢
  generalize w3.heap.size = B2 at R2 ⊢
  obtain ⟨n0, n1, n2, n3, n4, n5, fn⟩ := six_cells R1
  go_upto_region 6 with (go_at_call 47; (with_reducible refine (mfr_bad _ _ _ _ _ 0 1 0 0 _ _ _ _ _ _ _ (Or.inr ⟨by decide, by decide⟩)).mono ?_); rintro e w5 ⟨rfl, hb5⟩)
  have hb6 := below_al (below_on (below_al (Below.refl W4.heap.size W4) (.cells #[.int .i64 3, .int .i64 0, .int .i64 0, .int .u8 0, .string ⟨#[]⟩, .int .i64 0] 43)) hb5) (.cells #[.slice none 0 0, .slice none 0 0, .bool false] 56)
  replace R0 := (hb6.block _ (lt_heap R0)).trans R0
  replace R1 := (hb6.block _ (lt_heap R1)).trans R1
  replace R2 := (hb6.block _ (lt_heap R2)).trans R2
  replace HL2 := Lib.hid (HL2.out.up hb6)
  replace HB2 := Lib.hid (below_on HB2.out hb6)
  clear n0 n1 n2 n3 n4 n5 fn hb6 hb5
  generalize w5.heap.size = B5
  generalize w5.alloc (.cells #[.slice none 0 0, .slice none 0 0, .bool false] 56) = W6 at R0 R1 R2 HL2 HB2 ⊢
  have HV := Lib.hid exM_VH
  have K0 := Lib.hid (fun (W' : World) (hW : Below W6.heap.size W6 W') => show Calls Tryd.prog 42 #[.slice (some ⟨g, 0, none⟩) 4 4, .agg #[.int .i64 0, .int .u8 76, .string sA], .agg #[.int .i64 0, .int .u8 76, .string sB]] W' (fun e w' => e = .returned (.agg #[.int .i64 0, .int .u8 76, .string sC]) ∧ Below W'.heap.size W' w') from by
    have q := mty_any (some ⟨g, 0, none⟩) 4 4 exM ⟨0, 76, sA⟩ ⟨0, 76, sB⟩ W' rfl (by omega) HV.out (HL2.out.up hW) (by decide) (by decide)
    rw [exM_j1] at q
    exact q)
  have K1 := Lib.hid (fun (W' : World) (hW : Below W6.heap.size W6 W') => show Calls Tryd.prog 42 #[.slice (some ⟨g, 0, none⟩) 4 4, .agg #[.int .i64 1, .int .u8 76, .string sA], .agg #[.int .i64 1, .int .u8 76, .string sB]] W' (fun e w' => e = .returned (.agg #[.int .i64 1, .int .u8 76, .string sC]) ∧ Below W'.heap.size W' w') from by
    have q := mty_any (some ⟨g, 0, none⟩) 4 4 exM ⟨1, 76, sA⟩ ⟨1, 76, sB⟩ W' rfl (by omega) HV.out (HL2.out.up hW) (by decide) (by decide)
    rw [exM_j2] at q
    exact q)
  have K2 := Lib.hid (fun (W' : World) (hW : Below W6.heap.size W6 W') => show Calls Tryd.prog 42 #[.slice (some ⟨g, 0, none⟩) 4 4, .agg #[.int .i64 1, .int .u8 76, .string sA], .agg #[.int .i64 0, .int .u8 76, .string sB]] W' (fun e w' => e = .returned (.agg #[.int .i64 0, .int .u8 76, .string rootS]) ∧ Below W'.heap.size W' w') from by
    have q := mty_any (some ⟨g, 0, none⟩) 4 4 exM ⟨1, 76, sA⟩ ⟨0, 76, sB⟩ W' rfl (by omega) HV.out (HL2.out.up hW) (by decide) (by decide)
    rw [exM_j3] at q
    exact q)
  have K3 := Lib.hid (fun (W' : World) (hW : Below W6.heap.size W6 W') => show Calls Tryd.prog 42 #[.slice (some ⟨g, 0, none⟩) 4 4, .agg #[.int .i64 2, .int .u8 73, .string ⟨#[]⟩], .agg #[.int .i64 1, .int .u8 76, .string sA]] W' (fun e w' => e = .returned (.agg #[.int .i64 1, .int .u8 76, .string rootS]) ∧ Below W'.heap.size W' w') from by
    have q := mty_any (some ⟨g, 0, none⟩) 4 4 exM ⟨2, 73, ⟨#[]⟩⟩ ⟨1, 76, sA⟩ W' rfl (by omega) HV.out (HL2.out.up hW) (by decide) (by decide)
    rw [exM_j4] at q
    exact q)
  have J0 := Lib.hid (fun (W' : World) (hW : Below W6.heap.size W6 W') => show Calls Tryd.prog 44 #[.slice (some ⟨g, 0, none⟩) 4 4, .agg #[.int .i64 3, .int .i64 0, .int .i64 0, .int .u8 0, .string ⟨#[]⟩, .int .i64 0], .agg #[.int .i64 4, .int .i64 0, .int .i64 0, .int .u8 76, .string sA, .int .i64 0]] W' (fun e w' => e = .returned (.agg #[.int .i64 4, .int .i64 0, .int .i64 0, .int .u8 76, .string sA, .int .i64 0]) ∧ Below W'.heap.size W' w') from by
    have q := mvt_any (some ⟨g, 0, none⟩) 4 4 exM ⟨3, 0, 0, 0, ⟨#[]⟩, 0⟩ ⟨4, 0, 0, 76, sA, 0⟩ W' rfl (by omega) HV.out (HL2.out.up hW) (by decide) (by decide)
    rw [exM_v1] at q
    exact q)
  have J1 := Lib.hid (fun (W' : World) (hW : Below W6.heap.size W6 W') => show Calls Tryd.prog 44 #[.slice (some ⟨g, 0, none⟩) 4 4, .agg #[.int .i64 1, .int .i64 0, .int .i64 0, .int .u8 0, .string ⟨#[]⟩, .int .i64 0], .agg #[.int .i64 3, .int .i64 0, .int .i64 0, .int .u8 0, .string ⟨#[]⟩, .int .i64 0]] W' (fun e w' => e = .returned (.agg #[.int .i64 0, .int .i64 0, .int .i64 0, .int .u8 0, .string ⟨#[]⟩, .int .i64 0]) ∧ Below W'.heap.size W' w') from by
    have q := mvt_any (some ⟨g, 0, none⟩) 4 4 exM ⟨1, 0, 0, 0, ⟨#[]⟩, 0⟩ ⟨3, 0, 0, 0, ⟨#[]⟩, 0⟩ W' rfl (by omega) HV.out (HL2.out.up hW) (by decide) (by decide)
    rw [exM_v2] at q
    exact q)
  obtain ⟨k0_0, k0_1, k0_2, _, _, _⟩ := three_cells R0
  obtain ⟨k1_0, k1_1, k1_2, k1_3, k1_4, k1_5, _⟩ := six_cells R1
  obtain ⟨k2_0, k2_1, k2_2, k2_3, k2_4, k2_5, _⟩ := six_cells R2
  have hl0 := lt_heap R0
  have hl1 := lt_heap R1
  have hl2 := lt_heap R2
  have KS := Lib.hid (fun (w' : World) (hb : Below W6.heap.size W6 w') => show (fun (w' : World) => w'.cell? ⟨B0, 0, none⟩ = some (.int .i64 2) ∧ w'.cell? ⟨B0, 1, none⟩ = some (.int .u8 73) ∧ w'.cell? ⟨B0, 2, none⟩ = some (.string ⟨#[]⟩) ∧ w'.cell? ⟨B0 + 1, 0, none⟩ = some (.int .i64 3) ∧ w'.cell? ⟨B0 + 1, 1, none⟩ = some (.int .i64 0) ∧ w'.cell? ⟨B0 + 1, 2, none⟩ = some (.int .i64 0) ∧ w'.cell? ⟨B0 + 1, 3, none⟩ = some (.int .u8 0) ∧ w'.cell? ⟨B0 + 1, 4, none⟩ = some (.string ⟨#[]⟩) ∧ w'.cell? ⟨B0 + 1, 5, none⟩ = some (.int .i64 0) ∧ w'.cell? ⟨B2, 0, none⟩ = some (.int .i64 4) ∧ w'.cell? ⟨B2, 1, none⟩ = some (.int .i64 0) ∧ w'.cell? ⟨B2, 2, none⟩ = some (.int .i64 0) ∧ w'.cell? ⟨B2, 3, none⟩ = some (.int .u8 76) ∧ w'.cell? ⟨B2, 4, none⟩ = some (.string sA) ∧ w'.cell? ⟨B2, 5, none⟩ = some (.int .i64 0) ∧ Below W6.heap.size W6 w') w' from ⟨(hb.cell (p := ⟨B0, 0, none⟩) hl0).trans k0_0, (hb.cell (p := ⟨B0, 1, none⟩) hl0).trans k0_1, (hb.cell (p := ⟨B0, 2, none⟩) hl0).trans k0_2, (hb.cell (p := ⟨B0 + 1, 0, none⟩) hl1).trans k1_0, (hb.cell (p := ⟨B0 + 1, 1, none⟩) hl1).trans k1_1, (hb.cell (p := ⟨B0 + 1, 2, none⟩) hl1).trans k1_2, (hb.cell (p := ⟨B0 + 1, 3, none⟩) hl1).trans k1_3, (hb.cell (p := ⟨B0 + 1, 4, none⟩) hl1).trans k1_4, (hb.cell (p := ⟨B0 + 1, 5, none⟩) hl1).trans k1_5, (hb.cell (p := ⟨B2, 0, none⟩) hl2).trans k2_0, (hb.cell (p := ⟨B2, 1, none⟩) hl2).trans k2_1, (hb.cell (p := ⟨B2, 2, none⟩) hl2).trans k2_2, (hb.cell (p := ⟨B2, 3, none⟩) hl2).trans k2_3, (hb.cell (p := ⟨B2, 4, none⟩) hl2).trans k2_4, (hb.cell (p := ⟨B2, 5, none⟩) hl2).trans k2_5, hb⟩)
  clear R0 R1 R2
  have hW0 := Below.refl W6.heap.size W6
  go_region_held3 (fun (w' : World) => w'.cell? ⟨B0, 0, none⟩ = some (.int .i64 2) ∧ w'.cell? ⟨B0, 1, none⟩ = some (.int .u8 73) ∧ w'.cell? ⟨B0, 2, none⟩ = some (.string ⟨#[]⟩) ∧ w'.cell? ⟨B0 + 1, 0, none⟩ = some (.int .i64 3) ∧ w'.cell? ⟨B0 + 1, 1, none⟩ = some (.int .i64 0) ∧ w'.cell? ⟨B0 + 1, 2, none⟩ = some (.int .i64 0) ∧ w'.cell? ⟨B0 + 1, 3, none⟩ = some (.int .u8 0) ∧ w'.cell? ⟨B0 + 1, 4, none⟩ = some (.string ⟨#[]⟩) ∧ w'.cell? ⟨B0 + 1, 5, none⟩ = some (.int .i64 0) ∧ w'.cell? ⟨B2, 0, none⟩ = some (.int .i64 4) ∧ w'.cell? ⟨B2, 1, none⟩ = some (.int .i64 0) ∧ w'.cell? ⟨B2, 2, none⟩ = some (.int .i64 0) ∧ w'.cell? ⟨B2, 3, none⟩ = some (.int .u8 76) ∧ w'.cell? ⟨B2, 4, none⟩ = some (.string sA) ∧ w'.cell? ⟨B2, 5, none⟩ = some (.int .i64 0) ∧ Below W6.heap.size W6 w') (((try go_split_ands); (first | (exact KS.out _ (below_on (w := W6) (by assumption) hq)) | (exact KS.out _ (Below.drew (by assumption))) | ((repeat' apply And.intro) <;> (first | assumption | go_keep)))))
    (first | (go_at_call 75; (with_reducible refine (class_any _ _ _).mono ?_); rintro e wq ⟨rfl, hq⟩) | (go_at_call 42; (with_reducible refine (K0.out _ ?_).mono ?_); (first | assumption | (go_split_ands; assumption)); rintro e wq ⟨rfl, hq⟩) | (go_at_call 42; (with_reducible refine (K1.out _ ?_).mono ?_); (first | assumption | (go_split_ands; assumption)); rintro e wq ⟨rfl, hq⟩) | (go_at_call 42; (with_reducible refine (K2.out _ ?_).mono ?_); (first | assumption | (go_split_ands; assumption)); rintro e wq ⟨rfl, hq⟩) | (go_at_call 42; (with_reducible refine (K3.out _ ?_).mono ?_); (first | assumption | (go_split_ands; assumption)); rintro e wq ⟨rfl, hq⟩) | (go_at_call 44; (with_reducible refine (J0.out _ ?_).mono ?_); (first | assumption | (go_split_ands; assumption)); rintro e wq ⟨rfl, hq⟩) | (go_at_call 44; (with_reducible refine (J1.out _ ?_).mono ?_); (first | assumption | (go_split_ands; assumption)); rintro e wq ⟨rfl, hq⟩))
  go_wp2
  go_ret
  refine ⟨rfl, ?_⟩
  go_split_ands
  exact below_on HB2.out (by assumption)
end Go.Proofs.YthifmcnemeiphaaDoor

/- Mk -/
/- Layer 18: accepted. -/
namespace Go.Proofs.YthifmcnemeiphaaDoor
open Go.ChangeShapes Go.WideShapes Go.ChangeAt Go.RowKit Go.PlainAid Go.Maps
set_option linter.unusedSimpArgs false
set_option linter.unusedVariables false

noncomputable def accB (L : List CI) : Bool := @decide (L.length ≤ 20 ∧ VH L) (Classical.propDecidable _)
theorem accB_iff {L : List CI} : accB L = true ↔ L.length ≤ 20 ∧ VH L := by
  unfold accB
  exact @decide_eq_true_iff _ (Classical.propDecidable _)
set_option maxRecDepth 100000 in
theorem acc_any (A : Option Addr) (n c : Nat) (L : List CI) (w : World) (hn : L.length = n) (hcap : n ≤ c) (hcm : c ≤ 9223372036854775807) (hM : (names L).length ≤ 2000000) (h : CIs w w.heap.size A L) :
    Calls Tryd.prog 40 #[.slice A n c] w fun e w' => e = .returned (.bool (accB L)) ∧ Below w.heap.size w w' := by
  have HL := Lib.hid h
  have HN := Lib.hid hn
  clear h hn
  by_cases h20 : n ≤ 20
  · have HM := Lib.hid (show Mid L from ⟨by rw [HN.out]; omega, hM⟩)
    have HR := Lib.hid (show ∀ s v, ChkV L s v → accB L = (v == 0) by
      intro s v hv
      rw [Bool.eq_iff_iff, accB_iff, beq_iff_eq, hv.vh]
      exact ⟨fun h => h.2, fun h => ⟨by rw [HN.out]; exact h20, h⟩⟩)
    obtain ⟨r, hr⟩ : ∃ r, accB L = r := ⟨_, rfl⟩
    rw [hr] at HR ⊢
    clear hr hM
    go_enter Tryd.func40, Tryd.ntmps40
    go_wp2_with (go_at_call 18; (with_reducible refine (rcheck_any A n c L _ HN.out HM.out hcap hcm HL.out).mono ?_); rintro e w2 ⟨⟨s2, v2, rfl, hch⟩, hb2⟩; have HE := Lib.hid (HR.out s2 v2 hch); have HB2 := Lib.hid hb2; clear hb2 hch)
    go_ret
    exact ⟨ret_bool HE.out.symm, HB2.out⟩
  · have hf : accB L = false := by
      cases hh : accB L with
      | false => rfl
      | true => have := (accB_iff.1 hh).1; rw [HN.out] at this; exact absurd this h20
    rw [hf]
    go_enter Tryd.func40, Tryd.ntmps40
    go_wp2
    go_ret
    exact ⟨rfl, Below.refl _ _⟩
end Go.Proofs.YthifmcnemeiphaaDoor

/- Ml -/
/- Layer 18: MergeReference (written by gen/ml.py). -/
namespace Go.Proofs.YthifmcnemeiphaaDoor
open Go.ChangeShapes Go.WideShapes Go.ChangeAt Go.RowKit Go.PlainAid Go.Maps
set_option linter.unusedSimpArgs false
set_option linter.unusedVariables false

theorem two_laid (w : World) (o1 o2 : Obj) : ((w.alloc o1).alloc o2).heap[w.heap.size]? = some o1 ∧ ((w.alloc o1).alloc o2).heap[w.heap.size + 1]? = some o2 ∧ Below w.heap.size w ((w.alloc o1).alloc o2) := by
  have e1 : (w.alloc o1).heap.size = w.heap.size + 1 := by simp
  refine ⟨laid_old (World.alloc_heap_new w o1), ?_, below_al (below_al (Below.refl _ w) o1) o2⟩
  have := World.alloc_heap_new (w.alloc o1) o2
  rw [e1] at this
  exact this
theorem cells_at {W : World} {B : Nat} {cs : Array Value} {t : TypeId} (h : W.heap[B]? = some (.cells cs t)) (j : Nat) {v : Value} (hj : cs[j]? = some v) : W.cell? ⟨B, j, none⟩ = some v ∧ W.frozen? ⟨B, j, none⟩ = false := by
  refine ⟨?_, ?_⟩
  · simp only [World.cell?, h]
    exact hj
  · simp [World.frozen?, h]
set_option maxRecDepth 100000 in
set_option maxHeartbeats 8000000 in
theorem mref_law (A : Option Addr) (n c : Nat) (L : List CI) (d1 b1 : Int) (s1 : ByteArray) (d2 b2 : Int) (s2 : ByteArray) (k3 n3 d3 b3 : Int) (s3 : ByteArray) (p3 k4 n4 d4 b4 : Int) (s4 : ByteArray) (p4 : Int) (w : World) (hn : L.length = n) (hcap : n ≤ c) (hcm : c ≤ 9223372036854775807) (hM : (names L).length ≤ 2000000) (h : CIs w w.heap.size A L)
    (hz1 : s1.size ≤ 1152921504606846976) (hz2 : s2.size ≤ 1152921504606846976) (hz3 : s3.size ≤ 1152921504606846976) (hz4 : s4.size ≤ 1152921504606846976) :
    Calls Tryd.prog 10 #[.slice A n c, .agg #[.int .i64 d1, .int .u8 b1, .string s1, .int .i64 d2, .int .u8 b2, .string s2], .agg #[.int .i64 k3, .int .i64 n3, .int .i64 d3, .int .u8 b3, .string s3, .int .i64 p3, .int .i64 k4, .int .i64 n4, .int .i64 d4, .int .u8 b4, .string s4, .int .i64 p4]] w fun e w' => e = .returned (.bool true) ∧ Below w.heap.size w w' := by
  have HL := Lib.hid h
  have HN := Lib.hid hn
  have KA := Lib.hid (fun (W : World) (hW : Below w.heap.size w W) => acc_any A n c L W hn hcap hcm hM (h.up hW))
  have HV := Lib.hid (@accB_iff L)
  obtain ⟨r, hr⟩ : ∃ r, accB L = r := ⟨_, rfl⟩
  rw [hr] at KA HV
  clear h hn hM hr
  cases r with
  | false =>
    go_enter Tryd.func10, Tryd.ntmps10
    go_upto_region 1 with fail
    obtain ⟨R0, R1, hB⟩ := two_laid w (.cells #[.int .i64 d1, .int .u8 b1, .string s1, .int .i64 d2, .int .u8 b2, .string s2] 49) (.cells #[.int .i64 k3, .int .i64 n3, .int .i64 d3, .int .u8 b3, .string s3, .int .i64 p3, .int .i64 k4, .int .i64 n4, .int .i64 d4, .int .u8 b4, .string s4, .int .i64 p4] 50)
    generalize (w.alloc (.cells #[.int .i64 d1, .int .u8 b1, .string s1, .int .i64 d2, .int .u8 b2, .string s2] 49)).alloc (.cells #[.int .i64 k3, .int .i64 n3, .int .i64 d3, .int .u8 b3, .string s3, .int .i64 p3, .int .i64 k4, .int .i64 n4, .int .i64 d4, .int .u8 b4, .string s4, .int .i64 p4] 50) = W at R0 R1 hB ⊢
    obtain ⟨t0, ft0⟩ := cells_at R0 0 rfl
    obtain ⟨t1, ft1⟩ := cells_at R0 1 rfl
    obtain ⟨t2, ft2⟩ := cells_at R0 2 rfl
    obtain ⟨t3, ft3⟩ := cells_at R0 3 rfl
    obtain ⟨t4, ft4⟩ := cells_at R0 4 rfl
    obtain ⟨t5, ft5⟩ := cells_at R0 5 rfl
    obtain ⟨v0, fv0⟩ := cells_at R1 0 rfl
    obtain ⟨v1, fv1⟩ := cells_at R1 1 rfl
    obtain ⟨v2, fv2⟩ := cells_at R1 2 rfl
    obtain ⟨v3, fv3⟩ := cells_at R1 3 rfl
    obtain ⟨v4, fv4⟩ := cells_at R1 4 rfl
    obtain ⟨v5, fv5⟩ := cells_at R1 5 rfl
    obtain ⟨v6, fv6⟩ := cells_at R1 6 rfl
    obtain ⟨v7, fv7⟩ := cells_at R1 7 rfl
    obtain ⟨v8, fv8⟩ := cells_at R1 8 rfl
    obtain ⟨v9, fv9⟩ := cells_at R1 9 rfl
    obtain ⟨v10, fv10⟩ := cells_at R1 10 rfl
    obtain ⟨v11, fv11⟩ := cells_at R1 11 rfl
    go_wp2_with (first | (go_at_call 40; (with_reducible refine (KA.out _ hB).mono ?_); rintro e w1 ⟨rfl, hb1⟩; replace R0 := (hb1.block _ (lt_heap R0)).trans R0; replace R1 := (hb1.block _ (lt_heap R1)).trans R1; replace hB := below_on hB hb1; clear hb1 t0 ft0 t1 ft1 t2 ft2 t3 ft3 t4 ft4 t5 ft5 v0 fv0 v1 fv1 v2 fv2 v3 fv3 v4 fv4 v5 fv5 v6 fv6 v7 fv7 v8 fv8 v9 fv9 v10 fv10 v11 fv11; obtain ⟨t0, ft0⟩ := cells_at R0 0 rfl; obtain ⟨t1, ft1⟩ := cells_at R0 1 rfl; obtain ⟨t2, ft2⟩ := cells_at R0 2 rfl; obtain ⟨t3, ft3⟩ := cells_at R0 3 rfl; obtain ⟨t4, ft4⟩ := cells_at R0 4 rfl; obtain ⟨t5, ft5⟩ := cells_at R0 5 rfl; obtain ⟨v0, fv0⟩ := cells_at R1 0 rfl; obtain ⟨v1, fv1⟩ := cells_at R1 1 rfl; obtain ⟨v2, fv2⟩ := cells_at R1 2 rfl; obtain ⟨v3, fv3⟩ := cells_at R1 3 rfl; obtain ⟨v4, fv4⟩ := cells_at R1 4 rfl; obtain ⟨v5, fv5⟩ := cells_at R1 5 rfl; obtain ⟨v6, fv6⟩ := cells_at R1 6 rfl; obtain ⟨v7, fv7⟩ := cells_at R1 7 rfl; obtain ⟨v8, fv8⟩ := cells_at R1 8 rfl; obtain ⟨v9, fv9⟩ := cells_at R1 9 rfl; obtain ⟨v10, fv10⟩ := cells_at R1 10 rfl; obtain ⟨v11, fv11⟩ := cells_at R1 11 rfl) | (go_at_call 41; (with_reducible refine (works18_any _).mono ?_); rintro e w2 ⟨rfl, hb2⟩; replace hB := below_on hB hb2; clear hb2))
    go_ret
    exact ⟨rfl, hB⟩
  | true =>
    have HVV := Lib.hid (HV.out.1 rfl)
    have hn20 : n ≤ 20 := by rw [← HN.out]; exact HVV.out.1
    by_cases hs : 500 < (s1.size : Int) + s2.size + s3.size + s4.size
    · go_enter Tryd.func10, Tryd.ntmps10
      go_upto_region 1 with fail
      obtain ⟨R0, R1, hB⟩ := two_laid w (.cells #[.int .i64 d1, .int .u8 b1, .string s1, .int .i64 d2, .int .u8 b2, .string s2] 49) (.cells #[.int .i64 k3, .int .i64 n3, .int .i64 d3, .int .u8 b3, .string s3, .int .i64 p3, .int .i64 k4, .int .i64 n4, .int .i64 d4, .int .u8 b4, .string s4, .int .i64 p4] 50)
      generalize (w.alloc (.cells #[.int .i64 d1, .int .u8 b1, .string s1, .int .i64 d2, .int .u8 b2, .string s2] 49)).alloc (.cells #[.int .i64 k3, .int .i64 n3, .int .i64 d3, .int .u8 b3, .string s3, .int .i64 p3, .int .i64 k4, .int .i64 n4, .int .i64 d4, .int .u8 b4, .string s4, .int .i64 p4] 50) = W at R0 R1 hB ⊢
      obtain ⟨t0, ft0⟩ := cells_at R0 0 rfl
      obtain ⟨t1, ft1⟩ := cells_at R0 1 rfl
      obtain ⟨t2, ft2⟩ := cells_at R0 2 rfl
      obtain ⟨t3, ft3⟩ := cells_at R0 3 rfl
      obtain ⟨t4, ft4⟩ := cells_at R0 4 rfl
      obtain ⟨t5, ft5⟩ := cells_at R0 5 rfl
      obtain ⟨v0, fv0⟩ := cells_at R1 0 rfl
      obtain ⟨v1, fv1⟩ := cells_at R1 1 rfl
      obtain ⟨v2, fv2⟩ := cells_at R1 2 rfl
      obtain ⟨v3, fv3⟩ := cells_at R1 3 rfl
      obtain ⟨v4, fv4⟩ := cells_at R1 4 rfl
      obtain ⟨v5, fv5⟩ := cells_at R1 5 rfl
      obtain ⟨v6, fv6⟩ := cells_at R1 6 rfl
      obtain ⟨v7, fv7⟩ := cells_at R1 7 rfl
      obtain ⟨v8, fv8⟩ := cells_at R1 8 rfl
      obtain ⟨v9, fv9⟩ := cells_at R1 9 rfl
      obtain ⟨v10, fv10⟩ := cells_at R1 10 rfl
      obtain ⟨v11, fv11⟩ := cells_at R1 11 rfl
      go_wp2_with (first | (go_at_call 40; (with_reducible refine (KA.out _ hB).mono ?_); rintro e w1 ⟨rfl, hb1⟩; replace R0 := (hb1.block _ (lt_heap R0)).trans R0; replace R1 := (hb1.block _ (lt_heap R1)).trans R1; replace hB := below_on hB hb1; clear hb1 t0 ft0 t1 ft1 t2 ft2 t3 ft3 t4 ft4 t5 ft5 v0 fv0 v1 fv1 v2 fv2 v3 fv3 v4 fv4 v5 fv5 v6 fv6 v7 fv7 v8 fv8 v9 fv9 v10 fv10 v11 fv11; obtain ⟨t0, ft0⟩ := cells_at R0 0 rfl; obtain ⟨t1, ft1⟩ := cells_at R0 1 rfl; obtain ⟨t2, ft2⟩ := cells_at R0 2 rfl; obtain ⟨t3, ft3⟩ := cells_at R0 3 rfl; obtain ⟨t4, ft4⟩ := cells_at R0 4 rfl; obtain ⟨t5, ft5⟩ := cells_at R0 5 rfl; obtain ⟨v0, fv0⟩ := cells_at R1 0 rfl; obtain ⟨v1, fv1⟩ := cells_at R1 1 rfl; obtain ⟨v2, fv2⟩ := cells_at R1 2 rfl; obtain ⟨v3, fv3⟩ := cells_at R1 3 rfl; obtain ⟨v4, fv4⟩ := cells_at R1 4 rfl; obtain ⟨v5, fv5⟩ := cells_at R1 5 rfl; obtain ⟨v6, fv6⟩ := cells_at R1 6 rfl; obtain ⟨v7, fv7⟩ := cells_at R1 7 rfl; obtain ⟨v8, fv8⟩ := cells_at R1 8 rfl; obtain ⟨v9, fv9⟩ := cells_at R1 9 rfl; obtain ⟨v10, fv10⟩ := cells_at R1 10 rfl; obtain ⟨v11, fv11⟩ := cells_at R1 11 rfl) | (go_at_call 41; (with_reducible refine (works18_any _).mono ?_); rintro e w2 ⟨rfl, hb2⟩; replace hB := below_on hB hb2; clear hb2))
      go_ret
      exact ⟨rfl, hB⟩
    · go_enter Tryd.func10, Tryd.ntmps10
      go_upto_region 1 with fail
      obtain ⟨R0, R1, hB⟩ := two_laid w (.cells #[.int .i64 d1, .int .u8 b1, .string s1, .int .i64 d2, .int .u8 b2, .string s2] 49) (.cells #[.int .i64 k3, .int .i64 n3, .int .i64 d3, .int .u8 b3, .string s3, .int .i64 p3, .int .i64 k4, .int .i64 n4, .int .i64 d4, .int .u8 b4, .string s4, .int .i64 p4] 50)
      generalize (w.alloc (.cells #[.int .i64 d1, .int .u8 b1, .string s1, .int .i64 d2, .int .u8 b2, .string s2] 49)).alloc (.cells #[.int .i64 k3, .int .i64 n3, .int .i64 d3, .int .u8 b3, .string s3, .int .i64 p3, .int .i64 k4, .int .i64 n4, .int .i64 d4, .int .u8 b4, .string s4, .int .i64 p4] 50) = W at R0 R1 hB ⊢
      obtain ⟨t0, ft0⟩ := cells_at R0 0 rfl
      obtain ⟨t1, ft1⟩ := cells_at R0 1 rfl
      obtain ⟨t2, ft2⟩ := cells_at R0 2 rfl
      obtain ⟨t3, ft3⟩ := cells_at R0 3 rfl
      obtain ⟨t4, ft4⟩ := cells_at R0 4 rfl
      obtain ⟨t5, ft5⟩ := cells_at R0 5 rfl
      obtain ⟨v0, fv0⟩ := cells_at R1 0 rfl
      obtain ⟨v1, fv1⟩ := cells_at R1 1 rfl
      obtain ⟨v2, fv2⟩ := cells_at R1 2 rfl
      obtain ⟨v3, fv3⟩ := cells_at R1 3 rfl
      obtain ⟨v4, fv4⟩ := cells_at R1 4 rfl
      obtain ⟨v5, fv5⟩ := cells_at R1 5 rfl
      obtain ⟨v6, fv6⟩ := cells_at R1 6 rfl
      obtain ⟨v7, fv7⟩ := cells_at R1 7 rfl
      obtain ⟨v8, fv8⟩ := cells_at R1 8 rfl
      obtain ⟨v9, fv9⟩ := cells_at R1 9 rfl
      obtain ⟨v10, fv10⟩ := cells_at R1 10 rfl
      obtain ⟨v11, fv11⟩ := cells_at R1 11 rfl
      go_upto_region 3 with (go_at_call 40; (with_reducible refine (KA.out _ hB).mono ?_); rintro e w1 ⟨rfl, hb1⟩; replace R0 := (hb1.block _ (lt_heap R0)).trans R0; replace R1 := (hb1.block _ (lt_heap R1)).trans R1; replace hB := below_on hB hb1; clear hb1 t0 ft0 t1 ft1 t2 ft2 t3 ft3 t4 ft4 t5 ft5 v0 fv0 v1 fv1 v2 fv2 v3 fv3 v4 fv4 v5 fv5 v6 fv6 v7 fv7 v8 fv8 v9 fv9 v10 fv10 v11 fv11; obtain ⟨t0, ft0⟩ := cells_at R0 0 rfl; obtain ⟨t1, ft1⟩ := cells_at R0 1 rfl; obtain ⟨t2, ft2⟩ := cells_at R0 2 rfl; obtain ⟨t3, ft3⟩ := cells_at R0 3 rfl; obtain ⟨t4, ft4⟩ := cells_at R0 4 rfl; obtain ⟨t5, ft5⟩ := cells_at R0 5 rfl; obtain ⟨v0, fv0⟩ := cells_at R1 0 rfl; obtain ⟨v1, fv1⟩ := cells_at R1 1 rfl; obtain ⟨v2, fv2⟩ := cells_at R1 2 rfl; obtain ⟨v3, fv3⟩ := cells_at R1 3 rfl; obtain ⟨v4, fv4⟩ := cells_at R1 4 rfl; obtain ⟨v5, fv5⟩ := cells_at R1 5 rfl; obtain ⟨v6, fv6⟩ := cells_at R1 6 rfl; obtain ⟨v7, fv7⟩ := cells_at R1 7 rfl; obtain ⟨v8, fv8⟩ := cells_at R1 8 rfl; obtain ⟨v9, fv9⟩ := cells_at R1 9 rfl; obtain ⟨v10, fv10⟩ := cells_at R1 10 rfl; obtain ⟨v11, fv11⟩ := cells_at R1 11 rfl)
      have KT := Lib.hid (show ∃ t : TY, (∀ W', Below w1.heap.size w1 W' → Calls Tryd.prog 42 #[.slice A n c, .agg #[.int .i64 d1, .int .u8 b1, .string s1], .agg #[.int .i64 d2, .int .u8 b2, .string s2]] W' fun e w' => e = .returned (.agg #[.int .i64 t.d, .int .u8 t.b, .string t.s]) ∧ Below W'.heap.size W' w') ∧ (∀ W', Below w1.heap.size w1 W' → Calls Tryd.prog 43 #[.slice A n c, .agg #[.int .i64 d1, .int .u8 b1, .string s1], .agg #[.int .i64 d2, .int .u8 b2, .string s2]] W' fun e w' => e = .returned (.agg #[.int .i64 t.d, .int .u8 t.b, .string t.s]) ∧ Below W'.heap.size W' w') from ⟨tyJ L ⟨d1, b1, s1⟩ ⟨d2, b2, s2⟩, fun W' hW => mty_any A n c L ⟨d1, b1, s1⟩ ⟨d2, b2, s2⟩ W' HN.out (by omega) HVV.out.2 ((HL.out.up hB).up hW) (Nat.le_trans hz1 (by omega)) (Nat.le_trans hz2 (by omega)), fun W' hW => rty_any A n c L ⟨d1, b1, s1⟩ ⟨d2, b2, s2⟩ W' HN.out (by omega) HVV.out.2 ((HL.out.up hB).up hW) (Nat.le_trans hz1 (by omega)) (Nat.le_trans hz2 (by omega))⟩)
      have KV := Lib.hid (show ∃ v : VT, (∀ W', Below w1.heap.size w1 W' → Calls Tryd.prog 44 #[.slice A n c, .agg #[.int .i64 k3, .int .i64 n3, .int .i64 d3, .int .u8 b3, .string s3, .int .i64 p3], .agg #[.int .i64 k4, .int .i64 n4, .int .i64 d4, .int .u8 b4, .string s4, .int .i64 p4]] W' fun e w' => e = .returned (.agg #[.int .i64 v.k, .int .i64 v.n, .int .i64 v.d, .int .u8 v.b, .string v.s, .int .i64 v.p]) ∧ Below W'.heap.size W' w') ∧ (∀ W', Below w1.heap.size w1 W' → Calls Tryd.prog 45 #[.slice A n c, .agg #[.int .i64 k3, .int .i64 n3, .int .i64 d3, .int .u8 b3, .string s3, .int .i64 p3], .agg #[.int .i64 k4, .int .i64 n4, .int .i64 d4, .int .u8 b4, .string s4, .int .i64 p4]] W' fun e w' => e = .returned (.agg #[.int .i64 v.k, .int .i64 v.n, .int .i64 v.d, .int .u8 v.b, .string v.s, .int .i64 v.p]) ∧ Below W'.heap.size W' w') from ⟨vtJ L ⟨k3, n3, d3, b3, s3, p3⟩ ⟨k4, n4, d4, b4, s4, p4⟩, fun W' hW => mvt_any A n c L ⟨k3, n3, d3, b3, s3, p3⟩ ⟨k4, n4, d4, b4, s4, p4⟩ W' HN.out (by omega) HVV.out.2 ((HL.out.up hB).up hW) (Nat.le_trans hz3 (by omega)) (Nat.le_trans hz4 (by omega)), fun W' hW => rvt_any A n c L ⟨k3, n3, d3, b3, s3, p3⟩ ⟨k4, n4, d4, b4, s4, p4⟩ W' HN.out (by omega) HVV.out.2 ((HL.out.up hB).up hW) (Nat.le_trans hz3 (by omega)) (Nat.le_trans hz4 (by omega))⟩)
      obtain ⟨t, K1, K2⟩ := KT.out
      obtain ⟨v, K3, K4⟩ := KV.out
      replace K1 := Lib.hid K1
      replace K2 := Lib.hid K2
      replace K3 := Lib.hid K3
      replace K4 := Lib.hid K4
      have e1 := fun w => ty_eqP (tyE_self ⟨t.d, t.b, t.s⟩) w
      have e2 := fun w => vt_eqF (vtE_self ⟨v.k, v.n, v.d, v.b, v.s, v.p⟩) w
      have HB := Lib.hid hB
      have hl0 := lt_heap R0
      have hl1 := lt_heap R1
      have KS := Lib.hid (fun (w' : World) (hb : Below w1.heap.size w1 w') => show (fun (w' : World) => w'.cell? ⟨w.heap.size, 0, none⟩ = some (.int .i64 d1) ∧ w'.cell? ⟨w.heap.size, 1, none⟩ = some (.int .u8 b1) ∧ w'.cell? ⟨w.heap.size, 2, none⟩ = some (.string s1) ∧ w'.cell? ⟨w.heap.size, 3, none⟩ = some (.int .i64 d2) ∧ w'.cell? ⟨w.heap.size, 4, none⟩ = some (.int .u8 b2) ∧ w'.cell? ⟨w.heap.size, 5, none⟩ = some (.string s2) ∧ w'.cell? ⟨w.heap.size + 1, 0, none⟩ = some (.int .i64 k3) ∧ w'.cell? ⟨w.heap.size + 1, 1, none⟩ = some (.int .i64 n3) ∧ w'.cell? ⟨w.heap.size + 1, 2, none⟩ = some (.int .i64 d3) ∧ w'.cell? ⟨w.heap.size + 1, 3, none⟩ = some (.int .u8 b3) ∧ w'.cell? ⟨w.heap.size + 1, 4, none⟩ = some (.string s3) ∧ w'.cell? ⟨w.heap.size + 1, 5, none⟩ = some (.int .i64 p3) ∧ w'.cell? ⟨w.heap.size + 1, 6, none⟩ = some (.int .i64 k4) ∧ w'.cell? ⟨w.heap.size + 1, 7, none⟩ = some (.int .i64 n4) ∧ w'.cell? ⟨w.heap.size + 1, 8, none⟩ = some (.int .i64 d4) ∧ w'.cell? ⟨w.heap.size + 1, 9, none⟩ = some (.int .u8 b4) ∧ w'.cell? ⟨w.heap.size + 1, 10, none⟩ = some (.string s4) ∧ w'.cell? ⟨w.heap.size + 1, 11, none⟩ = some (.int .i64 p4) ∧ Below w1.heap.size w1 w') w' from ⟨(hb.cell (p := ⟨w.heap.size, 0, none⟩) hl0).trans t0, (hb.cell (p := ⟨w.heap.size, 1, none⟩) hl0).trans t1, (hb.cell (p := ⟨w.heap.size, 2, none⟩) hl0).trans t2, (hb.cell (p := ⟨w.heap.size, 3, none⟩) hl0).trans t3, (hb.cell (p := ⟨w.heap.size, 4, none⟩) hl0).trans t4, (hb.cell (p := ⟨w.heap.size, 5, none⟩) hl0).trans t5, (hb.cell (p := ⟨w.heap.size + 1, 0, none⟩) hl1).trans v0, (hb.cell (p := ⟨w.heap.size + 1, 1, none⟩) hl1).trans v1, (hb.cell (p := ⟨w.heap.size + 1, 2, none⟩) hl1).trans v2, (hb.cell (p := ⟨w.heap.size + 1, 3, none⟩) hl1).trans v3, (hb.cell (p := ⟨w.heap.size + 1, 4, none⟩) hl1).trans v4, (hb.cell (p := ⟨w.heap.size + 1, 5, none⟩) hl1).trans v5, (hb.cell (p := ⟨w.heap.size + 1, 6, none⟩) hl1).trans v6, (hb.cell (p := ⟨w.heap.size + 1, 7, none⟩) hl1).trans v7, (hb.cell (p := ⟨w.heap.size + 1, 8, none⟩) hl1).trans v8, (hb.cell (p := ⟨w.heap.size + 1, 9, none⟩) hl1).trans v9, (hb.cell (p := ⟨w.heap.size + 1, 10, none⟩) hl1).trans v10, (hb.cell (p := ⟨w.heap.size + 1, 11, none⟩) hl1).trans v11, hb⟩)
      clear R0 R1 hB KT KV
      have hW0 := Below.refl w1.heap.size w1
      go_region_held3 (fun (w' : World) => w'.cell? ⟨w.heap.size, 0, none⟩ = some (.int .i64 d1) ∧ w'.cell? ⟨w.heap.size, 1, none⟩ = some (.int .u8 b1) ∧ w'.cell? ⟨w.heap.size, 2, none⟩ = some (.string s1) ∧ w'.cell? ⟨w.heap.size, 3, none⟩ = some (.int .i64 d2) ∧ w'.cell? ⟨w.heap.size, 4, none⟩ = some (.int .u8 b2) ∧ w'.cell? ⟨w.heap.size, 5, none⟩ = some (.string s2) ∧ w'.cell? ⟨w.heap.size + 1, 0, none⟩ = some (.int .i64 k3) ∧ w'.cell? ⟨w.heap.size + 1, 1, none⟩ = some (.int .i64 n3) ∧ w'.cell? ⟨w.heap.size + 1, 2, none⟩ = some (.int .i64 d3) ∧ w'.cell? ⟨w.heap.size + 1, 3, none⟩ = some (.int .u8 b3) ∧ w'.cell? ⟨w.heap.size + 1, 4, none⟩ = some (.string s3) ∧ w'.cell? ⟨w.heap.size + 1, 5, none⟩ = some (.int .i64 p3) ∧ w'.cell? ⟨w.heap.size + 1, 6, none⟩ = some (.int .i64 k4) ∧ w'.cell? ⟨w.heap.size + 1, 7, none⟩ = some (.int .i64 n4) ∧ w'.cell? ⟨w.heap.size + 1, 8, none⟩ = some (.int .i64 d4) ∧ w'.cell? ⟨w.heap.size + 1, 9, none⟩ = some (.int .u8 b4) ∧ w'.cell? ⟨w.heap.size + 1, 10, none⟩ = some (.string s4) ∧ w'.cell? ⟨w.heap.size + 1, 11, none⟩ = some (.int .i64 p4) ∧ Below w1.heap.size w1 w') (((try go_split_ands); (first | (exact KS.out _ (below_on (w := w1) (by assumption) hq)) | (exact KS.out _ (Below.drew (by assumption))) | ((repeat' apply And.intro) <;> (first | assumption | go_keep)))))
        (first | (go_at_call 42; (with_reducible refine (K1.out _ ?_).mono ?_); (first | assumption | (go_split_ands; assumption)); rintro e wq ⟨rfl, hq⟩) | (go_at_call 43; (with_reducible refine (K2.out _ ?_).mono ?_); (first | assumption | (go_split_ands; assumption)); rintro e wq ⟨rfl, hq⟩) | (go_at_call 44; (with_reducible refine (K3.out _ ?_).mono ?_); (first | assumption | (go_split_ands; assumption)); rintro e wq ⟨rfl, hq⟩) | (go_at_call 45; (with_reducible refine (K4.out _ ?_).mono ?_); (first | assumption | (go_split_ands; assumption)); rintro e wq ⟨rfl, hq⟩) | (go_at_call 41; (with_reducible refine (works18_any _).mono ?_); rintro e wq ⟨rfl, hq⟩))
      go_wp2
      go_ret
      refine ⟨rfl, ?_⟩
      go_split_ands
      exact below_on HB.out (by assumption)
end Go.Proofs.YthifmcnemeiphaaDoor
