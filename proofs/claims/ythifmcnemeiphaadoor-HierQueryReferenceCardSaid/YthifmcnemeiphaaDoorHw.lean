/- Layer 16: the reference's Superclasses. -/
import Derived.Test.YthifmcnemeiphaaDoorHv
import Derived.Test.YthifmcnemeiphaaDoorHx
namespace Go.Proofs.YthifmcnemeiphaaDoor
open Go.ChangeShapes Go.WideShapes Go.ChangeAt Go.RowKit Go.PlainAid Go.Maps
set_option linter.unusedSimpArgs false
set_option linter.unusedVariables false

structure RsInv (L : List CI) (n : Nat) (a : ByteArray) (w : World) (v : Value) (S : List ByteArray) (b : ByteArray) (wr : World) : Prop where
  tot : supL L a = S ++ chain L (n + 1 - S.length) b
  len : S.length ≤ n + 1
  own : wr.ownsRow w.heap.size 9 1 v S.length (strs S)
  bel : Below w.heap.size w wr
set_option maxRecDepth 100000 in
set_option maxHeartbeats 4000000 in
theorem rsup_any (A : Option Addr) (n c : Nat) (L : List CI) (a : ByteArray) (w : World) (hn : L.length = n) (hc : n ≤ 1000000) (h : CIs w w.heap.size A L) :
    Calls Tryd.prog 29 #[.slice A n c, .string a] w (StrOwn w (supL L a)) := by
  have HL := Lib.hid h
  have HN := Lib.hid hn
  clear h hn
  go_enter Tryd.func29, Tryd.ntmps29
  go_upto_region 2 with fail
  have own0 := own_strs_nil (base := w.heap.size) w (Nat.le_refl _)
  have hb0 := below_al (Below.refl w.heap.size w) (.cells #[] 9)
  generalize w.alloc (.cells #[] 9) = W at own0 hb0 ⊢
  have HST := Lib.hid (show RsInv L n a w (.slice (some ⟨w.heap.size, 0, none⟩) 0 0) [] a W from ⟨by unfold supL; rw [HN.out]; rfl, Nat.zero_le _, own0, hb0⟩)
  clear own0 hb0
  go_wp2
  go_loopw [5, 6, 7] (fun v bv iv wr => ∃ (b : ByteArray) (S : List ByteArray), bv = .string b ∧ iv = .int .i64 (S.length : Int) ∧ Hid (RsInv L n a w v S b wr)) (fun _ _ iv _ => n + 1 - (intOf iv).toNat)
  case atStart => exact ⟨a, [], rfl, rfl, HST⟩
  case round =>
    obtain ⟨b, S, rfl, rfl, HI⟩ := hrel
    obtain ⟨vA, vc, rfl, hvc1, hvc2⟩ := own_shape HI.out.own
    have hle := HI.out.len
    clear HST
    obtain ⟨k, hk⟩ : ∃ k, S.length = k := ⟨_, rfl⟩
    have HK := Lib.hid hk
    by_cases hlt : k ≤ n
    · have hkk : S.length ≤ n := by omega
      have HL1 := Lib.hid (rlookup_any A n c L b wr HN.out (by omega) (HL.out.up HI.out.bel))
      obtain ⟨y, hy⟩ : ∃ y, lkC L b = y := ⟨_, rfl⟩
      have HY := Lib.hid hy
      rw [hy] at HL1
      rw [hk] at hvc1 ⊢
      clear hk hy hle hkk
      cases hf : fB L b with
      | false =>
        rw [hf] at HL1
        have HT := Lib.hid (show supL L a = S by rw [HI.out.tot, chain_no hf, List.append_nil])
        clear hf
        go_wp2_with (go_at_call 21; (with_reducible refine (HL1.out).mono ?_); rintro e w1 ⟨rfl, hb1⟩)
        go_ret
        rw [HT.out]
        exact ⟨.slice vA k vc, rfl, by have := (own_bel HI.out.own hb1).alloc (.cells #[.string y.nm, .string y.su, .slice y.iA y.n y.c, .bool y.isI] 30); rw [HK.out] at this ⊢; exact this, below_al (below_on HI.out.bel hb1) _⟩
      | true =>
        rw [hf] at HL1
        have HF := Lib.hid hf
        clear hf
        go_upto_region 9 with (go_at_call 21; (with_reducible refine (HL1.out).mono ?_); rintro e w1 ⟨rfl, hb1⟩)
        have HB1 := Lib.hid hb1
        have hbx := World.alloc_heap_new w1 (.cells #[.string y.nm, .string y.su, .slice y.iA y.n y.c, .bool y.isI] 30)
        have HO2 := Lib.hid (show (w1.alloc (.cells #[.string y.nm, .string y.su, .slice y.iA y.n y.c, .bool y.isI] 30)).ownsRow w.heap.size 9 1 (.slice vA k vc) k (strs S) from by have := (own_bel HI.out.own hb1).alloc (.cells #[.string y.nm, .string y.su, .slice y.iA y.n y.c, .bool y.isI] 30); rw [HK.out] at this; exact this)
        have HB2 := Lib.hid (below_al (below_on HI.out.bel hb1) (.cells #[.string y.nm, .string y.su, .slice y.iA y.n y.c, .bool y.isI] 30))
        generalize w1.alloc (.cells #[.string y.nm, .string y.su, .slice y.iA y.n y.c, .bool y.isI] 30) = W2 at hbx HO2 HB2 ⊢
        generalize w1.heap.size = B8 at hbx ⊢
        have HBX := Lib.hid hbx
        have hlb := lt_heap hbx
        clear hb1 hbx
        go_upto_region 10 with (at_builtin; refine wpList_append_strs rfl _ _ rfl w.heap.size k 1 1 (W2.heap.size + 1) S [b] (.slice vA k vc) (some ⟨W2.heap.size, 0, none⟩) rfl (HO2.out.alloc _) rfl (srow_new _ _) rfl (fun h => by cases h) (by omega) (by rw [World.size_alloc]; have := HB2.out.size; omega) ?_; intro v' w3 hown hgrow)
        obtain ⟨g', cap', rfl⟩ := ownsRow_succ hown
        have hbx3 := (hgrow.block B8 (by rw [World.size_alloc]; omega) (Boxed.not_rowC HBX.out (by decide) HO2.out)).trans (laid_old HBX.out)
        obtain ⟨⟨x0, x1, x2, x3⟩, _⟩ := four_cells hbx3
        have J := Lib.hid (show RsInv L n a w (.slice (some ⟨g', 0, none⟩) (k + 1) cap') (S ++ [b]) y.su w3 from by
          refine ⟨?_, ?_, ?_, ?_⟩
          · rw [HI.out.tot, List.append_assoc, List.length_append, List.length_singleton, HK.out]
            congr 1
            rw [show n + 1 - k = (n - k) + 1 by omega, chain_yes HF.out, HY.out, show n + 1 - (k + 1) = n - k by omega]
            rfl
          · rw [List.length_append, List.length_singleton, HK.out]; omega
          · rw [List.length_append, List.length_singleton, HK.out]; exact hown
          · exact (below_al HB2.out _).grown hgrow (by rw [World.size_alloc]; have := HB2.out.size; omega) (fun q hq => (HO2.out.lt q hq).1))
        have HJL := Lib.hid (show (S ++ [b]).length = k + 1 by rw [List.length_append, List.length_singleton, HK.out])
        clear hown hgrow hbx3
        go_wp2
        go_roundw
        case rel => exact ⟨y.su, S ++ [b], rfl, by rw [HJL.out]; go_num, J⟩
        case measure => simp [intOf]; omega
    · obtain rfl : k = n + 1 := by omega
      have HT := Lib.hid (show supL L a = S by rw [HI.out.tot, hk, Nat.sub_self]; exact List.append_nil _)
      rw [hk]
      clear hk hle
      have hgt : ¬ ((n + 1 : Nat) : Int) ≤ n := by omega
      go_wp2
      go_ret
      rw [HT.out]
      exact ⟨.slice vA (n + 1) vc, rfl, by have := HI.out.own; rw [HK.out] at this ⊢; exact this, HI.out.bel⟩
end Go.Proofs.YthifmcnemeiphaaDoor
