/- Layer 53: the law LexFormatReference. -/
import Derived.Test.YtfpdnhbbbadegaaGreatDoorTn
import Derived.Test.YtfpdnhbbbadegaaGreatDoorTo
import Derived.Test.YtfpdnhbbbadegaaGreatDoorYv
namespace Go.Proofs.YtfpdnhbbbadegaaGreatDoor
open Go.ChangeShapes Go.WideShapes Go.ChangeAt Go.RowKit Go.PlainAid
set_option linter.unusedSimpArgs false
set_option linter.unusedVariables false

theorem fmV_form (k : Int) (s : List UInt8) (n : Int) : ∃ (X : ByteArray) (E : Int), fmV k s n = .tuple #[.string X, .int .i64 E] := by
  unfold fmV
  split
  · exact ⟨_, _, rfl⟩
  · exact ⟨_, _, rfl⟩
set_option maxRecDepth 100000 in
set_option maxHeartbeats 4000000 in
theorem fmtref_law {w : World} (k m a : Int) (t : ByteArray) (hm0 : -9223372036854775808 ≤ m) (hm1 : m ≤ 9223372036854775807) (htz : t.size ≤ 9223372036854775807) {A : Option Addr} {n c : Nat} {L : List Tk} (hn : n ≤ 9223372036854775807) (h : TkR w A n L) (hz : ∀ t ∈ L, t.s.length ≤ 1048576)
    (s : ByteArray) (hs : s.size ≤ 9223372036854775807) (hL : Laid w) :
    Calls Tryz.prog 4 #[.agg #[.int .i64 k, .string t, .int .i64 m, .int .i64 a], .slice A n c, .string s] w fun e w' => e = .returned (.bool true) ∧ Below w.heap.size w w' := by
  have KA := Lib.hid (fun W (hW : Laid W) => awake53_any W hW)
  have HL := Lib.hid hL
  have HX1 := Lib.hid h
  have HZ := Lib.hid (World.alloc_heap_new w (.cells #[.int .i64 k, .string t, .int .i64 m, .int .i64 a] 27))
  have HB := Lib.hid (below_al (Below.refl w.heap.size w) (.cells #[.int .i64 k, .string t, .int .i64 m, .int .i64 a] 27))
  have HZZ := Lib.hid hz
  have HN := Lib.hid hn
  clear hL h hz
  by_cases htl : 100000 < t.size
  · have htl' : (100000 : Int) < (t.size : Int) := by omega
    go_enter Tryz.func4, Tryz.ntmps4
    go_upto_region 1 with fail
    generalize w.alloc (.cells #[.int .i64 k, .string t, .int .i64 m, .int .i64 a] 27) = W0 at HZ HB ⊢
    obtain ⟨⟨z0, z1, z2, z3⟩, fz, yz⟩ := four_cellsT HZ.out
    go_wp2_with (first | (go_at_call 7; refine (KA.out _ (HL.out.up HB.out)).mono ?_; rintro e w1 ⟨rfl, hb1⟩; have HB1 := Lib.hid (below_on HB.out hb1); clear hb1))
    go_ret
    exact ⟨rfl, HB1.out⟩
  · have htl' : ¬ (100000 : Int) < (t.size : Int) := by omega
    have HX2 := Lib.hid (HX1.out.up HB.out)
    have KF := few_any (c := c) hn HX2.out
    cases hf : fwB L with
    | false =>
      rw [hf] at KF
      clear hf
      go_enter Tryz.func4, Tryz.ntmps4
      go_upto_region 1 with fail
      generalize w.alloc (.cells #[.int .i64 k, .string t, .int .i64 m, .int .i64 a] 27) = W0 at HZ HB KF HX2 ⊢
      obtain ⟨⟨z0, z1, z2, z3⟩, fz, yz⟩ := four_cellsT HZ.out
      go_wp2_with (first | (go_at_call 8; refine KF.mono ?_; rintro e w1 ⟨rfl, rfl⟩) | (go_at_call 7; refine (KA.out _ (HL.out.up HB.out)).mono ?_; rintro e w1 ⟨rfl, hb1⟩; have HB1 := Lib.hid (below_on HB.out hb1); clear hb1))
      go_ret
      exact ⟨rfl, HB1.out⟩
    | true =>
      rw [hf] at KF
      obtain ⟨X1, E1, hF⟩ := fmV_form k t.data.toList m
      have K1 := Lib.hid (fun W (hW : Laid W) => (by have h := format_any k m a t (by omega) hm0 hm1 W hW; rw [hF] at h; exact h : Calls Tryz.prog 9 #[.agg #[.int .i64 k, .string t, .int .i64 m, .int .i64 a]] W fun e w' => e = .returned (.tuple #[.string X1, .int .i64 E1]) ∧ Below W.heap.size W w'))
      have K2 := Lib.hid (fun W => (by have h := rformat_any k m a t (by omega) hm1 W; rw [hF] at h; exact h : Calls Tryz.prog 10 #[.agg #[.int .i64 k, .string t, .int .i64 m, .int .i64 a]] W fun e w' => e = .returned (.tuple #[.string X1, .int .i64 E1]) ∧ Below W.heap.size W w'))
      obtain ⟨X2, hX2⟩ : ∃ X, bsB (joS L) = X := ⟨_, rfl⟩
      obtain ⟨E2, hE2⟩ : ∃ E, joE L = E := ⟨_, rfl⟩
      have K3 := Lib.hid (fun W (hW : Laid W) (hT : TkR W A n L) => (by have h := join_any (c := c) HN.out hT HZZ.out hW; rw [hX2, hE2] at h; exact h : Calls Tryz.prog 11 #[.slice A n c] W fun e w' => e = .returned (.tuple #[.string X2, .int .i64 E2]) ∧ Below W.heap.size W w'))
      have K4 := Lib.hid (fun W (hT : TkR W A n L) => (by have h := rjoin_any (c := c) HN.out hT HZZ.out; rw [hX2, hE2] at h; exact h : Calls Tryz.prog 12 #[.slice A n c] W fun e w' => e = .returned (.tuple #[.string X2, .int .i64 E2]) ∧ Below W.heap.size W w'))
      clear hf hF hX2 hE2
      go_enter Tryz.func4, Tryz.ntmps4
      go_upto_region 1 with fail
      generalize w.alloc (.cells #[.int .i64 k, .string t, .int .i64 m, .int .i64 a] 27) = W0 at HZ HB KF HX2 ⊢
      obtain ⟨⟨z0, z1, z2, z3⟩, fz, yz⟩ := four_cellsT HZ.out
      go_upto_region 7 with (first | (go_at_call 8; refine KF.mono ?_; rintro e w1 ⟨rfl, rfl⟩) | (go_at_call 9; refine (K1.out _ (HL.out.up HB.out)).mono ?_; rintro e w1 ⟨rfl, hb⟩; have HB := Lib.hid (below_on HB.out hb); have HX2 := Lib.hid (HX2.out.up hb); have HZ := Lib.hid ((hb.block _ (lt_heap HZ.out)).trans HZ.out); obtain ⟨⟨z0, z1, z2, z3⟩, fz, yz⟩ := four_cellsT HZ.out; clear hb) | (go_at_call 10; refine (K2.out _).mono ?_; rintro e w2 ⟨rfl, hb⟩; have HB := Lib.hid (below_on HB.out hb); have HX2 := Lib.hid (HX2.out.up hb); clear hb) | (go_at_call 11; refine (K3.out _ (HL.out.up HB.out) HX2.out).mono ?_; rintro e w3 ⟨rfl, hb⟩; have HB := Lib.hid (below_on HB.out hb); have HX2 := Lib.hid (HX2.out.up hb); clear hb) | (go_at_call 12; refine (K4.out _ HX2.out).mono ?_; rintro e w4 ⟨rfl, hb⟩; have HB := Lib.hid (below_on HB.out hb); clear hb))
      clear fz yz z0 z1 z2 z3
      have KW := Lib.hid (kws_any w4 (HL.out.up HB.out))
      have KR := Lib.hid (rkws_any (w4.alloc kwO))
      have HB5 := Lib.hid (below_al (below_al HB.out kwO) (strO kwL))
      have HC2 := Lib.hid (kw_cells (w4.alloc kwO))
      have HC1 := Lib.hid (show ∀ (k : Nat) (x : List UInt8), kwL[k]? = some x → ((w4.alloc kwO).alloc (strO kwL)).cell? ⟨w4.heap.size, k, none⟩ = some (.string (bsB x)) from fun k x hx => by
        have h := kw_cells w4 k x hx
        have hlt : w4.heap.size < (w4.alloc (strO kwL)).heap.size := by rw [World.size_alloc]; omega
        rw [← h]
        exact (below_al (Below.refl _ (w4.alloc (strO kwL))) (strO kwL)).cell (p := ⟨w4.heap.size, k, none⟩) hlt)
      go_upto_region 11 with (first | (go_at_call 13; refine KW.out.mono ?_; rintro e w5 ⟨rfl, rfl⟩) | (go_at_call 14; refine KR.out.mono ?_; rintro e w6 ⟨rfl, rfl⟩))
      clear KW KR
      rw [show (w4.alloc kwO).heap.size = w4.heap.size + 1 from World.size_alloc _ _] at HC2
      generalize (w4.alloc kwO).alloc (strO kwL) = w6 at HB5 HC1 HC2 ⊢
      generalize w4.heap.size = g1 at HC1 HC2 ⊢
      go_loopw [17] (fun x wr => ∃ j q : Nat, j ≤ 28 ∧ x = .int .i64 j ∧ wr = w6.drewN q) (fun x _ => 28 - (intOf x).toNat)
      case atStart => exact ⟨0, 0, Nat.zero_le _, rfl, rfl⟩
      case round =>
        obtain ⟨j, q, hj, rfl, rfl⟩ := hrel
        by_cases hlt : j < 28
        · have hjl : j < kwL.length := hlt
          obtain ⟨x, hx⟩ : ∃ x, kwL[j]? = some x := ⟨_, List.getElem?_eq_getElem hjl⟩
          have h1 := HC1.out j x hx
          have h2 := HC2.out j x hx
          have hj0 : (0 : Int) ≤ (j : Int) := by omega
          have hj1 : (j : Int) < 28 := by omega
          clear hx
          go_wp2
          go_quiet (fail)
          go_wp2
          exact ⟨⟨j + 1, _, hlt, by go_num, rfl⟩, by simp [intOf]; omega⟩
        · obtain rfl : j = 28 := by omega
          have HB6 := Lib.hid (below_dr HB5.out q)
          generalize w6.drewN q = w7 at HB6 ⊢
          go_wp2_with (first | (go_at_call 7; refine (KA.out _ (HL.out.up HB6.out)).mono ?_; rintro e w8 ⟨rfl, hb⟩; have HB7 := Lib.hid (below_on HB6.out hb); clear hb) | (go_at_call 15; refine (lcl_any s hs _).mono ?_; rintro e w9 ⟨rfl, hb⟩; have HB8 := Lib.hid (below_on HB7.out hb); clear hb) | (go_at_call 16; refine (rlcl_any s hs _).mono ?_; rintro e w10 ⟨rfl, rfl⟩))
          go_ret
          exact ⟨by first | rfl | simp, HB8.out⟩

end Go.Proofs.YtfpdnhbbbadegaaGreatDoor
