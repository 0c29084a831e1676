/- Layer 53: the law LexTokenizeReference. -/
import Derived.Test.YtfpdnhbbbadegaaGreatDoorTh
import Derived.Test.YtfpdnhbbbadegaaGreatDoorYv
import Derived.Test.YtfpdnhbbbadegaaGreatDoorYxp
namespace Go.Proofs.YtfpdnhbbbadegaaGreatDoor
open Go.ChangeShapes Go.WideShapes Go.ChangeAt Go.RowKit Go.PlainAid
set_option linter.unusedSimpArgs false
set_option linter.unusedVariables false

theorem tk_neq (k n a : Int) (s : ByteArray) (w : World) : (binOp .neq 27 (.agg #[.int .i64 k, .string s, .int .i64 n, .int .i64 a]) (.agg #[.int .i64 k, .string s, .int .i64 n, .int .i64 a])).run Tryz.prog w = .ok (.bool false) w := by
  simp [go_sem]
set_option maxRecDepth 100000 in
set_option maxHeartbeats 4000000 in
theorem tokref_law (s : ByteArray) (hs : s.size ≤ 9223372036854775807) (w : World) (hL : Laid w) :
    Calls Tryz.prog 3 #[.string s] w fun e w' => e = .returned (.bool true) ∧ Below w.heap.size w w' := by
  have KA := Lib.hid (fun W (hW : Laid W) => awake53_any W hW)
  have HL := Lib.hid hL
  have T1 := fun W (hW : Laid W) => tokenize_any s hs W hW
  have T2 := fun W (hW : Laid W) => rtokenize_any s hs W hW
  have r1 := tkL_rng s.data.toList
  have l1 := tkL_len s.data.toList
  obtain ⟨⟨L, P, E⟩, hR1⟩ : ∃ R, tkL s.data.toList = R := ⟨_, rfl⟩
  rw [hR1] at T1 T2 r1 l1
  simp only at r1 l1
  have TT1 := Lib.hid T1
  have TT2 := Lib.hid T2
  have R1 := Lib.hid r1
  have LL1 := Lib.hid l1
  clear hL T1 T2 r1 l1 hR1
  go_enter Tryz.func3, Tryz.ntmps3
  go_wp2_with (first
    | (go_at_call 5; refine (TT1.out _ HL.out).mono ?_; rintro e w1 ⟨A1, n1, c1, rfl, ho1, hb1⟩; have hl1 := ho1.len; have hn1 : n1 ≤ 5000 := (by rw [← hl1]; exact LL1.out); have HL1 := Lib.hid hl1; have HX1 := Lib.hid (own_tkr ho1 R1.out); have HB := Lib.hid hb1; clear hb1 ho1 hl1)
    | (go_at_call 6; refine (TT2.out _ (HL.out.up HB.out)).mono ?_; rintro e w2 ⟨A2, n2, c2, rfl, ho2, hb2⟩; have hl2 := ho2.len; obtain rfl : n1 = n2 := (by rw [← hl2]; exact HL1.out.symm); have HX2 := Lib.hid (own_tkr ho2 R1.out); have HX1 := Lib.hid (HX1.out.up hb2); have HB := Lib.hid (below_on HB.out hb2); clear hb2 ho2 hl2))
  go_loopw [9] (fun x wr => ∃ k q : Nat, k ≤ n1 ∧ x = .int .i64 k ∧ wr = w2.drewN q) (fun x _ => n1 - (intOf x).toNat)
  case atStart => exact ⟨0, 0, Nat.zero_le _, rfl, rfl⟩
  case round =>
    obtain ⟨k, q, hk, rfl, rfl⟩ := hrel
    by_cases hlt : k < n1
    · obtain ⟨t, g, o, e1, rfl, hg, a0, a1, a2, a3⟩ := HX1.out.get hlt
      obtain ⟨u, g2, o2, e2, rfl, hg2, b0, b1, b2, b3⟩ := HX2.out.get hlt
      obtain rfl : t = u := by rw [e1] at e2; exact Option.some.inj e2
      have hk0 : (0 : Int) ≤ (k : Int) := by omega
      have hk1 : (k : Int) < (n1 : Int) := by omega
      have hnq := fun w => tk_neq t.k t.n t.a (bsB t.s) w
      clear e1 e2
      go_wp2
      go_quiet (fail)
      go_wp2
      exact ⟨⟨k + 1, _, hlt, by go_num, rfl⟩, by simp [intOf]; omega⟩
    · obtain ⟨rfl⟩ : n1 = k := by omega
      have HB := Lib.hid (below_dr HB.out q)
      generalize w2.drewN q = w3 at HB ⊢
      go_wp2_with (go_at_call 7; refine (KA.out _ (HL.out.up HB.out)).mono ?_; rintro e w5 ⟨rfl, hb5⟩; have HB5 := Lib.hid (below_on HB.out hb5); clear hb5)
      go_ret
      exact ⟨rfl, HB5.out⟩

end Go.Proofs.YtfpdnhbbbadegaaGreatDoor
