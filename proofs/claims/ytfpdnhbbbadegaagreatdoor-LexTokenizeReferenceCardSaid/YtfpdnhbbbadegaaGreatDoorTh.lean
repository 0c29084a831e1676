/- Layer 53, the reference: Tokenize. -/
import Derived.Test.YtfpdnhbbbadegaaGreatDoorTg
import Derived.Test.YtfpdnhbbbadegaaGreatDoorYs
namespace Go.Proofs.YtfpdnhbbbadegaaGreatDoor
open Go.ChangeShapes Go.WideShapes Go.ChangeAt Go.RowKit Go.PlainAid
set_option linter.unusedSimpArgs false
set_option linter.unusedVariables false

set_option maxRecDepth 100000 in
set_option maxHeartbeats 4000000 in
theorem rtokenize_any (s : ByteArray) (hs : s.size ≤ 9223372036854775807) (w : World) (hL : Laid w) : Calls Tryz.prog 6 #[.string s] w (TzRet w (tkL s.data.toList)) := by
  by_cases hb : 20000 < s.size
  · have hN : tkL s.data.toList = ([], 0, 8) := by unfold tkL; rw [if_pos (by rw [len_data]; exact hb)]
    have HR := Lib.hid (show TzRet w (tkL s.data.toList) (.returned (.tuple #[.slice none 0 0, .int .i64 0, .int .i64 8])) w by rw [hN]; exact ⟨none, 0, 0, rfl, OwnR.nil _ _ _ _ _, Below.refl _ _⟩)
    have hb' : (20000 : Int) < (s.size : Int) := by omega
    clear hb hN hL
    go_enter Tryz.func6, Tryz.ntmps6
    go_wp2
    go_ret3
    exact HR.out
  · have hb' : ¬ (20000 : Int) < (s.size : Int) := by omega
    have hs : s.size ≤ 1000000 := by omega
    have hlen := len_data s
    obtain ⟨R, hR⟩ : ∃ R, tkL s.data.toList = R := ⟨_, rfl⟩
    have HS := Lib.hid (show TzI w s.data.toList R 0 0 none 0 [] w by
      refine ⟨Nat.zero_le _, Nat.zero_le _, OwnR.nil _ _ _ _ _, Below.refl _ _, hL, ?_⟩
      rw [← hR]; unfold tkL
      rw [if_neg (by rw [len_data]; exact hb), Nat.sub_zero, List.drop_zero]
      unfold preT
      split
      · rfl
      · rename_i h; exact Prod.ext ((tk_err _ _ _ _).2.1 h).symm rfl)
    rw [hR]
    have HLW := Lib.hid hL
    obtain ⟨b0, hb0⟩ : ∃ b0, skL s.data.toList = b0 := ⟨_, rfl⟩
    have hb0s : b0 ≤ s.size := by have := skL_le s.data.toList; omega
    have KS0 := Lib.hid (fun W => (by have h := rskip_any s 0 hs (Nat.zero_le _) W; rw [List.drop_zero, hb0, Nat.zero_add] at h; exact h : Calls Tryz.prog 19 #[.string s, .int .i64 0] W fun e w' => e = .returned (.int .i64 (b0 : Nat)) ∧ W = w'))
    have HB0 := Lib.hid (show 0 + skL (s.data.toList.drop 0) = b0 by rw [List.drop_zero, Nat.zero_add]; exact hb0)
    clear hb hL hR hb0
    go_enter Tryz.func6, Tryz.ntmps6
    go_wp2_with (go_at_call 19; refine (KS0.out _).mono ?_; rintro e w' ⟨rfl, rfl⟩)
    go_loopw [5, 6] (fun o x wr => ∃ (k a b : Nat) (A : Option Addr) (c : Nat) (L : List Tk), o = .slice A k c ∧ x = .int .i64 b ∧ a + skL (s.data.toList.drop a) = b ∧ b ≤ s.size ∧ TzI w s.data.toList R k a A c L wr) (fun _ x _ => s.size - (intOf x).toNat)
    case atStart => exact ⟨0, 0, b0, none, 0, [], rfl, rfl, HB0.out, hb0s, HS.out⟩
    case round =>
      clear HS KS0 HB0 hb0s
      obtain ⟨k, a, b, A, c, L, rfl, rfl, hab, hbs, I⟩ := hrel
      have II := Lib.hid I
      have HBB := Lib.hid hab
      have hal := I.le
      clear I hab
      by_cases h1 : b < s.size
      · have hne : s.data.toList.drop b ≠ [] := fun e => by have := congrArg List.length e; simp only [List.length_drop, List.length_nil] at this; omega
        have h1i : (b : Int) < (s.size : Int) := by omega
        by_cases h2 : k = 5000
        · subst h2
          have HR := Lib.hid (II.out.many (by rw [HBB.out]; exact hne))
          clear hne
          go_wp2
          go_ret3
          exact HR.out
        · have h2' : ((k : Int) == 5000) = false := by rw [beq_eq_false_iff_ne]; omega
          have KC := Lib.hid (fun W => rscan_any s b hs h1 W)
          cases hsc : scL (s.data.toList.drop b) with
          | none =>
            have HR := Lib.hid (fun w1 => II.out.bad (w1 := w1) HBB.out hne h2 hsc)
            have HSC := Lib.hid hsc
            clear hne h2 hsc
            go_wp2_with (go_at_call 20; refine (KC.out _).mono ?_; rintro e9 w9 ⟨⟨v, rfl, hv⟩, hbw⟩; rw [HSC.out] at hv; obtain ⟨k9, n9, b9, e9, t9, ok, rfl, _, hno⟩ := hv.ex; obtain rfl := hno rfl; clear hv hno; have HBW := Lib.hid hbw; clear hbw)
            go_ret3
            exact HR.out _ (below_al (below_on II.out.bl HBW.out) _)
          | some t =>
            have hz := sc_bd hsc
            rw [List.length_drop, hlen] at hz
            have HR := Lib.hid (fun A' c' w1 => II.out.step (w1 := w1) (A' := A') (c' := c') HBB.out (by omega) h2 hsc)
            have hkb := II.out.kb
            have hH := II.out.bl.size
            have HSC := Lib.hid hsc
            obtain ⟨e2, he2⟩ : ∃ e2, b + t.z = e2 := ⟨_, rfl⟩
            have he2s : e2 ≤ s.size := by omega
            obtain ⟨b2, hb2⟩ : ∃ b2, e2 + skL (s.data.toList.drop e2) = b2 := ⟨_, rfl⟩
            have hb2s : b2 ≤ s.size := by have := skL_le (s.data.toList.drop e2); rw [List.length_drop] at this; omega
            have hb2b : b < b2 := by omega
            have KS := Lib.hid (fun W => (by have h := rskip_any s e2 hs he2s W; rw [hb2] at h; exact h : Calls Tryz.prog 19 #[.string s, .int .i64 (e2 : Int)] W fun e w' => e = .returned (.int .i64 (b2 : Nat)) ∧ W = w'))
            have HE2 := Lib.hid he2
            have HB2' := Lib.hid hb2
            clear hne h2 hsc hz hb2
            go_upto_region 11 with (go_at_call 20; refine (KC.out _).mono ?_; rintro e9 w1 ⟨⟨v, rfl, hv⟩, hbw⟩; rw [HSC.out] at hv; obtain ⟨k9, n9, b9, e9, t9, ok, rfl, hyes, _⟩ := hv.ex; obtain ⟨rfl, rfl, rfl, rfl, rfl, rfl⟩ := hyes _ rfl; clear hv hyes; rw [HE2.out]; have hH1 := hbw.size; have HBW := Lib.hid hbw; clear hbw)
            clear he2
            have hZ := World.alloc_heap_new w1 (.cells #[.int .i64 t.k, .string (bsB t.s), .int .i64 t.n, .int .i64 (b : Nat)] 27)
            have hB2 := below_al (below_on II.out.bl HBW.out) (.cells #[.int .i64 t.k, .string (bsB t.s), .int .i64 t.n, .int .i64 (b : Nat)] 27)
            have hO2 := (II.out.own.below HBW.out).below (below_al (Below.refl _ w1) (.cells #[.int .i64 t.k, .string (bsB t.s), .int .i64 t.n, .int .i64 (b : Nat)] 27))
            generalize w1.alloc (.cells #[.int .i64 t.k, .string (bsB t.s), .int .i64 t.n, .int .i64 (b : Nat)] 27) = W2 at hZ hB2 hO2 ⊢
            generalize w1.heap.size = B at hZ hH1 ⊢
            obtain ⟨⟨z0, z1, z2, z3⟩, fz, yz⟩ := four_cellsT hZ
            have HB2 := Lib.hid hB2
            have HO2 := Lib.hid hO2
            clear hZ hB2 hO2
            go_wp2_with (first | (go_at_call 19; refine (KS.out _).mono ?_; rintro e w' ⟨rfl, rfl⟩) | (at_builtin; refine append_tF (by rfl) _ _ (by rfl) (by rfl) (HO2.out.below (below_al (Below.refl _ _) _)) (by rfl) (newT ⟨t.k, t.s, t.n, (b : Nat)⟩) (by omega) (by have := HB2.out.size; simp; omega) ?_; intro A2 c2 w9 hO9 hb9 hg9; have HO9 := Lib.hid hO9; have HB9 := Lib.hid ((below_al HB2.out _).trans hb9); clear hO9 hb9 hg9))
            have hst := HR.out A2 c2 w9 HO9.out HB9.out (HLW.out.up HB9.out)
            rw [HE2.out] at hst
            refine ⟨⟨k + 1, e2, b2, A2, c2, _, rfl, rfl, HB2'.out, hb2s, hst⟩, ?_⟩
            simp only [intOf, Int.toNat_natCast]
            omega
      · obtain rfl : b = s.size := by omega
        have HR := Lib.hid (II.out.fin (by rw [HBB.out]; exact List.drop_eq_nil_of_le (by omega)))
        go_wp2
        go_ret3
        exact HR.out

end Go.Proofs.YtfpdnhbbbadegaaGreatDoor
