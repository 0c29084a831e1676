/- Layer 8: the reference's get, signed and need. -/
import Derived.Test.YtpghkdmljanncaaInDe
import Derived.Test.YtpghkdmljanncaaOctLaw
namespace Go.Proofs.Ytpghkdmljanncaa
open Go.ChangeShapes Go.WideShapes Go.ChangeAt Go.RowKit Go.PlainAid
set_option linter.unusedSimpArgs false
set_option linter.unusedVariables false

theorem get_any (s : ByteArray) (p z : Int) (hs : s.size ≤ 1000000) (w : World) : Calls Try.prog 95 #[.string s, .int .i64 p, .int .i64 z] w fun e w' => e = .returned (.int .i64 (unsV s p z)) ∧ w = w' := by
  go_enter Try.func95, Try.ntmps95
  go_wp2_with (go_at_call 93; refine (runs_any s _ _ (by omega) _).mono ?_; rintro e w' ⟨rfl, rfl⟩)
  go_ret
  exact ⟨rfl, rfl⟩
theorem sgd_any (s : ByteArray) (p z : Int) (hs : s.size ≤ 1000000) (w : World) : Calls Try.prog 94 #[.string s, .int .i64 p, .int .i64 z] w fun e w' => e = .returned (.int .i64 (sigV s p z)) ∧ w = w' := by
  go_enter Try.func94, Try.ntmps94
  go_wp2_with (go_at_call 105; refine (rsigned_any s _ _ (by omega) _).mono ?_; rintro e w' ⟨rfl, rfl⟩)
  go_ret
  exact ⟨rfl, rfl⟩
theorem uns2_at {s : ByteArray} {q : Int} (h0 : 0 ≤ q) (h : q + 2 ≤ s.size) : unsE s q 2 = 0 := by
  unfold unsE
  rw [if_neg (by simp [okSize]), if_neg (by omega), if_neg (by omega)]
set_option maxRecDepth 100000 in
set_option maxHeartbeats 1000000 in
theorem need_any (s : ByteArray) (p op : Int) (hs : s.size ≤ 1000000) (h0 : 0 ≤ p) (h1 : p ≤ s.size) (hk : 0 ≤ kindV op) (w : World) : Calls Try.prog 66 #[.string s, .int .i64 p, .int .i64 op] w fun e w' => e = .returned (.int .i64 (ndV s p op)) ∧ w = w' := by
  have hop := kind_op hk
  have hsz := sizeV_bd hk
  by_cases h3 : op = 53 ∨ op = 54
  · obtain ⟨hd, ea, hhd, hea, hb⟩ : ∃ hd ea : Int, hdV op = hd ∧ (if op = 54 then 6 else 2 : Int) = ea ∧ ((op = 53 ∧ hd = 9 ∧ ea = 2) ∨ (op = 54 ∧ hd = 5 ∧ ea = 6)) := by
      rcases h3 with rfl | rfl
      · exact ⟨9, 2, rfl, rfl, Or.inl ⟨rfl, rfl, rfl⟩⟩
      · exact ⟨5, 6, rfl, rfl, Or.inr ⟨rfl, rfl, rfl⟩⟩
    have hnd : ndV s p op = (if (s.size : Int) < p + hd then -1 else (if (s.size : Int) < p + (hd + ea * unsV s (p + hd - 2) 2) then -1 else hd + ea * unsV s (p + hd - 2) 2)) := by
      unfold ndV
      rw [if_pos h3, hhd, hea]
    have hu := uns2_nn s (p + hd - 2)
    have HU := Lib.hid (fun w => runs_any s (p + hd - 2) 2 (by omega) w)
    have HE := Lib.hid (fun h : p + hd ≤ s.size => uns2_at (s := s) (q := p + hd - 2) (by omega) (by omega))
    obtain ⟨u, huu⟩ : ∃ u, unsV s (p + hd - 2) 2 = u := ⟨_, rfl⟩
    obtain ⟨x, hxx⟩ : ∃ x, unsE s (p + hd - 2) 2 = x := ⟨_, rfl⟩
    rw [huu] at hu hnd HU
    rw [hxx] at HU HE
    generalize ndV s p op = K at hnd ⊢
    have HS := Lib.hid hnd
    clear hnd huu hxx
    rcases hb with ⟨rfl, rfl, rfl⟩ | ⟨rfl, rfl, rfl⟩
    · have hw1 : IntKind.i64.wrap (p + 9) = p + 9 := by simp [IntKind.wrap, IntKind.bits, IntKind.signed]; omega
      have hw2 : IntKind.i64.wrap (p + 9 - 2) = p + 9 - 2 := by simp [IntKind.wrap, IntKind.bits, IntKind.signed]; omega
      have hw3 : IntKind.i64.wrap (2 * u) = 2 * u := by simp [IntKind.wrap, IntKind.bits, IntKind.signed]; omega
      have hw4 : IntKind.i64.wrap (9 + 2 * u) = 9 + 2 * u := by simp [IntKind.wrap, IntKind.bits, IntKind.signed]; omega
      have hw5 : IntKind.i64.wrap (p + (9 + 2 * u)) = p + (9 + 2 * u) := by simp [IntKind.wrap, IntKind.bits, IntKind.signed]; omega
      by_cases h5 : (s.size : Int) < p + 9
      · have GS := Lib.hid (show K = _ from by rw [HS.out, if_pos h5])
        go_enter Try.func66, Try.ntmps66
        go_wp2_with (first | (go_at_call 87; refine (rsize_any _ _).mono ?_; rintro e w' ⟨rfl, rfl⟩) | (go_at_call 93; refine (HU.out _).mono ?_; rintro e w' ⟨rfl, rfl⟩))
        go_ret
        exact ⟨by rw [GS.out]; rfl, rfl⟩
      · obtain rfl : x = 0 := HE.out (by omega)
        by_cases h6 : (s.size : Int) < p + (9 + 2 * u)
        · have GS := Lib.hid (show K = _ from by rw [HS.out, if_neg h5, if_pos h6])
          go_enter Try.func66, Try.ntmps66
          go_wp2_with (first | (go_at_call 87; refine (rsize_any _ _).mono ?_; rintro e w' ⟨rfl, rfl⟩) | (go_at_call 93; refine (HU.out _).mono ?_; rintro e w' ⟨rfl, rfl⟩))
          go_ret
          exact ⟨by rw [GS.out]; rfl, rfl⟩
        · have GS := Lib.hid (show K = _ from by rw [HS.out, if_neg h5, if_neg h6])
          go_enter Try.func66, Try.ntmps66
          go_wp2_with (first | (go_at_call 87; refine (rsize_any _ _).mono ?_; rintro e w' ⟨rfl, rfl⟩) | (go_at_call 93; refine (HU.out _).mono ?_; rintro e w' ⟨rfl, rfl⟩))
          go_ret
          exact ⟨by rw [GS.out]; rfl, rfl⟩
    · have hw1 : IntKind.i64.wrap (p + 5) = p + 5 := by simp [IntKind.wrap, IntKind.bits, IntKind.signed]; omega
      have hw2 : IntKind.i64.wrap (p + 5 - 2) = p + 5 - 2 := by simp [IntKind.wrap, IntKind.bits, IntKind.signed]; omega
      have hw3 : IntKind.i64.wrap (6 * u) = 6 * u := by simp [IntKind.wrap, IntKind.bits, IntKind.signed]; omega
      have hw4 : IntKind.i64.wrap (5 + 6 * u) = 5 + 6 * u := by simp [IntKind.wrap, IntKind.bits, IntKind.signed]; omega
      have hw5 : IntKind.i64.wrap (p + (5 + 6 * u)) = p + (5 + 6 * u) := by simp [IntKind.wrap, IntKind.bits, IntKind.signed]; omega
      by_cases h5 : (s.size : Int) < p + 5
      · have GS := Lib.hid (show K = _ from by rw [HS.out, if_pos h5])
        go_enter Try.func66, Try.ntmps66
        go_wp2_with (first | (go_at_call 87; refine (rsize_any _ _).mono ?_; rintro e w' ⟨rfl, rfl⟩) | (go_at_call 93; refine (HU.out _).mono ?_; rintro e w' ⟨rfl, rfl⟩))
        go_ret
        exact ⟨by rw [GS.out]; rfl, rfl⟩
      · obtain rfl : x = 0 := HE.out (by omega)
        by_cases h6 : (s.size : Int) < p + (5 + 6 * u)
        · have GS := Lib.hid (show K = _ from by rw [HS.out, if_neg h5, if_pos h6])
          go_enter Try.func66, Try.ntmps66
          go_wp2_with (first | (go_at_call 87; refine (rsize_any _ _).mono ?_; rintro e w' ⟨rfl, rfl⟩) | (go_at_call 93; refine (HU.out _).mono ?_; rintro e w' ⟨rfl, rfl⟩))
          go_ret
          exact ⟨by rw [GS.out]; rfl, rfl⟩
        · have GS := Lib.hid (show K = _ from by rw [HS.out, if_neg h5, if_neg h6])
          go_enter Try.func66, Try.ntmps66
          go_wp2_with (first | (go_at_call 87; refine (rsize_any _ _).mono ?_; rintro e w' ⟨rfl, rfl⟩) | (go_at_call 93; refine (HU.out _).mono ?_; rintro e w' ⟨rfl, rfl⟩))
          go_ret
          exact ⟨by rw [GS.out]; rfl, rfl⟩
  · have hnd : ndV s p op = if (s.size : Int) < p + sizeV op then -1 else sizeV op := if_neg h3
    generalize ndV s p op = K at hnd ⊢
    have HS := Lib.hid hnd
    have hn1 : (op == 53) = false := beqF (fun h => h3 (Or.inl h))
    have hn2 : (op == 54) = false := beqF (fun h => h3 (Or.inr h))
    have hz : 1 ≤ sizeV op ∧ sizeV op ≤ 9 := by omega
    obtain ⟨z, hzz⟩ : ∃ z, sizeV op = z := ⟨_, rfl⟩
    have HZZ := Lib.hid hzz
    rw [hzz] at hz HS
    have hw1 : IntKind.i64.wrap (p + z) = p + z := by simp [IntKind.wrap, IntKind.bits, IntKind.signed]; omega
    clear hnd hsz hzz
    by_cases h5 : (s.size : Int) < p + z
    · have GS := Lib.hid (show K = _ from by rw [HS.out, if_pos h5])
      go_enter Try.func66, Try.ntmps66
      go_wp2_with (go_at_call 87; refine (rsize_any _ _).mono ?_; rintro e w' ⟨rfl, rfl⟩; rw [HZZ.out])
      go_ret
      exact ⟨by rw [GS.out]; rfl, rfl⟩
    · have GS := Lib.hid (show K = _ from by rw [HS.out, if_neg h5])
      go_enter Try.func66, Try.ntmps66
      go_wp2_with (go_at_call 87; refine (rsize_any _ _).mono ?_; rintro e w' ⟨rfl, rfl⟩; rw [HZZ.out])
      go_ret
      exact ⟨by rw [GS.out]; rfl, rfl⟩

end Go.Proofs.Ytpghkdmljanncaa
