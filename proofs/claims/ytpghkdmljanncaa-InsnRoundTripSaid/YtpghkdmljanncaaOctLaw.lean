/- The statements of layer 2 on Put and on the reading functions. -/
import Derived.Test.YtpghkdmljanncaaOctRefTwo
namespace Go.Proofs.Ytpghkdmljanncaa
open Go.ChangeShapes Go.WideShapes Go.ChangeAt Go.RowKit Go.PlainAid
set_option linter.unusedSimpArgs false
set_option linter.unusedVariables false

theorem runs_any (s : ByteArray) (p z : Int) (hs : s.size ≤ 9223372036854775807) (w : World) :
    Calls Try.prog 93 #[.string s, .int .i64 p, .int .i64 z] w fun e w' => e = .returned (.tuple #[.int .i64 (unsV s p z), .int .i64 (unsE s p z)]) ∧ w = w' := by
  have ht := rsigned_any s p z hs w
  unfold sigV at ht
  rcases unsE_cases s p z with ⟨h, h1, h2⟩ | ⟨h, h', h1, h2⟩ | ⟨h, h', h'', h''', h1, h2⟩ | ⟨h, h', h'', h1, h2⟩
  iterate 3
    · rw [h1, h2] at ht ⊢; rw [sgn_zero] at ht; clear h1 h2
      go_enter Try.func93, Try.ntmps93
      go_wp2_with (go_at_call 105; refine (ht).mono ?_; rintro e w' ⟨rfl, rfl⟩)
      go_returns
      exact ⟨rfl, rfl⟩
  · rw [h1, h2] at ht ⊢; clear h1 h2
    obtain ⟨q, rfl⟩ : ∃ q : Nat, p = q := ⟨p.toNat, by omega⟩
    have hf0 := fromB_bd s q 0
    have hf1 := fromB_bd s q 1
    have hf2 := fromB_bd s q 2
    have hf3 := fromB_bd s q 3
    have hbd := rdU_bd (fromB s q)
    have hu : (z = 1 → 0 ≤ rdU (fromB s q) z.toNat ∧ rdU (fromB s q) z.toNat ≤ 255) ∧ (z = 2 → 0 ≤ rdU (fromB s q) z.toNat ∧ rdU (fromB s q) z.toNat ≤ 65535) ∧ (z = 4 → 0 ≤ rdU (fromB s q) z.toNat ∧ rdU (fromB s q) z.toNat ≤ 4294967295) := by
      refine ⟨?_, ?_, ?_⟩ <;> (rintro rfl; simp [rdU]; unfold wrap64; omega)
    have hbz := hbd z.toNat
    simp only [Int.toNat_natCast] at ht ⊢
    obtain ⟨u, hu'⟩ : ∃ u, rdU (fromB s q) z.toNat = u := ⟨_, rfl⟩
    rw [hu'] at hu hbz ht ⊢
    clear hf0 hf1 hf2 hf3 hbd hu'
    rcases h with rfl | rfl | rfl | rfl
    · have hu := hu.1 rfl
      have hs1 : sgn 1 u = if 128 ≤ u then u - 256 else u := by simp only [sgn]; simp; split <;> omega
      rw [hs1] at ht; clear hs1
      by_cases hc : 128 ≤ u
      · rw [if_pos hc] at ht
        go_enter Try.func93, Try.ntmps93
        go_wp2_with (go_at_call 105; refine (ht).mono ?_; rintro e w' ⟨rfl, rfl⟩)
        go_returns
        exact ⟨ret_ii (by omega) rfl, rfl⟩
      · rw [if_neg hc] at ht
        go_enter Try.func93, Try.ntmps93
        go_wp2_with (go_at_call 105; refine (ht).mono ?_; rintro e w' ⟨rfl, rfl⟩)
        go_returns
        exact ⟨rfl, rfl⟩
    · have hu := hu.2.1 rfl
      have hs1 : sgn 2 u = if 32768 ≤ u then u - 65536 else u := by simp only [sgn]; simp; split <;> omega
      rw [hs1] at ht; clear hs1
      by_cases hc : 32768 ≤ u
      · rw [if_pos hc] at ht
        go_enter Try.func93, Try.ntmps93
        go_wp2_with (go_at_call 105; refine (ht).mono ?_; rintro e w' ⟨rfl, rfl⟩)
        go_returns
        exact ⟨ret_ii (by omega) rfl, rfl⟩
      · rw [if_neg hc] at ht
        go_enter Try.func93, Try.ntmps93
        go_wp2_with (go_at_call 105; refine (ht).mono ?_; rintro e w' ⟨rfl, rfl⟩)
        go_returns
        exact ⟨rfl, rfl⟩
    · have hu := hu.2.2 rfl
      have hs1 : sgn 4 u = if 2147483648 ≤ u then u - 4294967296 else u := by simp only [sgn]; simp; split <;> omega
      rw [hs1] at ht; clear hs1
      by_cases hc : 2147483648 ≤ u
      · rw [if_pos hc] at ht
        go_enter Try.func93, Try.ntmps93
        go_wp2_with (go_at_call 105; refine (ht).mono ?_; rintro e w' ⟨rfl, rfl⟩)
        go_returns
        exact ⟨ret_ii (by omega) rfl, rfl⟩
      · rw [if_neg hc] at ht
        go_enter Try.func93, Try.ntmps93
        go_wp2_with (go_at_call 105; refine (ht).mono ?_; rintro e w' ⟨rfl, rfl⟩)
        go_returns
        exact ⟨rfl, rfl⟩
    · have hs1 : sgn 8 u = u := by simp [sgn]
      rw [hs1] at ht; clear hs1
      go_enter Try.func93, Try.ntmps93
      go_wp2_with (go_at_call 105; refine (ht).mono ?_; rintro e w' ⟨rfl, rfl⟩)
      go_returns
      exact ⟨rfl, rfl⟩

end Go.Proofs.Ytpghkdmljanncaa
