/- Contracts of PutString and GetString, and of their reference; the statement that holds the one against the other. -/
import Derived.Test.YtlgjcjcbleiioaaOctLawTwo
namespace Go.Proofs.Ytlgjcjcbleiioaa
open Go.ChangeShapes Go.WideShapes Go.ChangeAt Go.RowKit Go.PlainAid
set_option linter.unusedSimpArgs false
set_option linter.unusedVariables false

def psB (s : ByteArray) : ByteArray := if s.size ≤ 65535 then strOfNums (putL s.size 2) ++ s else strOfNums []
def psE (s : ByteArray) : Int := if s.size ≤ 65535 then 0 else 8

theorem put2_size (n : Int) : (strOfNums (putL n 2)).size = 2 := by rw [strOfNums_size]; rfl

theorem puts_any (s : ByteArray) (hs : s.size ≤ 9223372036854775807) (w : World) :
    Calls Try.prog 16 #[.string s] w fun e w' => e = .returned (.tuple #[.string (psB s), .int .i64 (psE s)]) ∧ Below w.heap.size w w' := by
  by_cases h : s.size ≤ 65535
  · have hf : fitsP s.size 2 := by unfold fitsP; omega
    have h2 := put2_size s.size
    go_enter Try.func16, Try.ntmps16
    go_wp2_with (go_at_call 9; refine (put_ok _ _ (by simp [okSize]) hf _).mono ?_; rintro e w1 ⟨rfl, hb1⟩)
    go_returns
    exact ⟨ret_si (by simp [psB, h]) (by simp [psE, h]), hb1⟩
  · go_enter Try.func16, Try.ntmps16
    go_wp2
    go_returns
    exact ⟨ret_si (by simp [psB, h]; rfl) (by simp [psE, h]), Below.refl _ _⟩
theorem rputs_any (s : ByteArray) (hs : s.size ≤ 9223372036854775807) (w : World) :
    Calls Try.prog 17 #[.string s] w fun e w' => e = .returned (.tuple #[.string (psB s), .int .i64 (psE s)]) ∧ Below w.heap.size w w' := by
  by_cases h : s.size ≤ 65535
  · have hf : fitsP s.size 2 := by unfold fitsP; omega
    have h2 := put2_size s.size
    go_enter Try.func17, Try.ntmps17
    go_wp2_with (go_at_call 10; refine (rput_ok _ _ (by simp [okSize]) hf _).mono ?_; rintro e w1 ⟨rfl, hb1⟩)
    go_returns
    exact ⟨ret_si (by simp [psB, h]) (by simp [psE, h]), hb1⟩
  · have hf : ¬ fitsP s.size 2 := by unfold fitsP; omega
    go_enter Try.func17, Try.ntmps17
    go_wp2_with (go_at_call 10; refine (rput_big _ _ (by simp [okSize]) hf _).mono ?_; rintro e w' ⟨rfl, rfl⟩)
    go_returns
    exact ⟨ret_si (by simp [psB, h]; rfl) (by simp [psE, h]), Below.refl _ _⟩

def gsE (s : ByteArray) (p : Int) : Int := if unsE s p 2 ≠ 0 then unsE s p 2 else if s.size - (p + 2) < unsV s p 2 then 3 else 0
def gsB (s : ByteArray) (p : Int) : ByteArray := if gsE s p = 0 then s.extract (p + 2).toNat (p + 2 + unsV s p 2).toNat else ⟨#[]⟩
def gsN (s : ByteArray) (p : Int) : Int := if gsE s p = 0 then p + 2 + unsV s p 2 else 0

theorem uns2_bd (s : ByteArray) (p : Int) : 0 ≤ unsV s p 2 ∧ unsV s p 2 ≤ 65535 := by
  have h0 := fromB_bd s p.toNat 0
  have h1 := fromB_bd s p.toNat 1
  unfold unsV; split
  · simp [rdU]; unfold wrap64; omega
  · omega
theorem gs_cases (s : ByteArray) (p : Int) :
    (unsE s p 2 ≠ 0 ∧ gsE s p = unsE s p 2 ∧ gsB s p = ⟨#[]⟩ ∧ gsN s p = 0) ∨
    (unsE s p 2 = 0 ∧ 0 ≤ p ∧ p + 2 ≤ s.size ∧ s.size - (p + 2) < unsV s p 2 ∧ gsE s p = 3 ∧ gsB s p = ⟨#[]⟩ ∧ gsN s p = 0) ∨
    (unsE s p 2 = 0 ∧ 0 ≤ p ∧ p + 2 + unsV s p 2 ≤ s.size ∧ gsE s p = 0 ∧ gsB s p = s.extract (p + 2).toNat (p + 2 + unsV s p 2).toNat ∧ gsN s p = p + 2 + unsV s p 2) := by
  have hc := unsE_cases s p 2
  unfold gsB gsN gsE
  by_cases h : unsE s p 2 = 0
  · have hp : 0 ≤ p ∧ p + 2 ≤ s.size := by omega
    by_cases h2 : s.size - (p + 2) < unsV s p 2
    · simp [h, h2]; omega
    · simp [h, h2]; omega
  · simp [h]

theorem gets_any (s : ByteArray) (p : Int) (hs : s.size ≤ 9223372036854775807) (w : World) :
    Calls Try.prog 18 #[.string s, .int .i64 p] w fun e w' => e = .returned (.tuple #[.string (gsB s p), .int .i64 (gsN s p), .int .i64 (gsE s p)]) ∧ w = w' := by
  have hu := uns_any s p 2 hs w
  have hbd := uns2_bd s p
  have hg := gs_cases s p
  generalize unsV s p 2 = u at *
  generalize unsE s p 2 = x at *
  rcases hg with ⟨h, h1, h2, h3⟩ | ⟨rfl, h, h', h'', h1, h2, h3⟩ | ⟨rfl, h, h', h1, h2, h3⟩
  · rw [h1, h2, h3]
    go_enter Try.func18, Try.ntmps18
    go_wp2_with (go_at_call 12; refine (hu).mono ?_; rintro e w' ⟨rfl, rfl⟩)
    go_returns
    exact ⟨rfl, rfl⟩
  · rw [h1, h2, h3]
    go_enter Try.func18, Try.ntmps18
    go_wp2_with (go_at_call 12; refine (hu).mono ?_; rintro e w' ⟨rfl, rfl⟩)
    go_returns
    exact ⟨rfl, rfl⟩
  · rw [h1, h2, h3]
    go_enter Try.func18, Try.ntmps18
    go_wp2_with (go_at_call 12; refine (hu).mono ?_; rintro e w' ⟨rfl, rfl⟩)
    go_returns
    exact ⟨rfl, rfl⟩
theorem rgets_any (s : ByteArray) (p : Int) (hs : s.size ≤ 9223372036854775807) (w : World) :
    Calls Try.prog 19 #[.string s, .int .i64 p] w fun e w' => e = .returned (.tuple #[.string (gsB s p), .int .i64 (gsN s p), .int .i64 (gsE s p)]) ∧ w = w' := by
  have hu := runs_any s p 2 hs w
  have hbd := uns2_bd s p
  have hg := gs_cases s p
  generalize unsV s p 2 = u at *
  generalize unsE s p 2 = x at *
  rcases hg with ⟨h, h1, h2, h3⟩ | ⟨rfl, h, h', h'', h1, h2, h3⟩ | ⟨rfl, h, h', h1, h2, h3⟩
  · rw [h1, h2, h3]
    go_enter Try.func19, Try.ntmps19
    go_wp2_with (go_at_call 13; refine (hu).mono ?_; rintro e w' ⟨rfl, rfl⟩)
    go_returns
    exact ⟨rfl, rfl⟩
  · rw [h1, h2, h3]
    go_enter Try.func19, Try.ntmps19
    go_wp2_with (go_at_call 13; refine (hu).mono ?_; rintro e w' ⟨rfl, rfl⟩)
    go_returns
    exact ⟨rfl, rfl⟩
  · rw [h1, h2, h3]
    go_enter Try.func19, Try.ntmps19
    go_wp2_with (go_at_call 13; refine (hu).mono ?_; rintro e w' ⟨rfl, rfl⟩)
    go_returns
    exact ⟨rfl, rfl⟩

theorem strref_any (s : ByteArray) (p : Int) (hs : s.size ≤ 9223372036854775807) (w : World) :
    Calls Try.prog 5 #[.string s, .int .i64 p] w fun e w' => e = .returned (.bool true) ∧ Below w.heap.size w w' := by
  go_enter Try.func5, Try.ntmps5
  go_wp2_with (first | (go_at_call 16; refine (puts_any _ hs _).mono ?_; rintro e w1 ⟨rfl, hb1⟩) | (go_at_call 17; refine (rputs_any _ hs _).mono ?_; rintro e w1 ⟨rfl, hb1⟩) | (go_at_call 18; refine (gets_any _ _ hs _).mono ?_; rintro e w' ⟨rfl, rfl⟩) | (go_at_call 19; refine (rgets_any _ _ hs _).mono ?_; rintro e w' ⟨rfl, rfl⟩) | (go_at_call 11; refine (awake_any _).mono ?_; rintro e w1 ⟨rfl, hb1⟩))
  go_returns
  exact ⟨rfl, below_then (by assumption) (below_then (by assumption) hb1)⟩

end Go.Proofs.Ytlgjcjcbleiioaa
